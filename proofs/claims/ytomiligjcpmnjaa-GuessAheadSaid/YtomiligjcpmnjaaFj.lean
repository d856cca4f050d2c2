/- THE SORT: slices.stableCmpFunc, SortStableFunc at 256 bytes that rise. -/
import Derived.Test.YtomiligjcpmnjaaFi
namespace Go.Proofs.Ytomiligjcpmnjaa
set_option maxRecDepth 100000
open Go.RowKit
set_option linter.unusedVariables false
set_option linter.unusedSimpArgs false

def id8 : Nat → UInt8 := fun k => UInt8.ofNat k
theorem id8_nat (k : Nat) (h : k < 256) : (id8 k).toNat = k := by unfold id8; rw [UInt8.toNat_ofNat']; omega
def Conf (f : Nat → UInt8) (a b : Nat) : Prop := ∀ i, a ≤ i → i < b → a ≤ (f i).toNat ∧ (f i).toNat < b
structure Good (S : Nat → Int) (f : Nat → UInt8) (a b : Nat) : Prop where
  srt : Srt S f a b
  conf : Conf f a b
structure Pm (f : Nat → UInt8) : Prop where
  sub : Sub id8 f 0 256
  bus : Sub f id8 0 256
theorem Pm.mg {S : Nat → Int} {f g : Nat → UInt8} {a b : Nat} (h : Pm f) (m : Mg S a b f g) (hb : b ≤ 256) : Pm g := by
  refine ⟨fun i h1 h2 => ?_, fun i h1 h2 => ?_⟩
  · obtain ⟨j, q1, q2, q3⟩ := h.sub i h1 h2
    by_cases c : a ≤ j ∧ j < b
    · obtain ⟨k, r1, r2, r3⟩ := m.sub j c.1 c.2
      exact ⟨k, by omega, by omega, by rw [r3, q3]⟩
    · exact ⟨j, q1, q2, by rw [m.out j (by omega), q3]⟩
  · by_cases c : a ≤ i ∧ i < b
    · obtain ⟨k, r1, r2, r3⟩ := m.bus i c.1 c.2
      obtain ⟨l, t1, t2, t3⟩ := h.bus k (by omega) (by omega)
      exact ⟨l, t1, t2, by rw [t3, r3]⟩
    · obtain ⟨l, t1, t2, t3⟩ := h.bus i h1 h2
      exact ⟨l, t1, t2, by rw [t3, m.out i (by omega)]⟩
theorem Good.none (S : Nat → Int) (f : Nat → UInt8) (a b : Nat) (h : b ≤ a) : Good S f a b := ⟨fun i j h1 h2 h3 => by omega, fun i h1 h2 => by omega⟩
theorem Good.away {S : Nat → Int} {f g : Nat → UInt8} {a b x y : Nat} (h : Good S f x y) (m : Mg S a b f g) (hd : y ≤ a ∨ b ≤ x) : Good S g x y := by
  have e : ∀ k, x ≤ k → k < y → g k = f k := fun k h1 h2 => m.out k (by omega)
  exact ⟨h.srt.congr e, fun i h1 h2 => by rw [e i h1 h2]; exact h.conf i h1 h2⟩
theorem Good.mg {S : Nat → Int} {f g : Nat → UInt8} {a b : Nat} (m : Mg S a b f g) (h : Conf f a b) : Good S g a b :=
  ⟨m.srt, fun i h1 h2 => by obtain ⟨j, q1, q2, q3⟩ := m.bus i h1 h2; rw [← q3]; exact h j q1 q2⟩
theorem Good.two {S : Nat → Int} {f g : Nat → UInt8} {a c b : Nat} (h1 : Good S f a c) (h2 : Good S f c b) (hac : a ≤ c) (hcb : c ≤ b) (m : Mg S a b f g) : Good S g a b :=
  .mg m (fun i q1 q2 => by
    by_cases h : i < c
    · have := h1.conf i q1 h; omega
    · have := h2.conf i (by omega) q2; omega)
theorem Good.tie {S : Nat → Int} {f : Nat → UInt8} {a c b : Nat} (h1 : Good S f a c) (h2 : Good S f c b) : Tie S f a c b := fun i j q1 q2 q3 q4 _ => by
  have := h1.conf i q1 q2; have := h2.conf j q3 q4; omega
/-- blocks of c values, each in order -/
def Lv (S : Nat → Int) (f : Nat → UInt8) (c : Nat) : Prop := ∀ x, x % c = 0 → Good S f x (min (x + c) 256)
/-- below a they are of 2 c values already -/
structure IL (S : Nat → Int) (f : Nat → UInt8) (c a : Nat) : Prop where
  al : a % (2 * c) = 0
  lo : ∀ x, x % (2 * c) = 0 → x + 2 * c ≤ a → Good S f x (x + 2 * c)
  hi : ∀ x, a ≤ x → x % c = 0 → Good S f x (min (x + c) 256)
def Cs (c : Nat) : Prop := c = 20 ∨ c = 40 ∨ c = 80 ∨ c = 160
theorem il_start {S : Nat → Int} {f : Nat → UInt8} {c : Nat} (hc : Cs c) (h : Lv S f c) : IL S f c 0 :=
  ⟨by simp, fun x h1 h2 => by unfold Cs at hc; omega, fun x _ h2 => h x h2⟩
theorem il_step {S : Nat → Int} {f g : Nat → UInt8} {c a : Nat} (hc : Cs c) (h : IL S f c a) (hb : a + 2 * c ≤ 256) (m : Mg S a (a + 2 * c) f g) : IL S g c (a + 2 * c) := by
  obtain ⟨h1, h2, h3⟩ := h
  have e1 : (a + c) % c = 0 := by rcases hc with rfl | rfl | rfl | rfl <;> omega
  have e2 : a % c = 0 := by rcases hc with rfl | rfl | rfl | rfl <;> omega
  have e3 : (a + 2 * c) % (2 * c) = 0 := by rcases hc with rfl | rfl | rfl | rfl <;> omega
  refine ⟨e3, fun x q1 q2 => ?_, fun x q1 q2 => (h3 x (by omega) q2).away m (.inr (by omega))⟩
  by_cases e : x = a
  · subst e
    have g1 := h3 x (Nat.le_refl _) e2
    have g2 := h3 _ (Nat.le_add_right x _) e1
    rw [Nat.min_eq_left (by omega)] at g1 g2
    rw [show x + c + c = x + 2 * c by omega] at g2
    exact Good.two g1 g2 (by omega) (by omega) m
  · have : x + 2 * c ≤ a := by rcases hc with rfl | rfl | rfl | rfl <;> omega
    exact (h2 x q1 this).away m (.inl this)
theorem il_pre {S : Nat → Int} {f : Nat → UInt8} {c a b : Nat} (hc : Cs c) (h : IL S f c a) (hm : a + c < 256) (hb : b = min (a + 2 * c) 256) : Srt S f a (a + c) ∧ Srt S f (a + c) b ∧ Tie S f a (a + c) b := by
  obtain ⟨h1, h2, h3⟩ := h
  have e : min (a + c + c) 256 = b := by rw [hb]; congr 1; omega
  have g1 := h3 a (Nat.le_refl _) (by rcases hc with rfl | rfl | rfl | rfl <;> omega)
  have g2 := h3 (a + c) (Nat.le_add_right _ _) (by rcases hc with rfl | rfl | rfl | rfl <;> omega)
  rw [Nat.min_eq_left (by omega)] at g1
  rw [e] at g2
  exact ⟨g1.srt, g2.srt, g1.tie g2⟩
theorem il_end1 {S : Nat → Int} {f g : Nat → UInt8} {c a : Nat} (hc : Cs c) (h : IL S f c a) (hb : 256 < a + 2 * c) (hm : a + c < 256) (m : Mg S a 256 f g) : Lv S g (2 * c) := by
  obtain ⟨h1, h2, h3⟩ := h
  intro x hx
  by_cases e : x = a
  · subst e
    rw [Nat.min_eq_right (by omega)]
    have g1 := h3 x (Nat.le_refl _) (by rcases hc with rfl | rfl | rfl | rfl <;> omega)
    have g2 := h3 (x + c) (Nat.le_add_right _ _) (by rcases hc with rfl | rfl | rfl | rfl <;> omega)
    rw [Nat.min_eq_left (by omega)] at g1
    rw [Nat.min_eq_right (by omega)] at g2
    exact Good.two g1 g2 (by omega) (by omega) m
  by_cases e2 : x < a
  · have : x + 2 * c ≤ a := by rcases hc with rfl | rfl | rfl | rfl <;> omega
    rw [Nat.min_eq_left (by omega)]
    exact (h2 x hx this).away m (.inl this)
  · exact Good.none _ _ _ _ (by rcases hc with rfl | rfl | rfl | rfl <;> omega)
theorem il_end2 {S : Nat → Int} {f : Nat → UInt8} {c a : Nat} (hc : Cs c) (h : IL S f c a) (hm : 256 ≤ a + c) (ha : a ≤ 256) : Lv S f (2 * c) := by
  obtain ⟨h1, h2, h3⟩ := h
  intro x hx
  by_cases e : x = a
  · subst e
    have g1 := h3 x (Nat.le_refl _) (by rcases hc with rfl | rfl | rfl | rfl <;> omega)
    rw [Nat.min_eq_right (by omega)] at g1 ⊢
    exact g1
  by_cases e2 : x < a
  · have : x + 2 * c ≤ a := by rcases hc with rfl | rfl | rfl | rfl <;> omega
    rw [Nat.min_eq_left (by omega)]
    exact h2 x hx this
  · exact Good.none _ _ _ _ (by rcases hc with rfl | rfl | rfl | rfl <;> omega)
/-- the first round: blocks of 20, below a -/
structure I0 (S : Nat → Int) (f : Nat → UInt8) (a : Nat) : Prop where
  lo : ∀ x, x % 20 = 0 → x + 20 ≤ a → Good S f x (x + 20)
  hi : ∀ i, a ≤ i → i < 256 → f i = id8 i
theorem I0.ris {S : Nat → Int} {f : Nat → UInt8} {a b : Nat} (h : I0 S f a) (hb : b ≤ 256) : Ris f a b := fun i j h1 h2 h3 => by
  rw [h.hi i h1 (by omega), h.hi j (by omega) (by omega), id8_nat i (by omega), id8_nat j (by omega)]; exact h2
theorem I0.conf {S : Nat → Int} {f : Nat → UInt8} {a b : Nat} (h : I0 S f a) (hb : b ≤ 256) : Conf f a b := fun i h1 h2 => by
  rw [h.hi i h1 (by omega), id8_nat i (by omega)]; exact ⟨h1, h2⟩
theorem I0.step {S : Nat → Int} {f g : Nat → UInt8} {a : Nat} (h : I0 S f a) (ha : a % 20 = 0) (hb : a + 20 ≤ 256) (m : Mg S a (a + 20) f g) : I0 S g (a + 20) :=
  ⟨fun x h1 h2 => by
    by_cases e : x = a
    · subst e; exact .mg m (h.conf hb)
    · exact (h.lo x h1 (by omega)).away m (.inl (by omega)), fun i h1 h2 => by rw [m.out i (.inr h1)]; exact h.hi i (by omega) h2⟩
theorem I0.last {S : Nat → Int} {f g : Nat → UInt8} (h : I0 S f 240) (m : Mg S 240 256 f g) : Lv S g 20 := fun x hx => by
  by_cases e : x + 20 ≤ 240
  · rw [Nat.min_eq_left (by omega)]
    exact (h.lo x hx e).away m (.inl e)
  · by_cases e2 : x = 240
    · subst e2
      exact .mg m (h.conf (Nat.le_refl _))
    · exact Good.none _ _ _ _ (by omega)

theorem n240 : ((240 : Nat) : Int) = 240 := rfl
theorem n256 : ((256 : Nat) : Int) = 256 := rfl
set_option maxHeartbeats 2000000 in
theorem stable_any (w : World) (s g : Nat) (S : Nat → Int) (h : SO w w s g S id8) :
    Calls Try.prog 47 #[sV g, .int .i64 256, cmpV s] w fun e w' => e = .returned (.tuple #[]) ∧ ∃ F, SO w w' s g S F ∧ Srt S F 0 256 ∧ Pm F := by
  have HI := Lib.hid (fun w f a b => insert_any w s g S f a b)
  have HM := Lib.hid (fun w f a m b => sym_any 256 w s g S f a m b)
  unfold sV cmpV at HI HM ⊢
  have H0 := Lib.hid h
  clear h
  go_enter Try.func47, Try.ntmps47
  go_wp2_with fail
  go_loopw [7, 8] (fun u v wr => ∃ a b : Nat, u = .int .i64 a ∧ v = .int .i64 b ∧ b = a + 20 ∧ a % 20 = 0 ∧ a ≤ 240 ∧ Hid (∃ F, SO w wr s g S F ∧ I0 S F a ∧ Pm F)) (fun u v _ => 256 - (intOf u).toNat)
  case atStart => exact ⟨0, 20, rfl, rfl, rfl, rfl, by omega, id8, H0.out, ⟨fun x h1 h2 => by omega, fun _ _ _ => rfl⟩, ⟨fun i h1 h2 => ⟨i, h1, h2, rfl⟩, fun i h1 h2 => ⟨i, h1, h2, rfl⟩⟩⟩
  case round =>
    obtain ⟨a, b, rfl, rfl, hb, hal, ha, HF⟩ := hrel
    obtain ⟨F, hs, hi, hp⟩ := HF.out
    have HS := Lib.hid hs
    have HF2 := Lib.hid hi
    have HP := Lib.hid hp
    clear HF hs hi hp
    by_cases hlt : b ≤ 256
    · have hz : (b : Int) ≤ 256 := by omega
      have HC := Lib.hid (HI.out wr F a b HS.out.self (by omega) hlt (HF2.out.ris hlt))
      have HB := Lib.hid hb
      clear hb
      go_wp2_with fail
      (with_reducible refine HC.out.mono ?_)
      rintro e w1 ⟨rfl, F2, hs1, hm1⟩
      have HX : Hid (∃ F, SO w w1 s g S F ∧ I0 S F b ∧ Pm F) := ⟨F2, HS.out.again hs1, by have := HB.out; subst this; exact HF2.out.step hal hlt hm1, HP.out.mg hm1 hlt⟩
      clear hs1 hm1 HC
      go_wp2_with fail
      have := HB.out
      exact ⟨⟨b, b + 20, rfl, by go_num, rfl, by omega, by omega, HX⟩, by simp [intOf]; omega⟩
    · obtain rfl : a = 240 := by omega
      obtain rfl : b = 260 := by omega
      have HC := Lib.hid (HI.out wr F 240 256 HS.out.self (by omega) (by omega) (HF2.out.ris (by omega)))
      rw [n240, n256] at HC
      go_wp2_with fail
      (with_reducible refine HC.out.mono ?_)
      rintro e w1 ⟨rfl, F2, hs1, hm1⟩
      have HX : Hid (∃ F, SO w w1 s g S F ∧ Lv S F 20 ∧ Pm F) := ⟨F2, HS.out.again hs1, HF2.out.last hm1, HP.out.mg hm1 (by omega)⟩
      clear hs1 hm1 HC HI HS HF2 HP hlt
      go_wp2_with fail
      go_loopw [6] (fun u wr => ∃ c : Nat, u = .int .i64 c ∧ Hid (Cs c ∨ c = 320) ∧ Hid (∃ F, SO w wr s g S F ∧ Lv S F c ∧ Pm F)) (fun u _ => 320 - (intOf u).toNat)
      case atStart => exact ⟨20, rfl, .inl (.inl rfl), HX⟩
      case round =>
        clear HX
        obtain ⟨c, rfl, HCs, HX⟩ := hrel
        by_cases hlt : c < 256
        · have hz : (c : Int) < 256 := by omega
          have hcs : Hid (Cs c) := by
            rcases HCs.out with h | h
            · exact h
            · omega
          obtain ⟨c2, hc2⟩ : ∃ c2 : Nat, 2 * (c : Int) = c2 := ⟨2 * c, by omega⟩
          have hc3 : (c : Int) * 2 = (c2 : Int) := by omega
          have hc4 : c2 ≤ 320 := by have := hcs.out; unfold Cs at this; omega
          have HC2 : Hid (c2 = 2 * c ∧ 20 ≤ c) := by have := hcs.out; unfold Cs at this; unfold Hid; omega
          go_wp2_with fail
          go_loopw [7, 8] (fun u v wr => ∃ a b : Nat, u = .int .i64 a ∧ v = .int .i64 b ∧ b = a + c2 ∧ a ≤ 256 ∧ Hid (∃ F, SO w wr s g S F ∧ IL S F c a ∧ Pm F)) (fun u v _ => 256 - (intOf u).toNat)
          case atStart =>
            obtain ⟨F, q1, q2, q3⟩ := HX.out
            exact ⟨0, c2, rfl, rfl, by omega, by omega, F, q1, il_start hcs.out q2, q3⟩
          case round =>
            clear HX
            obtain ⟨a, b, rfl, rfl, hb, ha, HX⟩ := hrel
            obtain ⟨F, hs, hi, hp⟩ := HX.out
            have HS := Lib.hid hs
            have HF2 := Lib.hid hi
            have HP := Lib.hid hp
            clear HX hs hi hp
            obtain ⟨m, hm⟩ : ∃ m : Nat, (a : Int) + (c : Int) = m := ⟨a + c, by omega⟩
            have HMm : Hid (m = a + c) := by unfold Hid; omega
            by_cases hlt2 : b ≤ 256
            · have hz2 : (b : Int) ≤ 256 := by omega
              have HC : Hid _ := (HM.out wr F a m b (by omega) HS.out.self (by have := HC2.out; have := HMm.out; omega) (by have := HC2.out; have := HMm.out; omega) hlt2)
              have hpre := il_pre hcs.out HF2.out (b := b) (by have := HC2.out; omega) (by have := HC2.out; omega)
              rw [← HMm.out] at hpre
              have HC3 := Lib.hid (HC.out hpre.1 hpre.2.1 hpre.2.2)
              have HB := Lib.hid hb
              obtain ⟨b2, hb2⟩ : ∃ b2 : Nat, (b : Int) + (c2 : Int) = b2 := ⟨b + c2, by omega⟩
              have HB2 : Hid (b2 = b + c2) := by unfold Hid; omega
              have hb3 : b2 ≤ 1000 := by omega
              clear hb HC hpre
              go_wp2_with fail
              (with_reducible refine HC3.out.mono ?_)
              rintro e w1 ⟨rfl, F2, hs1, hm1⟩
              have HX : Hid (∃ F, SO w w1 s g S F ∧ IL S F c b ∧ Pm F) := ⟨F2, HS.out.again hs1, by
                have e : b = a + 2 * c := by have := HB.out; have := HC2.out; omega
                subst e
                exact il_step hcs.out HF2.out hlt2 hm1, HP.out.mg hm1 hlt2⟩
              clear hs1 hm1 HC3
              go_wp2_with fail
              have := HB.out
              have := HC2.out
              exact ⟨⟨b, b2, rfl, rfl, HB2.out, by omega, HX⟩, by simp [intOf]; omega⟩
            · have hz2 : ¬ (b : Int) ≤ 256 := by omega
              have HB := Lib.hid hb
              have hm1 : m ≤ 1000 := by omega
              clear hb
              by_cases hlt3 : m < 256
              · have hz3 : (m : Int) < 256 := by omega
                have hpre := il_pre hcs.out HF2.out (b := 256) (by have := HMm.out; omega) (by have := HC2.out; have := HB.out; omega)
                rw [← HMm.out] at hpre
                have HC3 := Lib.hid (HM.out wr F a m 256 (by omega) HS.out.self (by have := HC2.out; have := HMm.out; omega) hlt3 (Nat.le_refl _) hpre.1 hpre.2.1 hpre.2.2)
                clear hpre
                rw [n256] at HC3
                go_wp2_with fail
                (with_reducible refine HC3.out.mono ?_)
                rintro e w1 ⟨rfl, F2, hs1, hm1⟩
                have HX : Hid (∃ F, SO w w1 s g S F ∧ Lv S F c2 ∧ Pm F) := ⟨F2, HS.out.again hs1, by
                  rw [HC2.out.1]
                  exact il_end1 hcs.out HF2.out (by have := HC2.out; have := HB.out; omega) (by have := HMm.out; omega) hm1, HP.out.mg hm1 (Nat.le_refl _)⟩
                clear hs1 hm1 HC3
                go_wp2_with fail
                have h5 := HC2.out
                have h6 := hcs.out
                exact ⟨⟨c2, rfl, by unfold Cs at *; unfold Hid; omega, HX⟩, by simp [intOf]; omega⟩
              · have hz3 : ¬ (m : Int) < 256 := by omega
                have HX : Hid (∃ F, SO w wr s g S F ∧ Lv S F c2 ∧ Pm F) := ⟨F, HS.out, by
                  rw [HC2.out.1]
                  exact il_end2 hcs.out HF2.out (by have := HMm.out; omega) ha, HP.out⟩
                go_wp2_with fail
                have h5 := HC2.out
                have h6 := hcs.out
                exact ⟨⟨c2, rfl, by unfold Cs at *; unfold Hid; omega, HX⟩, by simp [intOf]; omega⟩
        · have hz : ¬ (c : Int) < 256 := by omega
          obtain ⟨F, q1, q2, q3⟩ := HX.out
          have HD : Hid (∃ F, SO w wr s g S F ∧ Srt S F 0 256 ∧ Pm F) := ⟨F, q1, by
            rcases HCs.out with h | h
            · unfold Cs at h; omega
            · subst h; exact (q2 0 rfl).srt, q3⟩
          clear q1 q2 q3 HX
          go_wp2_with fail
          go_end0
          exact ⟨rfl, HD.out⟩
set_option maxHeartbeats 1000000 in
theorem sort_any (w : World) (s g : Nat) (S : Nat → Int) (h : SO w w s g S id8) :
    Calls Try.prog 37 #[sV g, cmpV s] w fun e w' => e = .returned (.tuple #[]) ∧ ∃ F, SO w w' s g S F ∧ Srt S F 0 256 ∧ Pm F := by
  have HC := Lib.hid (stable_any w s g S h)
  clear h
  unfold sV cmpV at HC ⊢
  go_enter Try.func37, Try.ntmps37
  go_wp2_with fail
  (with_reducible refine HC.out.mono ?_)
  rintro e w1 ⟨rfl, F2, hs1, hm1, hp1⟩
  have HX : Hid (∃ F, SO w w1 s g S F ∧ Srt S F 0 256 ∧ Pm F) := ⟨F2, hs1, hm1, hp1⟩
  clear hs1 hm1 hp1 HC
  go_wp2_with fail
  go_end0
  exact ⟨rfl, HX.out⟩
end Go.Proofs.Ytomiligjcpmnjaa
