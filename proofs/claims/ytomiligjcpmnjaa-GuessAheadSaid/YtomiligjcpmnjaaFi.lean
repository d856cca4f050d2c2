/- THE SORT's parts: slices.symMergeCmpFunc. -/
import Derived.Test.YtomiligjcpmnjaaFh
import Derived.Deep.CutBlock
import Derived.Deep.CutRange
namespace Go.Proofs.Ytomiligjcpmnjaa
set_option maxRecDepth 100000
open Go.RowKit
set_option linter.unusedVariables false
set_option linter.unusedSimpArgs false

/-- where the search for the turn begins and ends -/
def Lim (a m b mid n lo hi : Nat) : Prop := (mid < m ∧ lo + b = n ∧ hi = mid) ∨ (m ≤ mid ∧ lo = a ∧ hi = m)
/-- what the search knows -/
def Sch (S : Nat → Int) (f : Nat → UInt8) (n lo hi st r : Nat) : Prop := (lo < st → S (f (n - st)).toNat ≤ S (f (st - 1)).toNat) ∧ (r < hi → S (f r).toNat < S (f (n - 1 - r)).toNat)
structure Fnd (S : Nat → Int) (f : Nat → UInt8) (a m b mid st e : Nat) : Prop where
  h1 : a ≤ st
  h2 : st ≤ m
  h3 : m ≤ e
  h4 : e ≤ b
  h5 : st + (e - m) = mid
  hx : ∀ x y, a ≤ x → x < st → e ≤ y → y < b → ah S (f x) (f y)
  hy : ∀ y x, m ≤ y → y < e → st ≤ x → x < m → ah S (f y) (f x)
theorem sch_end {S : Nat → Int} {f : Nat → UInt8} {a m b mid n lo hi st e : Nat} (ham : a < m) (hmb : m < b) (hmid : mid = (a + b) / 2) (hn : n = mid + m) (hl : Lim a m b mid n lo hi) (h0 : lo ≤ st) (h1 : st ≤ hi) (he : e = n - st)
    (hs1 : Srt S f a m) (hs2 : Srt S f m b) (ht : Tie S f a m b) (hs : Sch S f n lo hi st st) : Fnd S f a m b mid st e := by
  have b1 : a ≤ st := by unfold Lim at hl; omega
  have b2 : st ≤ m := by unfold Lim at hl; omega
  have b3 : m ≤ e := by unfold Lim at hl; omega
  have b4 : e ≤ b := by unfold Lim at hl; omega
  refine ⟨b1, b2, b3, b4, by omega, fun x y q1 q2 q3 q4 => ?_, fun y x q1 q2 q3 q4 => ?_⟩
  · have hlo : lo < st := by unfold Lim at hl; omega
    have hk := hs.1 hlo
    rw [← he] at hk
    have h7 := ht (st - 1) e (by omega) (by omega) b3 (by omega)
    have h8 : ah S (f (st - 1)) (f e) := by unfold ah; omega
    have h9 : ah S (f x) (f e) := by
      by_cases c : x = st - 1
      · rw [c]; exact h8
      · exact ah_trans (hs1 x (st - 1) q1 (by omega) (by omega)) h8
    by_cases c : y = e
    · rw [c]; exact h9
    · exact ah_trans h9 (hs2 e y b3 (by omega) q4)
  · have hhi : st < hi := by unfold Lim at hl; omega
    have hk := hs.2 hhi
    rw [show n - 1 - st = e - 1 by omega] at hk
    have h8 : ah S (f (e - 1)) (f st) := .inl hk
    have h9 : ah S (f y) (f st) := by
      by_cases c : y = e - 1
      · rw [c]; exact h8
      · exact ah_trans (hs2 y (e - 1) q1 (by omega) (by omega)) h8
    by_cases c : x = st
    · rw [c]; exact h9
    · exact ah_trans h9 (hs1 st x b1 (by omega) q4)
/-- the turned row's halves, to be put in order -/
structure Hlv (S : Nat → Int) (f g : Nat → UInt8) (a m b mid st e : Nat) : Prop where
  sub : Sub f g a b
  bus : Sub g f a b
  out : Out f g a b
  l1 : Srt S g a st
  l2 : Srt S g st mid
  lt : Tie S g a st mid
  r1 : Srt S g mid e
  r2 : Srt S g e b
  rt : Tie S g mid e b
  cr : ∀ i j, a ≤ i → i < mid → mid ≤ j → j < b → ah S (g i) (g j)
theorem fnd_hlv {S : Nat → Int} {f : Nat → UInt8} {a m b mid st e : Nat} (h : Fnd S f a m b mid st e) (hs1 : Srt S f a m) (hs2 : Srt S f m b) (ht : Tie S f a m b) : Hlv S f (rot st m e f) a m b mid st e := by
  obtain ⟨h1, h2, h3, h4, h5, hx, hy⟩ := h
  have L1 : ∀ k, k < st → rot st m e f k = f k := fun k hk => rot_out st m e f h2 h3 k (.inl hk)
  have L2 : ∀ k, st ≤ k → k < mid → rot st m e f k = f (m + (k - st)) := fun k hk h => rot_at1 st m e k f hk (by omega)
  have R1 : ∀ k, mid ≤ k → k < e → rot st m e f k = f (k - (e - m)) := fun k hk h => rot_at2 st m e k f (by omega) h
  have R2 : ∀ k, e ≤ k → rot st m e f k = f k := fun k hk => rot_out st m e f h2 h3 k (.inr hk)
  refine ⟨rot_sub st m e a b f h2 h3 h1 h4, rot_bus st m e a b f h2 h3 h1 h4, fun k hk => rot_out st m e f h2 h3 k (by omega), ?_, ?_, ?_, ?_, ?_, ?_, ?_⟩
  · intro i j q1 q2 q3; rw [L1 i (by omega), L1 j q3]; exact hs1 i j q1 q2 (by omega)
  · intro i j q1 q2 q3; rw [L2 i q1 (by omega), L2 j (by omega) q3]; exact hs2 _ _ (by omega) (by omega) (by omega)
  · intro i j q1 q2 q3 q4; rw [L1 i q2, L2 j q3 q4]; exact ht _ _ q1 (by omega) (by omega) (by omega)
  · intro i j q1 q2 q3; rw [R1 i q1 (by omega), R1 j (by omega) q3]; exact hs1 _ _ (by omega) (by omega) (by omega)
  · intro i j q1 q2 q3; rw [R2 i q1, R2 j (by omega)]; exact hs2 i j (by omega) q2 q3
  · intro i j q1 q2 q3 q4; rw [R1 i q1 q2, R2 j q3]; exact ht _ _ (by omega) (by omega) (by omega) q4
  · rw [← h5]; exact rot_cross hs1 hs2 h1 h2 h3 h4 hx hy
theorem Tie.congr {S : Nat → Int} {f g : Nat → UInt8} {a m b : Nat} (h : Tie S f a m b) (e : ∀ k, a ≤ k → k < b → g k = f k) (h1 : a ≤ m) (h2 : m ≤ b) : Tie S g a m b := fun i j q1 q2 q3 q4 => by
  rw [e i q1 (by omega), e j (by omega) q4]; exact h i j q1 q2 q3 q4

set_option maxHeartbeats 2000000 in
theorem sym_any : ∀ (N : Nat) (w : World) (s g : Nat) (S : Nat → Int) (f : Nat → UInt8) (a m b : Nat), b - a ≤ N → SO w w s g S f → a < m → m < b → b ≤ 256 → Srt S f a m → Srt S f m b → Tie S f a m b →
    Calls Try.prog 51 #[sV g, .int .i64 a, .int .i64 m, .int .i64 b, cmpV s] w fun e w' => e = .returned (.tuple #[]) ∧ ∃ F, SO w w' s g S F ∧ Mg S a b f F := by
  intro N
  induction N with
  | zero => intro w s g S f a m b hN hs ham hmb hb h1 h2 ht; omega
  | succ N ih =>
  intro w s g S f a m b hN hs ham hmb hb h1 h2 ht
  by_cases c1 : m = a + 1
  · exact sym_up w s g S f a m b hs c1 hmb hb h2 ht
  by_cases c2 : b = m + 1
  · exact sym_down w s g S f a m b hs (by omega) c2 hb h1 ht
  have HI := Lib.hid (fun w f a m b => ih w s g S f a m b)
  clear ih
  have HR := Lib.hid rot_any
  unfold sV cmpV at HI HR ⊢
  have H0 := Lib.hid hs
  have H1 := Lib.hid h1
  have H2 := Lib.hid h2
  have HT := Lib.hid ht
  have HN := Lib.hid hN
  obtain ⟨d, hd⟩ : ∃ d : Nat, (m : Int) - (a : Int) = d := ⟨m - a, by omega⟩
  have e0 : ((d : Int) == 1) = false := by simp; omega
  obtain ⟨d2, hd2⟩ : ∃ d : Nat, (b : Int) - (m : Int) = d := ⟨b - m, by omega⟩
  have e1 : ((d2 : Int) == 1) = false := by simp; omega
  obtain ⟨q, hq⟩ : ∃ q : Nat, (a : Int) + (b : Int) = q := ⟨a + b, by omega⟩
  obtain ⟨mid, hmid⟩ : ∃ t : Nat, (q : Int) / 2 = t := ⟨q / 2, by omega⟩
  obtain ⟨n, hn⟩ : ∃ t : Nat, (mid : Int) + (m : Int) = t := ⟨mid + m, by omega⟩
  have q1 : q < 512 := by omega
  have n1 : n < 512 := by omega
  have n0 : 0 < n := by omega
  have mid1 : mid < 256 := by omega
  have HM : Hid (mid = (a + b) / 2 ∧ n = mid + m) := by unfold Hid; omega
  clear hs h1 h2 ht hN c1 c2
  go_enter Try.func51, Try.ntmps51
  go_upto_if 140 with fail
  go_cut [20, 21] from 138 to 146 (fun s20 s21 wx => ∃ lo hi : Nat, s20 = .int .i64 lo ∧ s21 = .int .i64 hi ∧ Hid (Lim a m b mid n lo hi) ∧ w = wx)
  case first =>
    by_cases hm : mid < m
    · have hmz : (mid : Int) < (m : Int) := by omega
      obtain ⟨l, hl⟩ : ∃ l : Nat, (n : Int) - (b : Int) = l := ⟨n - b, by have := HM.out; omega⟩
      go_wp2_with fail
      go_meet
      exact ⟨l, mid, rfl, rfl, .inl ⟨hm, by omega, rfl⟩, rfl⟩
    · have hmz : ¬ (mid : Int) < (m : Int) := by omega
      go_wp2_with fail
      go_meet
      exact ⟨a, m, rfl, rfl, .inr ⟨by omega, rfl, rfl⟩, rfl⟩
  case rest =>
    obtain ⟨lo, hi, rfl, rfl, HLim, rfl⟩ := hcut
    obtain ⟨p, hp⟩ : ∃ p : Nat, (n : Int) - 1 = p := ⟨n - 1, by omega⟩
    have HP : Hid (p + 1 = n) := by unfold Hid; omega
    have HB : Hid (lo ≤ hi ∧ hi < n ∧ hi ≤ 256 ∧ hi ≤ m ∧ n ≤ b + lo) := by have := HM.out; have h := HLim.out; unfold Lim at h; unfold Hid; omega
    go_wp2_with fail
    go_loopw [20, 21] (fun u v wr => ∃ st r : Nat, u = .int .i64 st ∧ v = .int .i64 r ∧ lo ≤ st ∧ st ≤ r ∧ r ≤ hi ∧ Hid (SO w wr s g S f) ∧ Hid (Sch S f n lo hi st r)) (fun u v _ => (intOf v).toNat - (intOf u).toNat)
    case atStart => exact ⟨lo, hi, rfl, rfl, Nat.le_refl _, HB.out.1, Nat.le_refl _, H0, fun h => by omega, fun h => by omega⟩
    case round =>
      obtain ⟨st, r, rfl, rfl, hls, hsr, hrh, HG, HS⟩ := hrel
      have h256 : hi ≤ 256 := HB.out.2.2.1
      by_cases hlt : st < r
      · have hltz : (st : Int) < (r : Int) := by omega
        obtain ⟨q2, hq2⟩ : ∃ q : Nat, (st : Int) + (r : Int) = q := ⟨st + r, by omega⟩
        obtain ⟨t, ht⟩ : ∃ t : Nat, (q2 : Int) / 2 = t := ⟨q2 / 2, by omega⟩
        have hq3 : q2 < 512 := by omega
        have t1 : t < 256 := by omega
        have HIT : Hid (st ≤ t ∧ t < r) := by unfold Hid; omega
        have hst : st ≤ t := HIT.out.1
        have htr : t < r := HIT.out.2
        obtain ⟨pt, hpt⟩ : ∃ pt : Nat, (p : Int) - (t : Int) = pt := ⟨p - t, by have := HB.out; have := HP.out; omega⟩
        have pt1 : pt < 256 := by have := HB.out; have := HP.out; omega
        have HPT : Hid (pt = n - 1 - t) := by have := HP.out; unfold Hid; omega
        obtain ⟨x, hx⟩ : ∃ x, f pt = x := ⟨_, rfl⟩
        obtain ⟨y, hy⟩ : ∃ y, f t = y := ⟨_, rfl⟩
        have cx := HG.out.of.cell pt pt1
        have cy := HG.out.of.cell t t1
        rw [hx] at cx
        rw [hy] at cy
        obtain ⟨c, hc⟩ : ∃ c, cI (S y.toNat) (S x.toNat) = c := ⟨_, rfl⟩
        have HL : Hid (∀ n, Calls Try.prog 38 #[.int .u8 (x.toNat : Int), .int .u8 (y.toNat : Int), .pointer (some ⟨s, 0, none⟩)] (wr.drewN n) fun e w' => e = .returned (.int .i64 c) ∧ ∃ m, w' = wr.drewN m) := by
          rw [← hc]; exact less_q x y s S wr HG.out.gn
        have hcn := cI_neg (S y.toNat) (S x.toNat)
        rw [hc] at hcn
        have HG2 := Lib.hid (fun n => HG.out.drewN n)
        by_cases hl : c < 0
        · have HS2 : Hid (Sch S f n lo hi st t) := ⟨HS.out.1, fun _ => by rw [← HPT.out, hx, hy]; exact hcn.1 hl⟩
          clear HS HG hx hy hc hcn hst htr
          go_wp2_with fail
          go_quiet ((go_at_call 38; with_reducible exact HL.out _))
          go_wp2_with fail
          have := HIT.out
          exact ⟨⟨st, t, rfl, rfl, by omega, by omega, by omega, HG2.out nq, HS2⟩, by simp [intOf]; omega⟩
        · have HS2 : Hid (Sch S f n lo hi (t + 1) r) := ⟨fun _ => by
            rw [show n - (t + 1) = pt by rw [HPT.out]; omega, show t + 1 - 1 = t by omega, hx, hy]
            have := fun h => hl (hcn.2 h); omega, HS.out.2⟩
          clear HS HG hx hy hc hcn hst htr
          have hl2 : decide (c < 0) = false := decide_eq_false hl
          have hl3 : (0 ≤ c) := by omega
          go_wp2_with fail
          go_quiet ((go_at_call 38; with_reducible exact HL.out _))
          go_wp2_with fail
          have := HIT.out
          exact ⟨⟨t + 1, r, by go_num, rfl, by omega, by omega, by omega, HG2.out nq, HS2⟩, by simp [intOf]; omega⟩
      · obtain rfl : st = r := by omega
        have hltz : ¬ (st : Int) < (st : Int) := by omega
        obtain ⟨e, he⟩ : ∃ e : Nat, (n : Int) - (st : Int) = e := ⟨n - st, by have := HB.out; omega⟩
        have HF : Hid (Fnd S f a m b mid st e) := sch_end ham hmb HM.out.1 HM.out.2 HLim.out hls hrh (by have := HB.out; omega) H1.out H2.out HT.out HS.out
        have HH := Lib.hid (fnd_hlv HF.out H1.out H2.out HT.out)
        have hst1 : st ≤ 256 := by have := HF.out.h2; omega
        have he1 : e ≤ 256 := by have := HF.out.h4; omega
        have HMB : Hid (a < mid ∧ mid < b) := by have := HM.out; unfold Hid; omega
        obtain ⟨G, hG⟩ : ∃ G, rot st m e f = G := ⟨_, rfl⟩
        rw [hG] at HH
        have HGe := Lib.hid hG
        clear HS hls hsr hrh HLim HP HB hG
        obtain ⟨bb, hbb⟩ : ∃ bb, decide (st < m ∧ m < e) = bb := ⟨_, rfl⟩
        have HBB := Lib.hid hbb
        clear hbb
        go_upto_region 39 with fail
        go_cut [185] from 178 to 185 (fun s185 wx => s185 = .bool bb ∧ wr = wx)
        case first =>
          have hbb := HBB.out
          by_cases r1 : st < m
          · have z1 : (st : Int) < (m : Int) := by omega
            by_cases r2 : m < e
            · have z2 : (m : Int) < (e : Int) := by omega
              obtain rfl : bb = true := by rw [← hbb]; simp [r1, r2]
              clear hbb HBB
              go_wp2_with fail
              go_meet
              exact ⟨rfl, rfl⟩
            · have z2 : ¬ (m : Int) < (e : Int) := by omega
              obtain rfl : bb = false := by rw [← hbb]; simp [r2]
              clear hbb HBB
              go_wp2_with fail
              go_meet
              exact ⟨rfl, rfl⟩
          · have z1 : ¬ (st : Int) < (m : Int) := by omega
            obtain rfl : bb = false := by rw [← hbb]; simp [r1]
            clear hbb HBB
            go_wp2_with fail
            go_meet
            exact ⟨rfl, rfl⟩
        case rest =>
          obtain ⟨rfl, rfl⟩ := hcut
          have HY : Hid (bb = true → st < m ∧ m < e) := fun h => by have := HBB.out; rw [h] at this; simpa using this
          have HNo : Hid (bb = false → G = f) := fun h => by
            have h2 := HBB.out
            rw [h] at h2
            have h3 : ¬ (st < m ∧ m < e) := by simpa using h2
            rw [← HGe.out]
            by_cases r1 : st = m
            · rw [r1]; exact rot_none' m e f
            · rw [show e = m by have := HF.out.h3; have := HF.out.h2; omega]; exact rot_none st m f
          clear HBB
          go_upto_if 185 with fail
          go_cut [24] from 186 to 191 (fun s24 wx => s24 = .int .i64 e ∧ Hid (SO w wx s g S G))
          case first =>
            cases bb with
            | true =>
              have HC := Lib.hid (HR.out wr s g S f st m e HG.out.self (HY.out rfl).1 (HY.out rfl).2 he1)
              clear HY HNo
              go_wp2_with fail
              (with_reducible refine HC.out.mono ?_)
              rintro e w1 ⟨rfl, hs1⟩
              rw [HGe.out] at hs1
              go_wp2_with fail
              go_meet
              exact ⟨rfl, HG.out.again hs1⟩
            | false =>
              have HG9 : Hid (SO w wr s g S G) := by rw [HNo.out rfl]; exact HG
              clear HY HNo
              go_wp2_with fail
              go_meet
              exact ⟨rfl, HG9⟩
          case rest =>
            obtain ⟨rfl, HG2⟩ := hcut
            clear HG HY HNo HR
            obtain ⟨w2, hw2⟩ : ∃ w2, wc = w2 := ⟨_, rfl⟩
            rw [hw2] at HG2 ⊢
            clear hw2
            obtain ⟨b2, hb2⟩ : ∃ bb, decide (a < st ∧ st < mid) = bb := ⟨_, rfl⟩
            have HB2 := Lib.hid hb2
            clear hb2
            go_upto_region 41 with fail
            go_cut [199] from 192 to 199 (fun s199 wx => s199 = .bool b2 ∧ w2 = wx)
            case first =>
              have hbb := HB2.out
              by_cases r1 : a < st
              · have z1 : (a : Int) < (st : Int) := by omega
                by_cases r2 : st < mid
                · have z2 : (st : Int) < (mid : Int) := by omega
                  obtain rfl : b2 = true := by rw [← hbb]; simp [r1, r2]
                  clear hbb HB2
                  go_wp2_with fail
                  go_meet
                  exact ⟨rfl, rfl⟩
                · have z2 : ¬ (st : Int) < (mid : Int) := by omega
                  obtain rfl : b2 = false := by rw [← hbb]; simp [r2]
                  clear hbb HB2
                  go_wp2_with fail
                  go_meet
                  exact ⟨rfl, rfl⟩
              · have z1 : ¬ (a : Int) < (st : Int) := by omega
                obtain rfl : b2 = false := by rw [← hbb]; simp [r1]
                clear hbb HB2
                go_wp2_with fail
                go_meet
                exact ⟨rfl, rfl⟩
            case rest =>
              obtain ⟨rfl, rfl⟩ := hcut
              have HY : Hid (b2 = true → a < st ∧ st < mid) := fun h => by have := HB2.out; rw [h] at this; simpa using this
              have HNo : Hid (b2 = false → Srt S G a mid) := fun h => by
                have h2 := HB2.out
                rw [h] at h2
                have h3 : ¬ (a < st ∧ st < mid) := by simpa using h2
                by_cases r1 : st = a
                · rw [← r1]; exact HH.out.l2
                · have : st = mid := by have := HF.out.h1; have := HF.out.h5; omega
                  rw [← this]; exact HH.out.l1
              clear HB2
              go_upto_if 199 with fail
              go_cut [24] from 200 to 205 (fun s24 wx => s24 = .int .i64 e ∧ Hid (∃ F2, SO w wx s g S F2 ∧ Mg S a mid G F2))
              case first =>
                cases b2 with
                | true =>
                  have HC := Lib.hid (HI.out w2 G a st mid (by have := HN.out; have := HMB.out; omega) HG2.out.self (HY.out rfl).1 (HY.out rfl).2 (by omega) HH.out.l1 HH.out.l2 HH.out.lt)
                  clear HY HNo
                  go_wp2_with fail
                  (with_reducible refine HC.out.mono ?_)
                  rintro e w1 ⟨rfl, F2, hs1, hm1⟩
                  have HX : Hid (∃ F2, SO w w1 s g S F2 ∧ Mg S a mid G F2) := ⟨F2, HG2.out.again hs1, hm1⟩
                  clear hs1 hm1
                  go_wp2_with fail
                  go_meet
                  exact ⟨rfl, HX⟩
                | false =>
                  have HX : Hid (∃ F2, SO w w2 s g S F2 ∧ Mg S a mid G F2) := ⟨G, HG2.out, Mg.same (HNo.out rfl)⟩
                  clear HY HNo
                  go_wp2_with fail
                  go_meet
                  exact ⟨rfl, HX⟩
              case rest =>
                obtain ⟨rfl, HX⟩ := hcut
                obtain ⟨F2, hs2, hm2⟩ := HX.out
                have HS2 := Lib.hid hs2
                have HM2 := Lib.hid hm2
                clear HX HG2 HY HNo hs2 hm2
                obtain ⟨w3, hw3⟩ : ∃ w3, wc = w3 := ⟨_, rfl⟩
                rw [hw3] at HS2 ⊢
                clear hw3
                have R1 : Hid (Srt S F2 mid e ∧ Srt S F2 e b ∧ Tie S F2 mid e b) :=
                  ⟨HH.out.r1.congr (fun k q1 q2 => HM2.out.out k (.inr q1)), HH.out.r2.congr (fun k q1 q2 => HM2.out.out k (.inr (by have := HF.out.h5; have := HF.out.h2; omega))),
                   HH.out.rt.congr (fun k q1 q2 => HM2.out.out k (.inr q1)) (by have := HF.out.h5; have := HF.out.h2; omega) HF.out.h4⟩
                have DONE : Hid (∀ F3, Mg S mid b F2 F3 → Mg S a b f F3) := fun F3 h3 => Mg.both (by have := HMB.out; omega) (by have := HMB.out; omega) HH.out.sub HH.out.bus HH.out.out HM2.out h3 HH.out.cr
                have he4 : Hid (mid ≤ e ∧ e ≤ b) := by unfold Hid; have := HF.out.h5; have := HF.out.h2; have := HF.out.h4; omega
                by_cases r1 : mid < e
                · have z1 : (mid : Int) < (e : Int) := by omega
                  by_cases r2 : e < b
                  · have z2 : (e : Int) < (b : Int) := by omega
                    have HC := Lib.hid (HI.out w3 F2 mid e b (by have := HN.out; have := HMB.out; omega) HS2.out.self r1 r2 hb R1.out.1 R1.out.2.1 R1.out.2.2)
                    go_wp2_with fail
                    (with_reducible refine HC.out.mono ?_)
                    rintro e w1 ⟨rfl, F3, hs1, hm1⟩
                    have HX : Hid (∃ F, SO w w1 s g S F ∧ Mg S a b f F) := ⟨F3, HS2.out.again hs1, DONE.out _ hm1⟩
                    clear hs1 hm1
                    go_wp2_with fail
                    go_end0
                    exact ⟨rfl, HX.out⟩
                  · have z2 : ¬ (e : Int) < (b : Int) := by omega
                    have HX : Hid (∃ F, SO w w3 s g S F ∧ Mg S a b f F) := ⟨F2, HS2.out, DONE.out _ (Mg.same (by rw [show b = e by have := he4.out; omega]; exact R1.out.1))⟩
                    go_wp2_with fail
                    go_end0
                    exact ⟨rfl, HX.out⟩
                · have z1 : ¬ (mid : Int) < (e : Int) := by omega
                  have HX : Hid (∃ F, SO w w3 s g S F ∧ Mg S a b f F) := ⟨F2, HS2.out, DONE.out _ (Mg.same (by rw [show mid = e by have := he4.out; omega]; exact R1.out.2.1))⟩
                  go_wp2_with fail
                  go_end0
                  exact ⟨rfl, HX.out⟩
end Go.Proofs.Ytomiligjcpmnjaa
