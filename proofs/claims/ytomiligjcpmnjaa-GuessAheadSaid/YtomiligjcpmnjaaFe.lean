/- THE SORT's parts: slices.insertionSortCmpFunc. -/
import Derived.Test.YtomiligjcpmnjaaFd
namespace Go.Proofs.Ytomiligjcpmnjaa
set_option maxRecDepth 100000
open Go.RowKit
set_option linter.unusedVariables false
set_option linter.unusedSimpArgs false

def Ris (f : Nat → UInt8) (a b : Nat) : Prop := ∀ i j, a ≤ i → i < j → j < b → (f i).toNat < (f j).toNat
theorem ins_step {S : Nat → Int} {f F : Nat → UInt8} {a b i j : Nat} (hm : Mg S a i f F) (hr : Ris f a b) (hib : i < b) (haj : a ≤ j) (hji : j ≤ i) (hge : ∀ x, j ≤ x → x < i → S (F x).toNat < S (F i).toNat)
    (hst : j = a ∨ S (F i).toNat ≤ S (F (j - 1)).toNat) : Mg S a (i + 1) f (rot j i (i + 1) F) := by
  have lo : ∀ x, a ≤ x → x < i → (F x).toNat < (F i).toNat := fun x h1 h2 => by
    obtain ⟨y, q1, q2, q3⟩ := hm.bus x h1 h2
    rw [hm.out i (by omega), ← q3]
    exact hr y i q1 q2 hib
  refine Mg.trans hm.sub hm.bus hm.out (by omega) (Mg.down hm.srt haj hji (fun x h1 h2 => ?_) (fun x h1 h2 => .inl (hge x h1 h2)))
  rcases hst with rfl | hst
  · omega
  · have h0 : ah S (F (j - 1)) (F i) := by
      have := lo (j - 1) (by omega) (by omega)
      unfold ah; omega
    by_cases e : x = j - 1
    · rw [e]; exact h0
    · exact ah_trans (hm.srt x (j - 1) h1 (by omega) (by omega)) h0
set_option maxHeartbeats 1000000 in
theorem insert_any (w : World) (s g : Nat) (S : Nat → Int) (f : Nat → UInt8) (a b : Nat) (h : SO w w s g S f) (h1 : a < b) (h2 : b ≤ 256) (hr : Ris f a b) :
    Calls Try.prog 50 #[sV g, .int .i64 a, .int .i64 b, cmpV s] w fun e w' => e = .returned (.tuple #[]) ∧ ∃ F, SO w w' s g S F ∧ Mg S a b f F := by
  unfold sV cmpV
  have H0 := Lib.hid h
  have HR := Lib.hid hr
  clear h hr
  go_enter Try.func50, Try.ntmps50
  go_wp2_with fail
  go_loopw [8] (fun v wr => ∃ i : Nat, v = .int .i64 i ∧ a < i ∧ i ≤ b ∧ Hid (∃ F, SO w wr s g S F ∧ Mg S a i f F)) (fun v _ => b - (intOf v).toNat)
  case atStart => exact ⟨a + 1, by go_num, by omega, by omega, f, H0.out, Mg.same (fun i j h1 h2 h3 => by omega)⟩
  case round =>
    obtain ⟨i, rfl, hai, hib, HF⟩ := hrel
    obtain ⟨F, hs, hm⟩ := HF.out
    have HM := Lib.hid hm
    have HS := Lib.hid hs
    clear HF hs hm
    by_cases hlt : i < b
    · have hltz : (i : Int) < (b : Int) := by omega
      go_wp2_with fail
      go_loopw [9] (fun v wr2 => ∃ j : Nat, v = .int .i64 j ∧ a ≤ j ∧ j ≤ i ∧ Hid (SO w wr2 s g S (rot j i (i + 1) F)) ∧ Hid (∀ x, j ≤ x → x < i → S (F x).toNat < S (F i).toNat)) (fun v _ => (intOf v).toNat)
      case atStart => exact ⟨i, rfl, by omega, by omega, by rw [rot_none']; exact HS, fun x h1 h2 => by omega⟩
      case round =>
        obtain ⟨q, rfl, haj, hji, HG, HX⟩ := hrel
        -- out of the inner loop
        have OUT : Hid ((q = a ∨ S (F i).toNat ≤ S (F (q - 1)).toNat) → Mg S a (i + 1) f (rot q i (i + 1) F)) := fun h => ins_step HM.out HR.out hlt haj hji HX.out h
        by_cases hja : a < q
        · obtain ⟨p, hq⟩ : ∃ p, q = p + 1 := ⟨q - 1, by omega⟩
          have hjaz : (a : Int) < (q : Int) := by omega
          have ep : (q : Int) - 1 = (p : Int) := by omega
          obtain ⟨x, hx⟩ : ∃ x, F i = x := ⟨_, rfl⟩
          obtain ⟨y, hy⟩ : ∃ y, F p = y := ⟨_, rfl⟩
          have ex : rot q i (i + 1) F q = x := by rw [rot_at1 _ _ _ _ _ (Nat.le_refl _) (by omega), ← hx]; congr 1; omega
          have ey : rot q i (i + 1) F p = y := by rw [rot_out q i (i + 1) F (by omega) (by omega) p (.inl (by omega)), hy]
          have q1 : q < 256 := by omega
          have p1 : p < 256 := by omega
          have hne : q ≠ p := by omega
          have cx := HG.out.of.cell q q1
          have cy := HG.out.of.cell p p1
          rw [ex] at cx
          rw [ey] at cy
          have fx := HG.out.of.frozen q
          have fy := HG.out.of.frozen p
          obtain ⟨c, hc⟩ : ∃ c, cI (S y.toNat) (S x.toNat) = c := ⟨_, rfl⟩
          have HL : Hid (∀ n, Calls Try.prog 38 #[.int .u8 (x.toNat : Int), .int .u8 (y.toNat : Int), .pointer (some ⟨s, 0, none⟩)] (wr.drewN n) fun e w' => e = .returned (.int .i64 c) ∧ ∃ m, w' = wr.drewN m) := by
            rw [← hc]; exact less_q x y s S wr HG.out.gn
          have hcn := cI_neg (S y.toNat) (S x.toNat)
          rw [hc] at hcn
          by_cases hl : c < 0
          · -- less: the exchange
            have HD : Hid (∀ n, SO w (((wr.drewN n).setCell ⟨g, q, none⟩ (.int .u8 (y.toNat : Int))).setCell ⟨g, p, none⟩ (.int .u8 (x.toNat : Int))).drew s g S (rot p i (i + 1) F)) := fun n => by
              have e := rot_down p i F (rot q i (i + 1) F) (by omega) (by rw [hq])
              rw [← hq, ex, ey] at e
              rw [← e]
              exact (HG.out.drewN n).swap q p y x
            have HX2 : Hid (∀ z, p ≤ z → z < i → S (F z).toNat < S (F i).toNat) := fun z h3 h4 => by
              by_cases e : z = p
              · rw [e, hx, hy]; exact hcn.1 hl
              · exact HX.out z (by omega) h4
            have HQ := Lib.hid hq
            clear HX HG hq hx hy ex ey hc hcn OUT
            go_wp2_with fail
            go_quiet ((go_at_call 38; with_reducible exact HL.out _))
            go_wp2_with fail
            obtain ⟨w5, hw5⟩ : ∃ w5, wr.drewN nq = w5 := ⟨_, rfl⟩
            have HD2 := Lib.hid (HD.out nq)
            have cx2 : (wr.drewN nq).cell? ⟨g, q, none⟩ = some (.int .u8 (x.toNat : Int)) := cx
            have cy2 : (wr.drewN nq).cell? ⟨g, p, none⟩ = some (.int .u8 (y.toNat : Int)) := cy
            have fx2 : (wr.drewN nq).frozen? ⟨g, q, none⟩ = false := fx
            have fy2 : (wr.drewN nq).frozen? ⟨g, p, none⟩ = false := fy
            rw [hw5] at HD2 cx2 cy2 fx2 fy2 ⊢
            clear cx cy fx fy HD HL hw5
            go_big_region
            all_goals go_wp2_with fail
            all_goals exact ⟨⟨p, by go_num, by have := HQ.out; omega, by have := HQ.out; omega, HD2, HX2⟩, by have := HQ.out; simp [intOf]; omega⟩
          · have HM2 : Hid (Mg S a (i + 1) f (rot q i (i + 1) F)) := OUT.out (.inr (by rw [hx, show q - 1 = p by omega, hy]; have := fun h => hl (hcn.2 h); omega))
            have HG2 := Lib.hid (fun n => HG.out.drewN n)
            clear HX HG hq hx hy ex ey hc hcn OUT
            go_wp2_with fail
            go_quiet ((go_at_call 38; with_reducible exact HL.out _))
            go_wp2_with fail
            exact ⟨⟨i + 1, by go_num, by omega, by omega, _, HG2.out nq, HM2.out⟩, by simp [intOf]; omega⟩
        · have HM2 : Hid (Mg S a (i + 1) f (rot q i (i + 1) F)) := OUT.out (.inl (by omega))
          have hjaz : ¬ (a : Int) < (q : Int) := by omega
          have HG2 : Hid (SO w wr.drew s g S (rot q i (i + 1) F)) := HG.out.drewN 1
          clear HX HG OUT
          go_wp2_with fail
          go_big_region
          all_goals go_wp2_with fail
          all_goals exact ⟨⟨i + 1, by go_num, by omega, by omega, _, HG2.out, HM2.out⟩, by simp [intOf]; omega⟩
    · obtain rfl : i = b := by omega
      have hltz : ¬ (i : Int) < (i : Int) := by omega
      go_wp2_with fail
      go_end0
      exact ⟨rfl, F, HS.out, HM.out⟩
end Go.Proofs.Ytomiligjcpmnjaa
