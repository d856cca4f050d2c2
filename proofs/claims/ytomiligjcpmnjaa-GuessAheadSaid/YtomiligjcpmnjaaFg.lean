/- THE SORT's parts: slices.symMergeCmpFunc: one value put in. -/
import Derived.Test.YtomiligjcpmnjaaFe
namespace Go.Proofs.Ytomiligjcpmnjaa
set_option maxRecDepth 100000
open Go.RowKit
set_option linter.unusedVariables false
set_option linter.unusedSimpArgs false

theorem ah_le {S : Nat → Int} {x y : UInt8} (h : ah S x y) : S y.toNat ≤ S x.toNat := by unfold ah at h; omega
set_option maxHeartbeats 1000000 in
theorem sym_up (w : World) (s g : Nat) (S : Nat → Int) (f : Nat → UInt8) (a m b : Nat) (h : SO w w s g S f) (h1 : m = a + 1) (h2 : m < b) (h3 : b ≤ 256) (hs2 : Srt S f m b) (ht : Tie S f a m b) :
    Calls Try.prog 51 #[sV g, .int .i64 a, .int .i64 m, .int .i64 b, cmpV s] w fun e w' => e = .returned (.tuple #[]) ∧ ∃ F, SO w w' s g S F ∧ Mg S a b f F := by
  unfold sV cmpV
  have H0 := Lib.hid h
  have H1 := Lib.hid h1
  have H2 := Lib.hid hs2
  have HT := Lib.hid ht
  have e1 : (m : Int) - (a : Int) = 1 := by omega
  have a1 : a < 256 := by omega
  obtain ⟨x, hx⟩ : ∃ x, f a = x := ⟨_, rfl⟩
  clear h h1 hs2 ht
  go_enter Try.func51, Try.ntmps51
  go_wp2_with fail
  go_loopw [10, 11] (fun u v wr => ∃ i j : Nat, u = .int .i64 i ∧ v = .int .i64 j ∧ m ≤ i ∧ i ≤ j ∧ j ≤ b ∧ Hid (SO w wr s g S f) ∧ Hid (∀ z, m ≤ z → z < i → S (f a).toNat < S (f z).toNat) ∧ Hid (∀ z, j ≤ z → z < b → S (f z).toNat ≤ S (f a).toNat)) (fun u v _ => (intOf v).toNat - (intOf u).toNat)
  case atStart => exact ⟨m, b, rfl, rfl, by omega, by omega, by omega, H0, fun z h4 h5 => by omega, fun z h4 h5 => by omega⟩
  case round =>
    obtain ⟨i, j, rfl, rfl, him, hij, hjb, HG, HX, HY⟩ := hrel
    by_cases hlt : i < j
    · have hltz : (i : Int) < (j : Int) := by omega
      obtain ⟨q, hq⟩ : ∃ q : Nat, (i : Int) + (j : Int) = q := ⟨i + j, by omega⟩
      obtain ⟨t, ht⟩ : ∃ t : Nat, (q : Int) / 2 = t := ⟨q / 2, by omega⟩
      have hq2 : q < 512 := by omega
      have t1 : t < 256 := by omega
      have hit : i ≤ t := by omega
      have htj : t < j := by omega
      obtain ⟨y, hy⟩ : ∃ y, f t = y := ⟨_, rfl⟩
      have cx := HG.out.of.cell a a1
      have cy := HG.out.of.cell t t1
      rw [hx] at cx
      rw [hy] at cy
      obtain ⟨c, hc⟩ : ∃ c, cI (S x.toNat) (S y.toNat) = c := ⟨_, rfl⟩
      have HL : Hid (∀ n, Calls Try.prog 38 #[.int .u8 (y.toNat : Int), .int .u8 (x.toNat : Int), .pointer (some ⟨s, 0, none⟩)] (wr.drewN n) fun e w' => e = .returned (.int .i64 c) ∧ ∃ m, w' = wr.drewN m) := by
        rw [← hc]; exact less_q y x s S wr HG.out.gn
      have hcn := cI_neg (S x.toNat) (S y.toNat)
      rw [hc] at hcn
      have HG2 := Lib.hid (fun n => HG.out.drewN n)
      have HIT := Lib.hid hit
      by_cases hl : c < 0
      · have HX2 : Hid (∀ z, m ≤ z → z < t + 1 → S (f a).toNat < S (f z).toNat) := fun z h4 h5 => by
          have h0 : S (f a).toNat < S (f t).toNat := by rw [hx, hy]; exact hcn.1 hl
          by_cases e : z = t
          · rw [e]; exact h0
          · have := ah_le (H2.out z t h4 (by omega) (by omega)); omega
        clear HX HG hx hy hc hcn hit
        go_wp2_with fail
        go_quiet ((go_at_call 38; with_reducible exact HL.out _))
        go_wp2_with fail
        have := HIT.out
        exact ⟨⟨t + 1, j, by go_num, rfl, by omega, by omega, by omega, HG2.out nq, HX2, HY⟩, by simp [intOf]; omega⟩
      · have HY2 : Hid (∀ z, t ≤ z → z < b → S (f z).toNat ≤ S (f a).toNat) := fun z h4 h5 => by
          have h0 : S (f t).toNat ≤ S (f a).toNat := by rw [hx, hy]; have := fun h => hl (hcn.2 h); omega
          by_cases e : z = t
          · rw [e]; exact h0
          · have := ah_le (H2.out t z (by omega) (by omega) (by omega)); omega
        clear HY HG hx hy hc hcn hit
        go_wp2_with fail
        go_quiet ((go_at_call 38; with_reducible exact HL.out _))
        go_wp2_with fail
        have := HIT.out
        exact ⟨⟨i, t, rfl, rfl, by omega, by omega, by omega, HG2.out nq, HX, HY2⟩, by simp [intOf]; omega⟩
    · obtain rfl : i = j := by omega
      have hltz : ¬ (i : Int) < (i : Int) := by omega
      obtain ⟨i1, hi1⟩ : ∃ i1 : Nat, (i : Int) - 1 = i1 := ⟨i - 1, by have := H1.out; omega⟩
      have HI : Hid (i = i1 + 1) := by unfold Hid; have := H1.out; omega
      have hfin : Hid (Mg S a b f (rot a (a + 1) i f)) := by
        have hm := H1.out
        refine Mg.up (by rw [← hm]; exact H2.out) (by omega) hjb (fun z h4 h5 => .inl (HX.out z (by omega) h5)) (fun z h4 h5 => ?_)
        have h6 := HY.out z h4 h5
        have h7 := HT.out a z (Nat.le_refl _) (by omega) (by omega) h5
        unfold ah; omega
      clear HX HY
      go_wp2_with fail
      go_loopw [13] (fun v wr => ∃ k : Nat, v = .int .i64 k ∧ a ≤ k ∧ k ≤ i1 ∧ Hid (SO w wr s g S (rot a (a + 1) (k + 1) f))) (fun v _ => i1 - (intOf v).toNat)
      case atStart => exact ⟨a, rfl, Nat.le_refl _, by have := H1.out; have := HI.out; omega, by rw [rot_none]; exact HG⟩
      case round =>
        clear HG
        obtain ⟨k, rfl, hak, hki, HG⟩ := hrel
        by_cases hlt : k < i1
        · have hkz : (k : Int) < (i1 : Int) := by omega
          obtain ⟨F, hF⟩ : ∃ F, F = rot a (a + 1) (k + 1) f := ⟨_, rfl⟩
          rw [← hF] at HG
          obtain ⟨k1, hk1⟩ : ∃ k1 : Nat, (k : Int) + 1 = k1 := ⟨k + 1, by omega⟩
          have HK : Hid (k1 = k + 1) := by unfold Hid; omega
          obtain ⟨y, hy⟩ : ∃ y, F k = y := ⟨_, rfl⟩
          obtain ⟨z, hz⟩ : ∃ z, F k1 = z := ⟨_, rfl⟩
          have k2 : k < 256 := by have := HI.out; omega
          have k3 : k1 < 256 := by have := HI.out; omega
          have hne : k ≠ k1 := by omega
          have cx := HG.out.of.cell k k2
          have cy := HG.out.of.cell k1 k3
          rw [hy] at cx
          rw [hz] at cy
          have fx := HG.out.of.frozen k
          have fy := HG.out.of.frozen k1
          have HD : Hid (SO w ((wr.setCell ⟨g, k, none⟩ (.int .u8 (z.toNat : Int))).setCell ⟨g, k1, none⟩ (.int .u8 (y.toNat : Int))).drew s g S (rot a (a + 1) (k + 2) f)) := by
            have e := rot_up a k f F hak hF
            rw [show k + 1 = k1 by omega, hy, hz] at e
            unfold Hid
            rw [← e]
            exact HG.out.swap k k1 z y
          clear HG hF hy hz
          go_wp2_with fail
          go_big_region
          all_goals go_wp2_with fail
          all_goals have := HK.out
          all_goals exact ⟨⟨k + 1, by go_num, by omega, by omega, HD⟩, by simp [intOf]; omega⟩
        · obtain rfl : k = i1 := by omega
          have hkz : ¬ (k : Int) < (k : Int) := by omega
          go_wp2_with fail
          ((try simp only [Exit.inBlock, Exit.then]); refine bodyPost_ret (results_none rfl _ _ _) rfl ?_)
          exact ⟨rfl, _, by have e := HI.out; rw [← e] at HG; exact HG.out, hfin.out⟩
end Go.Proofs.Ytomiligjcpmnjaa
