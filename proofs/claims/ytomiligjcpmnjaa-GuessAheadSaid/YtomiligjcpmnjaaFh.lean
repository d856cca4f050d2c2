/- THE SORT's parts: slices.symMergeCmpFunc: one value put in downwards. -/
import Derived.Test.YtomiligjcpmnjaaFg
namespace Go.Proofs.Ytomiligjcpmnjaa
set_option maxRecDepth 100000
open Go.RowKit
set_option linter.unusedVariables false
set_option linter.unusedSimpArgs false

set_option maxHeartbeats 1000000 in
theorem sym_down (w : World) (s g : Nat) (S : Nat → Int) (f : Nat → UInt8) (a m b : Nat) (h : SO w w s g S f) (h0 : a + 1 < m) (h1 : b = m + 1) (h3 : b ≤ 256) (hs1 : Srt S f a m) (ht : Tie S f a m b) :
    Calls Try.prog 51 #[sV g, .int .i64 a, .int .i64 m, .int .i64 b, cmpV s] w fun e w' => e = .returned (.tuple #[]) ∧ ∃ F, SO w w' s g S F ∧ Mg S a b f F := by
  unfold sV cmpV
  have H0 := Lib.hid h
  have H1 := Lib.hid h1
  have H2 := Lib.hid hs1
  have HT := Lib.hid ht
  obtain ⟨d, hd⟩ : ∃ d : Nat, (m : Int) - (a : Int) = d := ⟨m - a, by omega⟩
  have e0 : ((d : Int) == 1) = false := by simp; omega
  have e1 : (b : Int) - (m : Int) = 1 := by omega
  have m1 : m < 256 := by omega
  obtain ⟨x, hx⟩ : ∃ x, f m = x := ⟨_, rfl⟩
  clear h h1 hs1 ht
  go_enter Try.func51, Try.ntmps51
  go_wp2_with fail
  go_loopw [14, 15] (fun u v wr => ∃ i j : Nat, u = .int .i64 i ∧ v = .int .i64 j ∧ a ≤ i ∧ i ≤ j ∧ j ≤ m ∧ Hid (SO w wr s g S f) ∧ Hid (∀ z, a ≤ z → z < i → S (f m).toNat ≤ S (f z).toNat) ∧ Hid (∀ z, j ≤ z → z < m → S (f z).toNat < S (f m).toNat)) (fun u v _ => (intOf v).toNat - (intOf u).toNat)
  case atStart => exact ⟨a, m, rfl, rfl, by omega, by omega, by omega, H0, fun z h4 h5 => by omega, fun z h4 h5 => by omega⟩
  case round =>
    obtain ⟨i, j, rfl, rfl, him, hij, hjb, HG, HX, HY⟩ := hrel
    by_cases hlt : i < j
    · have hltz : (i : Int) < (j : Int) := by omega
      obtain ⟨q, hq⟩ : ∃ q : Nat, (i : Int) + (j : Int) = q := ⟨i + j, by omega⟩
      obtain ⟨t, ht⟩ : ∃ t : Nat, (q : Int) / 2 = t := ⟨q / 2, by omega⟩
      have hq2 : q < 512 := by omega
      have t1 : t < 256 := by omega
      have hit : i ≤ t := by omega
      have htj : t < j := by omega
      obtain ⟨y, hy⟩ : ∃ y, f t = y := ⟨_, rfl⟩
      have cx := HG.out.of.cell m m1
      have cy := HG.out.of.cell t t1
      rw [hx] at cx
      rw [hy] at cy
      obtain ⟨c, hc⟩ : ∃ c, cI (S y.toNat) (S x.toNat) = c := ⟨_, rfl⟩
      have HL : Hid (∀ n, Calls Try.prog 38 #[.int .u8 (x.toNat : Int), .int .u8 (y.toNat : Int), .pointer (some ⟨s, 0, none⟩)] (wr.drewN n) fun e w' => e = .returned (.int .i64 c) ∧ ∃ m, w' = wr.drewN m) := by
        rw [← hc]; exact less_q x y s S wr HG.out.gn
      have hcn := cI_neg (S y.toNat) (S x.toNat)
      rw [hc] at hcn
      have HG2 := Lib.hid (fun n => HG.out.drewN n)
      have HIT := Lib.hid hit
      by_cases hl : c < 0
      · have HY2 : Hid (∀ z, t ≤ z → z < m → S (f z).toNat < S (f m).toNat) := fun z h4 h5 => by
          have h0 : S (f t).toNat < S (f m).toNat := by rw [hx, hy]; exact hcn.1 hl
          by_cases e : z = t
          · rw [e]; exact h0
          · have := ah_le (H2.out t z (by omega) (by omega) h5); omega
        clear HY HG hx hy hc hcn hit
        go_wp2_with fail
        go_quiet ((go_at_call 38; with_reducible exact HL.out _))
        go_wp2_with fail
        have := HIT.out
        exact ⟨⟨i, t, rfl, rfl, by omega, by omega, by omega, HG2.out nq, HX, HY2⟩, by simp [intOf]; omega⟩
      · have HX2 : Hid (∀ z, a ≤ z → z < t + 1 → S (f m).toNat ≤ S (f z).toNat) := fun z h4 h5 => by
          have h0 : S (f m).toNat ≤ S (f t).toNat := by rw [hx, hy]; have := fun h => hl (hcn.2 h); omega
          by_cases e : z = t
          · rw [e]; exact h0
          · have := ah_le (H2.out z t h4 (by omega) (by omega)); omega
        clear HX HG hx hy hc hcn hit
        have hl2 : decide (c < 0) = false := decide_eq_false hl
        have hl3 : (0 ≤ c) := by omega
        go_wp2_with fail
        go_quiet ((go_at_call 38; with_reducible exact HL.out _))
        go_wp2_with fail
        have := HIT.out
        exact ⟨⟨t + 1, j, by go_num, rfl, by omega, by omega, by omega, HG2.out nq, HX2, HY⟩, by simp [intOf]; omega⟩
    · obtain rfl : i = j := by omega
      have hltz : ¬ (i : Int) < (i : Int) := by omega
      have hfin : Hid (Mg S a b f (rot i m (m + 1) f)) := by
        have hm := H1.out
        rw [hm]
        refine Mg.down H2.out him hjb (fun z h4 h5 => ?_) (fun z h4 h5 => .inl (HY.out z h4 h5))
        have h6 := HX.out z h4 h5
        have h7 := HT.out z m h4 (by omega) (Nat.le_refl _) (by omega)
        unfold ah; omega
      clear HX HY
      go_wp2_with fail
      go_loopw [17] (fun v wr => ∃ k : Nat, v = .int .i64 k ∧ i ≤ k ∧ k ≤ m ∧ Hid (SO w wr s g S (rot k m (m + 1) f))) (fun v _ => (intOf v).toNat)
      case atStart => exact ⟨m, rfl, by omega, Nat.le_refl _, by rw [rot_none']; exact HG⟩
      case round =>
        clear HG
        obtain ⟨k, rfl, hak, hki, HG⟩ := hrel
        by_cases hlt : i < k
        · have hkz : (i : Int) < (k : Int) := by omega
          obtain ⟨F, hF⟩ : ∃ F, F = rot k m (m + 1) f := ⟨_, rfl⟩
          rw [← hF] at HG
          obtain ⟨k1, hk1⟩ : ∃ k1 : Nat, (k : Int) - 1 = k1 := ⟨k - 1, by omega⟩
          have HK : Hid (k = k1 + 1) := by unfold Hid; omega
          obtain ⟨y, hy⟩ : ∃ y, F k = y := ⟨_, rfl⟩
          obtain ⟨z, hz⟩ : ∃ z, F k1 = z := ⟨_, rfl⟩
          have k2 : k < 256 := by omega
          have k3 : k1 < 256 := by omega
          have hne : k ≠ k1 := by omega
          have cx := HG.out.of.cell k k2
          have cy := HG.out.of.cell k1 k3
          rw [hy] at cx
          rw [hz] at cy
          have fx := HG.out.of.frozen k
          have fy := HG.out.of.frozen k1
          have HD : Hid (SO w ((wr.setCell ⟨g, k, none⟩ (.int .u8 (z.toNat : Int))).setCell ⟨g, k1, none⟩ (.int .u8 (y.toNat : Int))).drew s g S (rot k1 m (m + 1) f)) := by
            have e := rot_down k1 m f F (by omega) (by rw [hF, HK.out])
            rw [← HK.out, hy, hz] at e
            unfold Hid
            rw [← e]
            exact HG.out.swap k k1 z y
          clear HG hF hy hz
          go_wp2_with fail
          go_big_region
          all_goals go_wp2_with fail
          all_goals have := HK.out
          all_goals exact ⟨⟨k1, by go_num, by omega, by omega, HD⟩, by simp [intOf]; omega⟩
        · obtain rfl : i = k := by omega
          have hkz : ¬ (i : Int) < (i : Int) := by omega
          go_wp2_with fail
          ((try simp only [Exit.inBlock, Exit.then]); refine bodyPost_ret (results_none rfl _ _ _) rfl ?_)
          exact ⟨rfl, _, HG.out, hfin.out⟩
end Go.Proofs.Ytomiligjcpmnjaa
