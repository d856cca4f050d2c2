/- WALKS of the laws PredictTable, PredictRound. -/
import Derived.Test.YtphcbeccipjlgaaFs
namespace Go.Proofs.Ytphcbeccipjlgaa
set_option maxRecDepth 100000
open Go.RowKit Go.Maps
set_option linter.unusedVariables false
set_option linter.unusedSimpArgs false

set_option maxHeartbeats 4000000 in
theorem table_law (A0 : Option Addr) (l0 : List UInt8) (cap0 : Nat) (A1 : Option Addr) (l1 : List UInt8) (cap1 : Nat) (n : Int) (w : World) (h0 : RB w w.heap.size A0 l0) (k0 : l0.length ≤ cap0) (m0 : cap0 ≤ maxLen) (h1 : RB w w.heap.size A1 l1) (k1 : l1.length ≤ cap1) (m1 : cap1 ≤ maxLen) :
    Calls Try.prog 6 #[.slice A0 l0.length cap0, .slice A1 l1.length cap1, .int .i64 n] w fun e w' => e = .returned (.bool true) ∧ Below w.heap.size w w' := by
  have HG := Lib.hid (begun18_any w)
  obtain ⟨tb, htb⟩ : ∃ p, l0.take 50 = p := ⟨_, rfl⟩
  obtain ⟨T, hT⟩ : ∃ L, tb.length = L := ⟨_, rfl⟩
  obtain ⟨hT50, hTc⟩ : T ≤ 50 ∧ T ≤ cap0 := by rw [← htb, List.length_take] at hT; omega
  obtain ⟨p, hp⟩ : ∃ p, l1.take 60 = p := ⟨_, rfl⟩
  obtain ⟨L, hL⟩ : ∃ L, p.length = L := ⟨_, rfl⟩
  obtain ⟨hL60, hLc⟩ : L ≤ 60 ∧ L ≤ cap1 := by rw [← hp, List.length_take] at hL; omega
  have HS0 := Lib.hid (fun W => short_n A0 l0 l0.length cap0 50 W rfl (by omega) k0 m0 T (by rw [htb, hT]) 50 rfl)
  have HS1 := Lib.hid (fun W => short_n A1 l1 l1.length cap1 60 W rfl (by omega) k1 m1 L (by rw [hp, hL]) 60 rfl)
  have HP : Hid (PM w A1 p L cap1) := ⟨hL, hLc, m1, by rw [← hp]; exact h1.take 60⟩
  have HT : Hid (PM w A0 tb T cap0) := ⟨hT, hTc, m0, by rw [← htb]; exact h0.take 50⟩
  obtain ⟨n00, hn00⟩ : ∃ n00, l0.length = n00 := ⟨_, rfl⟩
  obtain ⟨n01, hn01⟩ : ∃ n01, l1.length = n01 := ⟨_, rfl⟩
  rw [hn00] at HS0 ⊢
  rw [hn01] at HS1 ⊢
  have HL := Lib.hid hL; have HTL := Lib.hid hT
  clear h0 k0 m0 h1 k1 m1 hp htb hn00 hn01 hL hT
  go_enter Try.func6, Try.ntmps6
  go_wp2_with fail
  (with_reducible refine HG.out.mono ?_)
  rintro e w2 ⟨rfl, hb2⟩
  have HB2 := Lib.hid hb2
  have HP2 := Lib.hid (HP.out.then_ hb2)
  have HT2 := Lib.hid (HT.out.then_ hb2)
  clear hb2 HP HT HG
  go_wp2_with fail
  (with_reducible refine (HS0.out _).mono ?_)
  rintro e w3 ⟨rfl, rfl⟩
  go_wp2_with fail
  (with_reducible refine (HS1.out _).mono ?_)
  rintro e w3 ⟨rfl, rfl⟩
  clear HS0 HS1
  by_cases g1 : n < 0
  · go_wp2_with fail
    go_ret
    exact ⟨rfl, HB2.out⟩
  by_cases g2 : 100 < n
  · go_wp2_with fail
    go_ret
    exact ⟨rfl, HB2.out⟩
  by_cases g3 : T = 0
  · subst g3
    go_wp2_with fail
    go_ret
    exact ⟨rfl, HB2.out⟩
  obtain ⟨N, rfl⟩ : ∃ N : Nat, n = N := ⟨n.toNat, by omega⟩
  have hN : N ≤ 100 := by omega
  have g3z : ((T : Int) == 0) = false := by simp; omega
  have g3y : ¬ (T : Int) = 0 := by omega
  have HK : KM w2 ⟨3, 0, tb⟩ A0 T cap0 := ⟨.inr (.inr ⟨rfl, rfl, by rw [HTL.out]; omega, by rw [HTL.out]; omega⟩), HTL.out, hTc, HT2.out.cm, HT2.out.t⟩
  have HC := Lib.hid (chain_at ⟨3, 0, tb⟩ 3 0 rfl rfl A0 T cap0 A1 p L cap1 N w2 HK HP2.out (by omega) N (by omega) _ rfl)
  clear HK
  go_wp2_with fail
  (with_reducible refine HC.out.mono ?_)
  rintro e w4 ⟨⟨A', c', rfl, hNc, hc', hr'⟩, hb4⟩
  have HB4 := Lib.hid (HB2.out.trans (hb4.mono HB2.out.size))
  have HR := Lib.hid hr'
  have HT4 := Lib.hid (HT2.out.then_ hb4)
  clear hb4 hr' HC HT2 HP2
  go_wp2_with fail
  go_loopw [9] (fun v wr => ∃ i : Nat, v = .int .i64 i ∧ i ≤ N ∧ ∃ k, w4.drewN k = wr) (fun v _ => N - (intOf v).toNat)
  case atStart => exact ⟨0, rfl, by omega, 0, rfl⟩
  case round =>
    obtain ⟨i, rfl, hi, k, hwr⟩ := hrel
    have HRr : Hid (RB wr w4.heap.size A' (chN ⟨3, 0, tb⟩ N p)) := by rw [← hwr]; exact HR.out.below (below_drewN (Below.refl _ _) k)
    have HTr : Hid (RB wr w4.heap.size A0 tb) := by rw [← hwr]; exact HT4.out.t.below (below_drewN (Below.refl _ _) k)
    have HBr : Hid (Below w.heap.size w wr) := by rw [← hwr]; exact below_drewN HB4.out k
    have HWR := Lib.hid hwr
    clear hwr
    by_cases hlt : i < N
    · have hltz : (i : Int) < (N : Int) := by omega
      have hlen : (chN ⟨3, 0, tb⟩ N p).length = N := chN_len _ _ _
      obtain ⟨cb, co, rfl, hcb, -⟩ := HRr.out (by rw [hlen]; omega)
      obtain ⟨ta, tq, rfl, hta, -⟩ := HTr.out (by rw [HTL.out]; omega)
      have cx := HRr.out.cell_ i (by rw [hlen]; exact hlt)
      obtain ⟨q, hq⟩ : ∃ q : Nat, (L : Int) + (i : Int) = q := ⟨L + i, by omega⟩
      obtain ⟨r, hr⟩ : ∃ r : Nat, (q : Int).tmod (T : Int) = r := ⟨q % T, by rw [Int.tmod_eq_emod_of_nonneg (by omega)]; rfl⟩
      have hrn : r = q % T := by rw [Int.tmod_eq_emod_of_nonneg (by omega)] at hr; exact_mod_cast hr.symm
      have hrlt : r < T := by rw [hrn]; exact Nat.mod_lt _ (by omega)
      have hq2 : q ≤ 1000 := by omega
      have hx : (chN ⟨3, 0, tb⟩ N p).getD i 0 = tb.getD r 0 := by
        rw [chN_table rfl N p i hlt]
        show tb.getD ((p.length + i) % tb.length) 0 = _
        rw [HTL.out, HL.out, hrn]; congr 2; omega
      have ct := HTr.out.cell_ r (by rw [HTL.out]; exact hrlt)
      rw [hx] at cx
      obtain ⟨y, hy⟩ : ∃ y : Int, ((tb.getD r 0).toNat : Int) = y := ⟨_, rfl⟩
      rw [hy] at cx ct
      have hNew : Hid (∃ k, w4.drewN k = wr.drew) := ⟨k + 1, by rw [← HWR.out]; rfl⟩
      clear hlen hx hy hrn
      go_wp2_with fail
      go_big_region
      all_goals go_wp2_with fail
      all_goals exact ⟨⟨i + 1, by go_num, by omega, hNew.out⟩, by simp [intOf]; omega⟩
    · obtain rfl : i = N := by omega
      have hltz : ¬ (i : Int) < (i : Int) := by omega
      go_wp2_with fail
      go_ret
      exact ⟨by simp, HBr.out⟩
end Go.Proofs.Ytphcbeccipjlgaa
