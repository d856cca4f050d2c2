/- WALK of WordAll: more than eight bytes. -/
import Derived.Test.YtpgdmlcfejddjaaDg
namespace Go.Proofs.Ytpgdmlcfejddjaa
open Go.RowKit
set_option linter.unusedVariables false
attribute [local go_sem ↓] Go.wp_at_zero Go.wp_at_succ

set_option maxRecDepth 100000 in
set_option maxHeartbeats 2000000 in
theorem all_long (a b n : Int) (A : Option Addr) (l : List UInt8) (cap : Nat) (w : World) (a1 : -2147483648 ≤ a) (a2 : a ≤ 2147483647) (b1 : -2147483648 ≤ b) (b2 : b ≤ 2147483647) (n1 : -9223372036854775808 ≤ n) (n2 : n ≤ 9223372036854775807)
    (hr : RB w w.heap.size A l) (hc : l.length ≤ cap) (hm : cap ≤ maxLen) (h8 : 8 < l.length) :
    Calls Try.prog 3 #[.int .i32 a, .int .i32 b, .int .i64 n, .slice A l.length cap] w fun e w' => e = .returned (.bool true) ∧ Below w.heap.size w w' := by
  unfold maxLen at hm
  obtain ⟨p1, p2⟩ := mul_rng a b a1 a2 b1 b2
  obtain ⟨p, hp⟩ : ∃ p, a * b = p := ⟨_, rfl⟩
  obtain ⟨x1, hx1⟩ : ∃ x, rd (a + b) = x := ⟨_, rfl⟩
  obtain ⟨x2, hx2⟩ : ∃ x, rd (a - b) = x := ⟨_, rfl⟩
  obtain ⟨x3, hx3⟩ : ∃ x, rd p = x := ⟨_, rfl⟩
  obtain ⟨x4, hx4⟩ : ∃ x, dv a b = x := ⟨_, rfl⟩
  obtain ⟨x5, hx5⟩ : ∃ x, md a n = x := ⟨_, rfl⟩
  have hx3' : rd (a * b) = x3 := by rw [hp]; exact hx3
  rw [hp] at p1 p2
  have k1 := Lib.hid hx1; have k2 := Lib.hid hx2; have k3 := Lib.hid hx3; have k3' := Lib.hid hx3'; have k4 := Lib.hid hx4; have k5 := Lib.hid hx5
  clear hx1 hx2 hx3 hx3' hx4 hx5
  have K1 := Lib.hid n1; have K2 := Lib.hid n2; clear n1 n2
  have HR := Lib.hid hr; clear hr
  go_enter Try.func3, Try.ntmps3
  go_wp2_with fail
  refine (begun_below _).mono ?_
  rintro e w1 ⟨rfl, hb1⟩
  go_wp2_with fail
  refine (add_eq _ _ _ k1.out _).mono ?_
  rintro e w' ⟨rfl, rfl⟩
  go_wp2_with fail
  refine (round_eq _ _ k1.out _).mono ?_
  rintro e w' ⟨rfl, rfl⟩
  go_wp2_with fail
  refine (sub_eq _ _ _ k2.out _).mono ?_
  rintro e w' ⟨rfl, rfl⟩
  go_wp2_with fail
  refine (round_eq _ _ k2.out _).mono ?_
  rintro e w' ⟨rfl, rfl⟩
  go_wp2_with fail
  refine (mul_eq _ _ _ k3'.out _).mono ?_
  rintro e w' ⟨rfl, rfl⟩
  go_wp2_with fail
  refine (round_eq _ _ k3.out _).mono ?_
  rintro e w' ⟨rfl, rfl⟩
  go_wp2_with fail
  refine (div_eq _ _ _ b1 b2 k4.out _).mono ?_
  rintro e w' ⟨rfl, rfl⟩
  go_wp2_with fail
  refine (refdiv_eq _ _ _ a1 a2 b1 b2 k4.out _).mono ?_
  rintro e w' ⟨rfl, rfl⟩
  go_wp2_with fail
  refine (mod_eq _ _ _ a1 a2 K1.out K2.out k5.out _).mono ?_
  rintro e w' ⟨rfl, rfl⟩
  go_wp2_with fail
  refine (refmod_eq _ _ _ a1 a2 K1.out K2.out k5.out _).mono ?_
  rintro e w' ⟨rfl, rfl⟩
  clear hp k1 k2 k3 k3' k4 k5 p1 p2 K1 K2
  obtain ⟨y0, y1, y2, y3, r, rfl⟩ := four_of l (by omega)
  obtain ⟨bk, off, rfl, hlt, hcell⟩ := HR.out (by simp)
  have c0 := (hb1.cell (p := ⟨bk, off + 0, none⟩) hlt).trans (hcell 0 (by simp))
  have c1 := (hb1.cell (p := ⟨bk, off + 1, none⟩) hlt).trans (hcell 1 (by simp))
  have c2 := (hb1.cell (p := ⟨bk, off + 2, none⟩) hlt).trans (hcell 2 (by simp))
  have c3 := (hb1.cell (p := ⟨bk, off + 3, none⟩) hlt).trans (hcell 3 (by simp))
  clear hcell hlt
  simp only [List.getElem_cons_zero, List.getElem_cons_succ, Nat.add_zero, vb] at c0 c1 c2 c3
  have t0 := y0.toNat_lt; have t1 := y1.toNat_lt; have t2 := y2.toNat_lt; have t3 := y3.toNat_lt
  have e8 : (y0 :: y1 :: y2 :: y3 :: r).take 8 = y0 :: y1 :: y2 :: y3 :: r.take 4 := rfl
  have hN : (y0 :: y1 :: y2 :: y3 :: r.take 4).length = 8 := by rw [← e8, List.length_take]; omega
  have HN := Lib.hid hN; clear hN
  have rw1 : RB w1 w.heap.size (some ⟨bk, off, none⟩) (y0 :: y1 :: y2 :: y3 :: r.take 4) := by rw [← e8]; exact (HR.out.below hb1).take 8
  clear e8
  obtain ⟨N, hN⟩ : ∃ N, (y0 :: y1 :: y2 :: y3 :: r).length = N := ⟨_, rfl⟩
  rw [hN] at h8 hc ⊢
  clear hN
  go_wp2_with fail
  have k1 := Lib.hid (want_four y0 y1 y2 y3 (r.take 4)).symm
  go_quiet ((go_at_call 10; with_reducible exact same_left (round_eq _ _ k1.out _)))
  have rw2 := rw1.below (below_drewN (Below.refl w.heap.size w1) nq)
  have hb2 := below_drewN hb1 nq
  clear rw1 hb1 c0 c1 c2 c3 t0 t1 t2 t3 k1
  generalize w1.drewN nq = w2 at *
  go_wp2_with fail
  replace hc : 8 ≤ cap := by omega

  obtain ⟨d1, d2, d3, kb⟩ := pack a w2 a1 a2
  have KB := Lib.hid kb; clear kb
  have bz : Below w2.heap.size w2 (((w2.alloc (rowB (s4 a))).alloc (rowB (s4 a))).alloc (rowB (s4 a))).drew := ((((Below.refl _ _).alloc (Nat.le_refl _) _).alloc (by simp) _).alloc (by simp; omega) _).drew
  have KG := Lib.hid (get_named _ _ cap w.heap.size _ HN.out _ rfl (((w2.alloc (rowB (s4 a))).alloc (rowB (s4 a))).alloc (rowB (s4 a))).drew (rw2.below (bz.mono hb2.size)) hc (by unfold maxLen; omega))
  have bfin : Below w.heap.size w (((w2.alloc (rowB (s4 a))).alloc (rowB (s4 a))).alloc (rowB (s4 a))).drew := hb2.trans (bz.mono hb2.size)
  clear rw2 bz
  go_region_with (first
    | (go_at_call 17; (refine (put_any _ _ a1 a2).mono ?_); rintro e w' ⟨rfl, rfl⟩)
    | (go_at_call 18; (refine (four_mod _ _).mono ?_); rintro e w' ⟨rfl, rfl⟩)
    | (go_at_call 19; ((with_reducible refine KB.out.mono ?_); rintro e w' ⟨rfl, rfl⟩))
    | (go_at_call 19; ((with_reducible refine KG.out.mono ?_); rintro e w' ⟨rfl, rfl⟩)))
  all_goals
    go_wp2
    go_ret
    exact ⟨rfl, bfin⟩
end Go.Proofs.Ytpgdmlcfejddjaa
