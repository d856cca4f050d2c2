/- WALKS of WordMod, WordOrder. -/
import Derived.Test.YtpgdmlcfejddjaaDd
namespace Go.Proofs.Ytpgdmlcfejddjaa
open Go.RowKit
set_option linter.unusedVariables false

set_option maxRecDepth 100000 in
set_option maxHeartbeats 1000000 in
theorem modlaw_out (a n k : Int) (w : World) (a1 : -2147483648 ≤ a) (a2 : a ≤ 2147483647) (h : n < 1 ∨ (1 ≤ n ∧ n > 1000) ∨ (1 ≤ n ∧ n ≤ 1000 ∧ k < -1000) ∨ (1 ≤ n ∧ n ≤ 1000 ∧ -1000 ≤ k ∧ k > 1000) ∨ (1 ≤ n ∧ n ≤ 1000 ∧ -1000 ≤ k ∧ k ≤ 1000 ∧ a < -1073741824) ∨ (1 ≤ n ∧ n ≤ 1000 ∧ -1000 ≤ k ∧ k ≤ 1000 ∧ -1073741824 ≤ a ∧ a > 1073741824)) :
    Calls Try.prog 6 #[.int .i32 a, .int .i64 n, .int .i64 k] w fun e w' => e = .returned (.bool true) ∧ Below w.heap.size w w' := by
  rcases h with h | ⟨h, h1⟩ | ⟨h, h1, h2⟩ | ⟨h, h1, h2, h3⟩ | ⟨h, h1, h2, h3, h4⟩ | ⟨h, h1, h2, h3, h4, h5⟩
  all_goals
    go_enter Try.func6, Try.ntmps6
    go_wp2_with fail
    refine (begun_below _).mono ?_
    rintro e w1 ⟨rfl, hb1⟩
    go_wp2
    go_ret
    exact ⟨rfl, hb1⟩
theorem mul_bd (n k : Int) (h1 : 1 ≤ n) (h2 : n ≤ 1000) (h3 : -1000 ≤ k) (h4 : k ≤ 1000) : -1000000 ≤ n * k ∧ n * k ≤ 1000000 := by
  constructor
  · have := Int.mul_le_mul_of_nonneg_left h3 (show 0 ≤ n by omega)
    have h5 : n * -1000 = -(1000 * n) := by omega
    omega
  · have := Int.mul_le_mul_of_nonneg_left h4 (show 0 ≤ n by omega)
    have h5 : n * 1000 = 1000 * n := by omega
    omega
theorem md_one (a : Int) : md a 1 = 0 := by rw [md_some _ _ (by omega)]; omega
set_option maxRecDepth 100000 in
set_option maxHeartbeats 1000000 in
theorem modlaw_in (a n k : Int) (w : World) (h : 1 ≤ n) (h1 : n ≤ 1000) (h2 : -1000 ≤ k) (h3 : k ≤ 1000) (h4 : -1073741824 ≤ a) (h5 : a ≤ 1073741824) :
    Calls Try.prog 6 #[.int .i32 a, .int .i64 n, .int .i64 k] w fun e w' => e = .returned (.bool true) ∧ Below w.heap.size w w' := by
  obtain ⟨m, hm⟩ : ∃ m, md a n = m := ⟨_, rfl⟩
  have m1 : 0 ≤ m ∧ m < n := by
    rw [← hm, md_some _ _ (by omega)]
    exact ⟨Int.emod_nonneg a (by omega), Int.emod_lt_of_pos a (by omega)⟩
  obtain ⟨m1, m2⟩ := m1
  have km := Lib.hid hm
  have kn := Lib.hid (show md (a + n * k) n = m by rw [← hm, md_some _ _ (by omega), md_some _ _ (by omega), Int.add_mul_emod_self_left])
  have ko := Lib.hid (md_one a)
  clear hm
  obtain ⟨t1, t2⟩ := mul_bd n k h h1 h2 h3
  obtain ⟨t, ht⟩ : ∃ t, n * k = t := ⟨_, rfl⟩
  rw [ht] at kn t1 t2
  go_enter Try.func6, Try.ntmps6
  go_wp2_with fail
  refine (begun_below _).mono ?_
  rintro e w1 ⟨rfl, hb1⟩
  go_wp2_with fail
  refine (mod_eq _ _ _ (by omega) (by omega) (by omega) (by omega) km.out _).mono ?_
  rintro e w' ⟨rfl, rfl⟩
  go_wp2_with fail
  refine (mod_eq _ _ _ (by omega) (by omega) (by omega) (by omega) kn.out _).mono ?_
  rintro e w' ⟨rfl, rfl⟩
  go_wp2_with fail
  refine (mod_eq _ _ _ (by omega) (by omega) (by omega) (by omega) ko.out _).mono ?_
  rintro e w' ⟨rfl, rfl⟩
  go_wp2
  go_ret
  exact ⟨rfl, hb1⟩
theorem mod_law (a n k : Int) (w : World) (ha : (Lit.int .i32 a).wf = true) (_ : (Lit.int .i64 n).wf = true) (_ : (Lit.int .i64 k).wf = true) :
    Calls Try.prog 6 #[.int .i32 a, .int .i64 n, .int .i64 k] w fun e w' => e = .returned (.bool true) ∧ Below w.heap.size w w' := by
  obtain ⟨a1, a2⟩ := bounds_i32 ha
  by_cases h : 1 ≤ n ∧ n ≤ 1000 ∧ -1000 ≤ k ∧ k ≤ 1000 ∧ -1073741824 ≤ a ∧ a ≤ 1073741824
  · obtain ⟨h, h1, h2, h3, h4, h5⟩ := h
    exact modlaw_in a n k w h h1 h2 h3 h4 h5
  · exact modlaw_out a n k w a1 a2 (by omega)
end Go.Proofs.Ytpgdmlcfejddjaa
