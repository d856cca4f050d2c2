/- THE WALKS over package check: takes, has, mayOp, Fault's own, IndexFunc, Fault, May. -/
import Derived.Test.YtbmhdinaofepdaaEa
import Derived.Test.YtbmhdinaofepdaaOh
namespace Go.Proofs.Ytbmhdinaofepdaa
set_option maxRecDepth 100000
open Go.RowKit
set_option linter.unusedVariables false

theorem has_any (kd n m : Int) (w : World) :
    Calls Try.prog 53 #[.int .i64 kd, .int .i64 n, .int .i64 m] w fun e w' => e = .returned (.bool (hasB kd n m)) ∧ w = w' := by
  unfold hasB
  by_cases h1 : kd = 1
  · subst h1
    rw [if_pos rfl]
    go_enter Try.func53, Try.ntmps53
    go_wp2
    go_ret
    exact ⟨rfl, rfl⟩
  by_cases h2 : kd = 2
  · subst h2
    rw [if_neg (by decide), if_pos rfl]
    go_enter Try.func53, Try.ntmps53
    go_wp2
    all_goals (go_ret; refine ⟨?_, rfl⟩; show Ending.returned (Value.bool _) = _; congr 2; simp; try omega)
  by_cases h3 : kd = 3
  · subst h3
    rw [if_neg (by decide), if_neg (by decide), if_pos rfl]
    go_enter Try.func53, Try.ntmps53
    go_wp2
    all_goals (go_ret; refine ⟨?_, rfl⟩; show Ending.returned (Value.bool _) = _; congr 2; simp; try omega)
  rw [if_neg h1, if_neg h2, if_neg h3]
  go_enter Try.func53, Try.ntmps53
  go_wp2
  all_goals (go_ret; exact ⟨rfl, rfl⟩)
def takesV (k : Nat) : Value := .tuple #[.agg #[.int .i64 (kdA k), .int .i64 (kdB k), .int .i64 (kdC k)], .bool true]
set_option maxHeartbeats 4000000 in
theorem takes_ok (k : Nat) (hk : k < 16) (w : World) :
    Calls Try.prog 52 #[.int .i64 k] w fun e w' => e = .returned (takesV k) ∧ Below w.heap.size w w' := by
  obtain rfl | rfl | rfl | rfl | rfl | rfl | rfl | rfl | rfl | rfl | rfl | rfl | rfl | rfl | rfl | rfl : k = 0 ∨ k = 1 ∨ k = 2 ∨ k = 3 ∨ k = 4 ∨ k = 5 ∨ k = 6 ∨ k = 7 ∨ k = 8 ∨ k = 9 ∨ k = 10 ∨ k = 11 ∨ k = 12 ∨ k = 13 ∨ k = 14 ∨ k = 15 := by omega
  · go_enter Try.func52, Try.ntmps52
    go_wp2
    refine bodyPost_ret (v := takesV 0) (by simp [results, Try.results52, go_sem, takesV, kdA, kdB, kdC]) rfl ⟨rfl, ?_⟩
    exact (Below.refl _ _).alloc (Nat.le_refl _) _
  · go_enter Try.func52, Try.ntmps52
    go_wp2
    refine bodyPost_ret (v := takesV 1) (by simp [results, Try.results52, go_sem, takesV, kdA, kdB, kdC]) rfl ⟨rfl, ?_⟩
    exact (Below.refl _ _).alloc (Nat.le_refl _) _
  · go_enter Try.func52, Try.ntmps52
    go_wp2
    refine bodyPost_ret (v := takesV 2) (by simp [results, Try.results52, go_sem, takesV, kdA, kdB, kdC]) rfl ⟨rfl, ?_⟩
    exact (Below.refl _ _).alloc (Nat.le_refl _) _
  · go_enter Try.func52, Try.ntmps52
    go_wp2
    refine bodyPost_ret (v := takesV 3) (by simp [results, Try.results52, go_sem, takesV, kdA, kdB, kdC]) rfl ⟨rfl, ?_⟩
    exact (Below.refl _ _).alloc (Nat.le_refl _) _
  · go_enter Try.func52, Try.ntmps52
    go_wp2
    refine bodyPost_ret (v := takesV 4) (by simp [results, Try.results52, go_sem, takesV, kdA, kdB, kdC]) rfl ⟨rfl, ?_⟩
    exact (Below.refl _ _).alloc (Nat.le_refl _) _
  · go_enter Try.func52, Try.ntmps52
    go_wp2
    refine bodyPost_ret (v := takesV 5) (by simp [results, Try.results52, go_sem, takesV, kdA, kdB, kdC]) rfl ⟨rfl, ?_⟩
    exact (Below.refl _ _).alloc (Nat.le_refl _) _
  · go_enter Try.func52, Try.ntmps52
    go_wp2
    refine bodyPost_ret (v := takesV 6) (by simp [results, Try.results52, go_sem, takesV, kdA, kdB, kdC]) rfl ⟨rfl, ?_⟩
    exact (Below.refl _ _).alloc (Nat.le_refl _) _
  · go_enter Try.func52, Try.ntmps52
    go_wp2
    refine bodyPost_ret (v := takesV 7) (by simp [results, Try.results52, go_sem, takesV, kdA, kdB, kdC]) rfl ⟨rfl, ?_⟩
    exact (Below.refl _ _).alloc (Nat.le_refl _) _
  · go_enter Try.func52, Try.ntmps52
    go_wp2
    refine bodyPost_ret (v := takesV 8) (by simp [results, Try.results52, go_sem, takesV, kdA, kdB, kdC]) rfl ⟨rfl, ?_⟩
    exact (Below.refl _ _).alloc (Nat.le_refl _) _
  · go_enter Try.func52, Try.ntmps52
    go_wp2
    refine bodyPost_ret (v := takesV 9) (by simp [results, Try.results52, go_sem, takesV, kdA, kdB, kdC]) rfl ⟨rfl, ?_⟩
    exact (Below.refl _ _).alloc (Nat.le_refl _) _
  · go_enter Try.func52, Try.ntmps52
    go_wp2
    refine bodyPost_ret (v := takesV 10) (by simp [results, Try.results52, go_sem, takesV, kdA, kdB, kdC]) rfl ⟨rfl, ?_⟩
    exact (Below.refl _ _).alloc (Nat.le_refl _) _
  · go_enter Try.func52, Try.ntmps52
    go_wp2
    refine bodyPost_ret (v := takesV 11) (by simp [results, Try.results52, go_sem, takesV, kdA, kdB, kdC]) rfl ⟨rfl, ?_⟩
    exact (Below.refl _ _).alloc (Nat.le_refl _) _
  · go_enter Try.func52, Try.ntmps52
    go_wp2
    refine bodyPost_ret (v := takesV 12) (by simp [results, Try.results52, go_sem, takesV, kdA, kdB, kdC]) rfl ⟨rfl, ?_⟩
    exact (Below.refl _ _).alloc (Nat.le_refl _) _
  · go_enter Try.func52, Try.ntmps52
    go_wp2
    refine bodyPost_ret (v := takesV 13) (by simp [results, Try.results52, go_sem, takesV, kdA, kdB, kdC]) rfl ⟨rfl, ?_⟩
    exact (Below.refl _ _).alloc (Nat.le_refl _) _
  · go_enter Try.func52, Try.ntmps52
    go_wp2
    refine bodyPost_ret (v := takesV 14) (by simp [results, Try.results52, go_sem, takesV, kdA, kdB, kdC]) rfl ⟨rfl, ?_⟩
    exact (Below.refl _ _).alloc (Nat.le_refl _) _
  · go_enter Try.func52, Try.ntmps52
    go_wp2
    refine bodyPost_ret (v := takesV 15) (by simp [results, Try.results52, go_sem, takesV, kdA, kdB, kdC]) rfl ⟨rfl, ?_⟩
    exact (Below.refl _ _).alloc (Nat.le_refl _) _
theorem takes_no (k : Int) (h : codeB k = false) (w : World) :
    Calls Try.prog 52 #[.int .i64 k] w fun e w' => e = .returned (.tuple #[.agg #[.int .i64 0, .int .i64 0, .int .i64 0], .bool false]) ∧ Below w.heap.size w w' := by
  have h2 : k < 0 ∨ 15 < k := by
    unfold codeB at h
    by_cases h3 : k < 0
    · exact .inl h3
    · refine .inr ?_
      rw [decide_eq_true (show 0 ≤ k by omega), Bool.true_and, decide_eq_false_iff_not] at h
      omega
  clear h
  rcases h2 with h | h
  all_goals
    go_enter Try.func52, Try.ntmps52
    go_wp2
    refine bodyPost_ret (v := .tuple #[.agg #[.int .i64 0, .int .i64 0, .int .i64 0], .bool false]) (by simp [results, Try.results52, go_sem]) rfl ⟨rfl, ?_⟩
    exact (Below.refl _ _).alloc (Nat.le_refl _) _
end Go.Proofs.Ytbmhdinaofepdaa
