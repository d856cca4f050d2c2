/- WALK of the law VmJump. -/
import Derived.Test.YtkfbepkejdmaeaaMu
namespace Go.Proofs.Ytkfbepkejdmaeaa
set_option maxRecDepth 100000
open Go.RowKit
set_option linter.unusedVariables false

def zerO (N : Nat) : O4 := ⟨10, 0, (N : Int) + 1, 0⟩
def setO (i : Nat) : O4 := ⟨1, 2 + (i : Int), 7, 0⟩
def lasO : O4 := ⟨1, 1, 5, 0⟩
def jumOs (N k : Nat) : List O4 := [zerO N] ++ (List.range k).map setO
def jumAll (N : Nat) : List O4 := jumOs N N ++ [lasO]
theorem jumOs_len (N k : Nat) : (jumOs N k).length = k + 1 := by unfold jumOs; simp
theorem jumOs_snoc (N k : Nat) : jumOs N (k + 1) = jumOs N k ++ [setO k] := by unfold jumOs; rw [List.range_succ, List.map_append, ← List.append_assoc]; rfl
theorem jumAll_len (N : Nat) : (jumAll N).length = N + 1 + 1 := by unfold jumAll; rw [List.length_append, jumOs_len]; rfl
def jumG (a : Int) : List Int := (zG 32).set 0 a
def jumE : Env := ⟨⟨#[106, 117, 109, 112]⟩, 0, []⟩
/-- what comes out -/
def jumR (N : Nat) (v a : Int) : List Int := [a, 5] ++ List.replicate N v ++ List.replicate (30 - N) 0
theorem jumR_len (N : Nat) (v a : Int) (h : N ≤ 30) : (jumR N v a).length = 32 := by unfold jumR; simp; omega
theorem jumR_at (N : Nat) (v a : Int) (i : Nat) (h : i < N) : (jumR N v a)[2 + i]? = some v := by
  unfold jumR
  rw [List.append_assoc, List.getElem?_append_right (by show 2 ≤ 2 + i; omega), List.getElem?_append_left (by rw [List.length_replicate]; show 2 + i - 2 < N; omega)]
  rw [List.getElem?_replicate, if_pos (by show 2 + i - 2 < N; omega)]
theorem jum_fault : ∀ N, N < 21 → faultN (titB jumE.t) (jumAll N) = -1 := by decide +kernel
theorem jum_zero : ∀ N, N < 21 → (goN jumE (jumAll N) 200 0 (jumG 0)).1 = jumR N 0 0 := by decide +kernel
theorem jum_step (N : Nat) (hN : N ≤ 20) (a : Int) : (goN jumE (jumAll N) 199 1 (jumG a)).1 = jumR N 7 a := by
  have h : N = 0 ∨ N = 1 ∨ N = 2 ∨ N = 3 ∨ N = 4 ∨ N = 5 ∨ N = 6 ∨ N = 7 ∨ N = 8 ∨ N = 9 ∨ N = 10 ∨ N = 11 ∨ N = 12 ∨ N = 13 ∨ N = 14 ∨ N = 15 ∨ N = 16 ∨ N = 17 ∨ N = 18 ∨ N = 19 ∨ N = 20 := by omega
  rcases h with rfl | rfl | rfl | rfl | rfl | rfl | rfl | rfl | rfl | rfl | rfl | rfl | rfl | rfl | rfl | rfl | rfl | rfl | rfl | rfl | rfl
  all_goals (show _ = _; kernel_rfl)
theorem jum_frame (N : Nat) (hN : N ≤ 20) (a : Int) : (frameN jumE (jumAll N) (jumG a)).1 = jumR N (if a = 0 then 0 else 7) a := by
  unfold frameN
  rw [if_pos (jum_fault N (by omega))]
  by_cases ha : a = 0
  · subst ha; rw [if_pos rfl]; exact jum_zero N (by omega)
  · rw [if_neg ha, goN_step jumE (jumAll N) 199 0 _ (by rw [jumAll_len]; omega)]
    have e0 : (jumAll N)[0]'(by rw [jumAll_len]; omega) = zerO N := rfl
    have e1 : nxtN (jumAll N).length (jumG a) 0 (zerO N) = 1 := by
      unfold nxtN
      rw [if_neg (by show ¬ (10 : Int) = 0; omega), if_neg (by show ¬ (10 : Int) = 9; omega), if_neg (fun h => ha (by have h2 : cel (jumG a) 0 = 0 := h.2; exact h2))]
    have e2 : gmN jumE (jumG a) (zerO N) = jumG a := rfl
    rw [e0, e1, e2]
    exact jum_step N hN a
theorem jumG_gam (a : Int) (h : in32 a) : gam (jumG a) := gam.zero.set 0 h
end Go.Proofs.Ytkfbepkejdmaeaa
