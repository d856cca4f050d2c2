/- WALK of the law PredictOrder. -/
import Derived.Test.YtomiligjcpmnjaaFv
namespace Go.Proofs.Ytomiligjcpmnjaa
set_option maxRecDepth 100000
open Go.RowKit Go.Maps
set_option linter.unusedVariables false
set_option linter.unusedSimpArgs false

theorem may_kd {z o : Int} {n : Nat} {tb : List UInt8} (h : mayB z o n = true) (ht : tb.length = n) : (Kd.mk z.toNat o.toNat tb).ok ∧ z = (((Kd.mk z.toNat o.toNat tb).k : Nat) : Int) ∧ o = (((Kd.mk z.toNat o.toNat tb).o : Nat) : Int) := by
  have h := of_decide_eq_true h
  unfold Kd.ok
  simp only
  have e : tb = [] ↔ n = 0 := by rw [← ht]; exact List.length_eq_zero_iff.symm
  rw [e]
  omega
theorem take_take_le (l : List UInt8) (m : Nat) (h : m ≤ 256) : (l.take 256).take m = l.take m := by rw [List.take_take, Nat.min_eq_left h]
end Go.Proofs.Ytomiligjcpmnjaa
