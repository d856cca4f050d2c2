/- THE WALKS of slices.Equal, code's Eq, ref EqProg. -/
import Derived.Test.YthidkkjhpdcenaaDoorOf
import Derived.Laws.StructEq
namespace Go.Proofs.YthidkkjhpdcenaaDoor
open Go.RowKit
set_option linter.unusedVariables false

theorem op_struct : Tryd.prog.underlying 39 = some (.struct (Tryd.prog.fieldsOf 39)) := by kernel_rfl
theorem op_held : Tryd.prog.stoodInHeld 39 = false := by kernel_rfl
theorem op_guard : Tryd.prog.eqGuardType Tryd.prog.depth 39 = false := by kernel_rfl
theorem op_fields : (Tryd.prog.fieldsOf 39).toList.map (fun f => (f.name ≠ "_" : Bool) && decide (f.type = 3)) = [true, true, true, true] := by kernel_rfl
theorem neq_ops (x y : O4) (w : World) : (binOp .neq 39 (opV x) (opV y)).run Tryd.prog w = (if x.k = y.k then if x.a = y.a then if x.b = y.b then if x.c = y.c then .ok (.bool false) w else .ok (.bool true) w else .ok (.bool true) w else .ok (.bool true) w else .ok (.bool true) w) := by
  unfold opV
  rw [run_neq_struct, run_equalIn_agg w 9999 _ _ _ op_struct op_held]
  have hu := Tryd.underlying3
  simp only [Program.fieldsOf, Tryd.underlying39]
  simp [Op.eqFields, part, go_sem, hu]
theorem neq_same (x : O4) (w : World) : (binOp .neq 39 (opV x) (opV x)).run Tryd.prog w = .ok (.bool false) w := by rw [neq_ops]; simp
theorem neq_other (x y : O4) (h : x ≠ y) (w : World) : (binOp .neq 39 (opV x) (opV y)).run Tryd.prog w = .ok (.bool true) w := by
  rw [neq_ops]
  cases x; cases y
  simp only [ne_eq, O4.mk.injEq, not_and] at h
  split <;> rename_i h1
  · split <;> rename_i h2
    · split <;> rename_i h3
      · split <;> rename_i h4
        · exact absurd h4 (h h1 h2 h3)
        · rfl
      · rfl
    · rfl
  · rfl
theorem take_same {α : Type} {x y : List α} {k : Nat} (hx : k < x.length) (hy : k < y.length) (h : x.take k = y.take k) (he : x[k] = y[k]) : x.take (k + 1) = y.take (k + 1) := by
  rw [List.take_succ_eq_append_getElem hx, List.take_succ_eq_append_getElem hy, h, he]
theorem toList_inj {t u : ByteArray} : t.toList = u.toList ↔ t = u := by
  constructor
  · intro h
    rw [Lib.toList_data, Lib.toList_data] at h
    obtain ⟨⟨a⟩⟩ := t
    obtain ⟨⟨b⟩⟩ := u
    simp only at h
    rw [h]
  · intro h; rw [h]
end Go.Proofs.YthidkkjhpdcenaaDoor
