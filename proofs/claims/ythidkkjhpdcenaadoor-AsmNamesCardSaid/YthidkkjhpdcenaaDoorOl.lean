/- THE WALK of code's Decode. -/
import Derived.Test.YthidkkjhpdcenaaDoorOe
import Derived.Test.YthidkkjhpdcenaaDoorOf
import Derived.Test.YthidkkjhpdcenaaDoorKd
namespace Go.Proofs.YthidkkjhpdcenaaDoor
open Go.RowKit
set_option linter.unusedVariables false

def titL (t : List UInt8) : Bool := titB (str t)
/-- Decode's answer -/
def Decoded (l : List UInt8) (w : World) (e : Ending) (w' : World) : Prop := match progN titL l with
  | none => e = .returned (.tuple #[progV ⟨#[]⟩ none 0 0, .int .i64 1]) ∧ Below w.heap.size w w'
  | some (t, os) => ∃ g, e = .returned (.tuple #[progV (str t) (some ⟨g, 0, none⟩) os.length os.length, .int .i64 0]) ∧ w.heap.size ≤ g ∧ OpRow w' g os.length os ∧ Below w.heap.size w w'
theorem Decoded.no {l : List UInt8} {w w' : World} (h : progN titL l = none) (hb : Below w.heap.size w w') : Decoded l w (.returned (.tuple #[.agg #[.string ⟨#[]⟩, .slice none 0 0], .int .i64 1])) w' := by
  unfold Decoded; rw [h]; exact ⟨rfl, hb⟩
theorem progN_no1 {l : List UInt8} (h : ∀ t k, textN l ≠ .ok t k) : progN titL l = none := by
  unfold progN
  split
  · rename_i t k ht; exact absurd ht (h t k)
  · rfl
theorem progN_ok {l t : List UInt8} {k : Nat} (h : textN l = .ok t k) : progN titL l = match rowsN (l.drop k) with
    | some os => if fitsB (titL t) os then some (t, os) else none
    | none => none := by
  simp only [progN, h]
  cases rowsN (l.drop k) <;> rfl
theorem alloc2_cells (w : World) (u v : Value) (T : TypeId) : (w.alloc (.cells #[u, v] T)).rowIs w.heap.size T 2 (fun i => if i = 0 then u else v) := World.rowIs_alloc w _ T _ (fun i hi => by
    have hi : i < 2 := hi
    obtain rfl | rfl : i = 0 ∨ i = 1 := by omega
    all_goals rfl)
end Go.Proofs.YthidkkjhpdcenaaDoor
