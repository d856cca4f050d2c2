/- WALKS over package input: Clone, From, All, Add. -/
import Derived.Test.YtbcnaklbbaoihaaIc
import Derived.Lib.SliceRun
namespace Go.Proofs.Ytbcnaklbbaoihaa
set_option maxRecDepth 100000
open Go.RowKit
set_option linter.unusedVariables false
set_option linter.unusedSimpArgs false

theorem OB.empty (w : World) : OB (w.alloc (.cells #[] 5)) w.heap.size (.slice (some ⟨w.heap.size, 0, none⟩) 0 0) [] :=
  ⟨by simp, .inr ⟨w.heap.size, 0, _, rfl, Nat.le_refl _, heap_alloc_new w _, Nat.le_refl _, by unfold maxLen; omega, by rfl, by rfl⟩⟩
end Go.Proofs.Ytbcnaklbbaoihaa
