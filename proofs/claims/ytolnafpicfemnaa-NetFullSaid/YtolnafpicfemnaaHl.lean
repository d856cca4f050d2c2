/- WALK of the law NetFull: all of it. -/
import Derived.Test.YtolnafpicfemnaaHj
import Derived.Test.YtolnafpicfemnaaHk
namespace Go.Proofs.Ytolnafpicfemnaa
set_option maxRecDepth 100000
open Go.RowKit
set_option linter.unusedVariables false
set_option linter.unusedSimpArgs false

theorem full_law (k size : Int) (w : World) (n0 : -9223372036854775808 ≤ k) (n1 : k ≤ 9223372036854775807) (p0 : -9223372036854775808 ≤ size) (p1 : size ≤ 9223372036854775807) :
    Calls Try.prog 4 #[.int .i64 k, .int .i64 size] w fun e w' => e = .returned (.bool true) ∧ Below w.heap.size w w' := by
  by_cases g1 : k < 0 ∨ 320 < k ∨ size < 0 ∨ 1100 < size
  · exact full_out k size w g1
  · obtain ⟨K, rfl⟩ : ∃ N : Nat, k = N := ⟨k.toNat, by omega⟩
    obtain ⟨Z, rfl⟩ : ∃ N : Nat, size = N := ⟨size.toNat, by omega⟩
    by_cases h0 : Z = 0
    · exact full_nil K Z w (by omega) (by omega) h0
    · by_cases h1 : Z ≤ 1000
      · exact full_in K Z w (by omega) (by omega) (by omega) h1
      · exact full_long K Z w (by omega) (by omega) (by omega)
end Go.Proofs.Ytolnafpicfemnaa
