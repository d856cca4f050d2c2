/- WALK over package packet: unseal of less than four bytes; unseal in one word. -/
import Derived.Test.YtjbieehehgjnmaaDoorQh
namespace Go.Proofs.YtjbieehehgjnmaaDoor
set_option maxRecDepth 100000
open Go.RowKit
set_option linter.unusedVariables false
set_option linter.unusedSimpArgs false

set_option maxHeartbeats 4000000 in
theorem unseal_less (A : Option Addr) (n c : Nat) (w : World) (hn : n < 4) :
    Calls Tryd.prog 32 #[.slice A n c] w fun r w' => r = .returned (.tuple #[.slice none 0 0, .bool false]) ∧ Below w.heap.size w w' := by
  obtain ⟨z, hz⟩ : ∃ z : Int, (n : Int) - 4 = z := ⟨_, rfl⟩
  have g0 : decide (z < 0) = true := by simp; omega
  have g1 : z < 0 := by omega
  have HZ : Hid (Below w.heap.size w w.drew) := (Below.refl _ _).drew
  go_enter Tryd.func32, Tryd.ntmps32
  go_wp2
  go_region
  go_wp2
  go_ret2
  exact ⟨rfl, HZ.out⟩
end Go.Proofs.YtjbieehehgjnmaaDoor
