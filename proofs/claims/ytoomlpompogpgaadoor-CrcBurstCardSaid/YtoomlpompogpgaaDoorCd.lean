/- WALK: quintainlaw1.Short, under new names. -/
import Derived.Test.YtoomlpompogpgaaDoorCc
namespace Go.Proofs.YtoomlpompogpgaaDoor
open Go.RowKit
set_option linter.unusedVariables false

theorem short_named (A : Option Addr) (l : List UInt8) (cap k : Nat) (n : Int) (hn : n = k) (w : World) (hk : k ≤ 1000) (hc : l.length ≤ cap) (hc2 : cap ≤ maxLen) :
    Calls Tryd.prog 8 #[.slice A l.length cap, .int .i64 n] w fun e w' => ∃ l', Hid (l' = l.take k) ∧ e = .returned (.slice A l'.length cap) ∧ w = w' := by
  subst hn
  exact (short_any A l cap k w hk hc hc2).mono fun e w' ⟨he, hw⟩ => ⟨_, rfl, he, hw⟩
end Go.Proofs.YtoomlpompogpgaaDoor
