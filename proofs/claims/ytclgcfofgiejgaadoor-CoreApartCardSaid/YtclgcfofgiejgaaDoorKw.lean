/- Short: the first bytes of a slice. Of every seat that has quintainlaw1.Short. -/
import Derived.Test.YtclgcfofgiejgaaDoorKa
namespace Go.Proofs.YtclgcfofgiejgaaDoor
set_option maxRecDepth 100000
open Go.RowKit
set_option linter.unusedVariables false
set_option linter.unusedSimpArgs false

theorem short_any (A : Option Addr) (l : List UInt8) (cap k : Nat) (w : World) (hk : k ≤ 1000) (hc : l.length ≤ cap) (hc2 : cap ≤ maxLen) :
    Calls Tryd.prog 28 #[.slice A l.length cap, .int .i64 k] w fun e w' => e = .returned (.slice A (l.take k).length cap) ∧ w = w' := by
  unfold maxLen at hc2
  rw [List.length_take]
  by_cases h : k < l.length
  · go_enter Tryd.func28, Tryd.ntmps28
    go_wp2
    go_ret
    exact ⟨by rw [Nat.min_eq_left (by omega)]; rfl, rfl⟩
  · go_enter Tryd.func28, Tryd.ntmps28
    go_wp2
    go_ret
    exact ⟨by rw [Nat.min_eq_right (by omega)]; rfl, rfl⟩
theorem short_n (A : Option Addr) (l : List UInt8) (n cap k : Nat) (w : World) (hn : l.length = n) (hk : k ≤ 1000) (hc : n ≤ cap) (hc2 : cap ≤ maxLen) (X : Nat) (hX : (l.take k).length = X) (K : Int) (hK : K = (k : Int)) :
    Calls Tryd.prog 28 #[.slice A n cap, .int .i64 K] w fun e w' => e = .returned (.slice A X cap) ∧ w = w' := by
  subst hn hX hK
  exact short_any A l cap k w hk hc hc2
end Go.Proofs.YtclgcfofgiejgaaDoor
