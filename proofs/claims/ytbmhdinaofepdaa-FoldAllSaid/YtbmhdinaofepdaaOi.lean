/- THE WALK of ref Encode. -/
import Derived.Test.YtbmhdinaofepdaaOg
import Derived.Test.YtbmhdinaofepdaaOh
namespace Go.Proofs.Ytbmhdinaofepdaa
open Go.RowKit
set_option linter.unusedVariables false
attribute [local go_sem ↓] Go.wp_at_zero Go.wp_at_succ

theorem ne_next {G : Nat} {v v' : Value} {w : World} (h : some G ≠ v.ownBlock) (e : v'.ownBlock = v.ownBlock ∨ v'.ownBlock = some w.heap.size) (hz : G < w.heap.size) : Hid (some G ≠ v'.ownBlock) := fun he => by
  rcases e with e | e
  · exact h (he.trans e)
  · rw [e] at he; injection he with he; omega
end Go.Proofs.Ytbmhdinaofepdaa
