/- texts of YpV -/
import Derived.Test.YtpnobpligchpiaaGreatDoorYpK
import Derived.Test.YtpnobpligchpiaaGreatDoorYpL
import Derived.Test.YtpnobpligchpiaaGreatDoorYpQ
import Derived.Test.YtpnobpligchpiaaGreatDoorYpT
import Derived.Test.YtpnobpligchpiaaGreatDoorYpU
namespace Go.Proofs.YtpnobpligchpiaaGreatDoor
set_option maxRecDepth 100000
open Go.RowKit
set_option linter.unusedVariables false
set_option linter.unusedSimpArgs false
theorem dec_no (A : Option Addr) (l : List UInt8) (n c : Nat) (w : World) (hT : TabW w) (hr : RB w w.heap.size A l) (hn : l.length = n) (hc : n ≤ c) (hm : c ≤ maxLen) (hl : n ≤ 4096) (hp : ∀ p, ¬ IsK l p) :
 Calls Tryz.prog 82 #[.slice A n c] w fun e w' => e = .returned (.tuple #[pkV 0 0 0 0 0 none 0 0 0 0 0, .int .i64 1]) ∧ Below w.heap.size w w' :=
 (dec_run A l n c w hT hr hn hc hm hl).mono fun e w' ⟨h, hb⟩ => by
   rcases h with ⟨q, A2, n2, c2, hq, _⟩ | ⟨_, he⟩
   · exact absurd hq (hp q)
   · exact ⟨he, hb⟩
end Go.Proofs.YtpnobpligchpiaaGreatDoor
