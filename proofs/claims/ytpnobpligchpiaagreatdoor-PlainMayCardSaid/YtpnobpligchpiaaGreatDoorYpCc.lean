/- texts of YpCc -/
import Derived.Deep.MidRow
import Derived.Test.YtpnobpligchpiaaGreatDoorYpCa
import Derived.Test.YtpnobpligchpiaaGreatDoorYpK
namespace Go.Proofs.YtpnobpligchpiaaGreatDoor
set_option maxRecDepth 100000
open Go.RowKit
set_option linter.unusedVariables false
set_option linter.unusedSimpArgs false
abbrev Md := Nat × Value × List UInt8
section
variable {w w' : World} {base me : Nat} {v u : Value} {l : List UInt8} {ms : List Md}
end
section
variable {w0 w w1 w' : World} {K K1 : Dm} {s s' : Pl} {O : Nat → Prop}
end
theorem Same.drew {O : Nat → Prop} (w : World) : Same O w w.drew := fun _ _ => rfl
end Go.Proofs.YtpnobpligchpiaaGreatDoor
