/- texts of YpVa -/
import Derived.Deep.CutBlock
import Derived.Deep.CutRange
import Derived.Test.YtpnobpligchpiaaGreatDoorYpFc
import Derived.Test.YtpnobpligchpiaaGreatDoorYpK
namespace Go.Proofs.YtpnobpligchpiaaGreatDoor
set_option maxRecDepth 100000
open Go.RowKit Go.Maps
set_option linter.unusedVariables false
set_option linter.unusedSimpArgs false
open Go.RowKit Go.Maps
open Go.RowKit Go.Maps
open Go.RowKit Go.Maps
open Go.RowKit Go.Maps
section
variable {P : Program} {ops : Array Oper} {Q : Exit → Act → World → Prop} {md : Region.Mode} {S S' : World → Prop}
end
end Go.Proofs.YtpnobpligchpiaaGreatDoor
