/- texts of YpCe -/
import Derived.Test.YtpnobpligchpiaaGreatDoorYpCb
import Derived.Test.YtpnobpligchpiaaGreatDoorYpCc
import Derived.Test.YtpnobpligchpiaaGreatDoorYpK
namespace Go.Proofs.YtpnobpligchpiaaGreatDoor
set_option maxRecDepth 100000
open Go.RowKit
set_option linter.unusedVariables false
set_option linter.unusedSimpArgs false
end Go.Proofs.YtpnobpligchpiaaGreatDoor
