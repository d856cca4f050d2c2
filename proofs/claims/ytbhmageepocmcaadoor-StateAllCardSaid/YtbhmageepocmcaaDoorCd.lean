/- WALK: quintainlaw1.Short, under new names. -/
import Derived.Test.YtbhmageepocmcaaDoorCc
namespace Go.Proofs.YtbhmageepocmcaaDoor
open Go.RowKit
set_option linter.unusedVariables false

end Go.Proofs.YtbhmageepocmcaaDoor
