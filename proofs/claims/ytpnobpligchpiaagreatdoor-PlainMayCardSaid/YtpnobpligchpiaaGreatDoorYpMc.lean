/- texts of YpMc -/
import Derived.StillTailTactics
import Derived.Test.YtpnobpligchpiaaGreatDoorYpEb
import Derived.Test.YtpnobpligchpiaaGreatDoorYpGa
import Derived.Test.YtpnobpligchpiaaGreatDoorYpK
import Derived.Test.YtpnobpligchpiaaGreatDoorYpMa
import Derived.Test.YtpnobpligchpiaaGreatDoorYpMb
namespace Go.Proofs.YtpnobpligchpiaaGreatDoor
set_option maxRecDepth 100000
open Go.RowKit
set_option linter.unusedVariables false
theorem GA.at_ {w : World} {b : Nat} {t : TypeId} {g : List Int} (h : GA w b t g) (hg : gam g) (z : Int) (z0 : 0 ≤ z) (z1 : z < 32) : w.cell? ⟨b, z.toNat, none⟩ = some (.int .i32 (cel g z)) := by
 have hk : z.toNat < g.length := by have := hg.1; omega
 rw [h.cell z.toNat hk, cel_of g z z.toNat (by omega) hk]
theorem GA.fz {w : World} {b : Nat} {t : TypeId} {g : List Int} (h : GA w b t g) (z : Int) : w.frozen? ⟨b, z.toNat, none⟩ = false := h.frozen _
end Go.Proofs.YtpnobpligchpiaaGreatDoor
