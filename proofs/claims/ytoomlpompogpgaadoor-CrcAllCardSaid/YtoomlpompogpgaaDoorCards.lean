/-
  DERIVED. GIVEN WITH THE SEED: THE CARDS: each row of YtoomlpompogpgaaDoorRows.lean that lists a variable, with what it lists TIED to the program's text (the seventh form; the later family's looks); each row that meets fmt, with fmt's text TOLD by the authors' own Lean function (tested against real Go, not proved from fmt's source: count such statements apart). THE CARD IS WHAT COUNTS. Prove the row's statement (the work); the ties are given (YtoomlpompogpgaaDoorTie.lean); close each card by the builder's one call (the guide's Derived/Test/ToyasCard.lean, 'card_holds'). Laid BY PROGRAM, IN A SANDBOX (cutbox-door.mjs). By AI agents, Wed Nov 11 2026. No macro, syntax, notation, axiom, sorry.
-/
import Derived.Test.YtoomlpompogpgaaDoorRows
import GoSem.ClaimSeven
namespace Go.Proofs.YtoomlpompogpgaaDoor
namespace Rows

/-- THE TIED CARD OF 'quintainlaw3.CrcAll'. -/
def crcAllCard : Claim7 := { stood := { row := crcAllRow, standIns := [], harness := (true, "af660dca7c2a0e8f1b3335718015e9ade1789a1b42b970d021c1c600e096668e"), looks := false }, kinds := [], alts := [], laidByText := true, laidKinds := [.data], laidTests := true, laidLooks := .later }
def CrcAllCardSaid : Prop := Claim7.holds Tryd.pinned (.plain (OpenSpec.ofChange crcAllSpec)) crcAllCard

/-- THE TIED CARD OF 'quintainlaw3.CrcBurst'. -/
def crcBurstCard : Claim7 := { stood := { row := crcBurstRow, standIns := [], harness := (true, "af660dca7c2a0e8f1b3335718015e9ade1789a1b42b970d021c1c600e096668e"), looks := false }, kinds := [], alts := [], laidByText := true, laidKinds := [.data], laidTests := true, laidLooks := .later }
def CrcBurstCardSaid : Prop := Claim7.holds Tryd.pinned (.plain (OpenSpec.ofChange crcBurstSpec)) crcBurstCard

/-- THE TIED CARD OF 'quintainlaw3.CrcThree'. -/
def crcThreeCard : Claim7 := { stood := { row := crcThreeRow, standIns := [], harness := (true, "af660dca7c2a0e8f1b3335718015e9ade1789a1b42b970d021c1c600e096668e"), looks := false }, kinds := [], alts := [], laidByText := true, laidKinds := [.data], laidTests := true, laidLooks := .later }
def CrcThreeCardSaid : Prop := Claim7.holds Tryd.pinned (.plain (OpenSpec.ofChange crcThreeSpec)) crcThreeCard

/-- THE TIED CARD OF 'quintainlaw3.CrcMany'. -/
def crcManyCard : Claim7 := { stood := { row := crcManyRow, standIns := [], harness := (true, "af660dca7c2a0e8f1b3335718015e9ade1789a1b42b970d021c1c600e096668e"), looks := false }, kinds := [], alts := [], laidByText := true, laidKinds := [.data], laidTests := true, laidLooks := .later }
def CrcManyCardSaid : Prop := Claim7.holds Tryd.pinned (.plain (OpenSpec.ofChange crcManySpec)) crcManyCard

/-- THE SECOND FORM's CARD OF 'quintainlaw3.CrcAll'. -/
def crcAllUptoCard : Claim7 := { stood := { row := crcAllUptoRow, standIns := [], harness := (true, "af660dca7c2a0e8f1b3335718015e9ade1789a1b42b970d021c1c600e096668e"), looks := false }, kinds := [], alts := [], laidByText := true, laidKinds := [.data], laidTests := true, laidLooks := .later }
def CrcAllUptoCardSaid : Prop := Claim7.holds Tryd.pinned (.plain (OpenSpec.upto crcAllSpec)) crcAllUptoCard

/-- THE SECOND FORM's CARD OF 'quintainlaw3.CrcBurst'. -/
def crcBurstUptoCard : Claim7 := { stood := { row := crcBurstUptoRow, standIns := [], harness := (true, "af660dca7c2a0e8f1b3335718015e9ade1789a1b42b970d021c1c600e096668e"), looks := false }, kinds := [], alts := [], laidByText := true, laidKinds := [.data], laidTests := true, laidLooks := .later }
def CrcBurstUptoCardSaid : Prop := Claim7.holds Tryd.pinned (.plain (OpenSpec.upto crcBurstSpec)) crcBurstUptoCard

/-- THE SECOND FORM's CARD OF 'quintainlaw3.CrcThree'. -/
def crcThreeUptoCard : Claim7 := { stood := { row := crcThreeUptoRow, standIns := [], harness := (true, "af660dca7c2a0e8f1b3335718015e9ade1789a1b42b970d021c1c600e096668e"), looks := false }, kinds := [], alts := [], laidByText := true, laidKinds := [.data], laidTests := true, laidLooks := .later }
def CrcThreeUptoCardSaid : Prop := Claim7.holds Tryd.pinned (.plain (OpenSpec.upto crcThreeSpec)) crcThreeUptoCard

/-- THE SECOND FORM's CARD OF 'quintainlaw3.CrcMany'. -/
def crcManyUptoCard : Claim7 := { stood := { row := crcManyUptoRow, standIns := [], harness := (true, "af660dca7c2a0e8f1b3335718015e9ade1789a1b42b970d021c1c600e096668e"), looks := false }, kinds := [], alts := [], laidByText := true, laidKinds := [.data], laidTests := true, laidLooks := .later }
def CrcManyUptoCardSaid : Prop := Claim7.holds Tryd.pinned (.plain (OpenSpec.upto crcManySpec)) crcManyUptoCard
end Rows
end Go.Proofs.YtoomlpompogpgaaDoor
