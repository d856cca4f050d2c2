/-
  DERIVED. GIVEN WITH THE SEED: THE CARDS: each row of YtbhmageepocmcaaDoorRows.lean that lists a variable, with what it lists TIED to the program's text (the seventh form; the later family's looks); each row that meets fmt, with fmt's text TOLD by the authors' own Lean function (tested against real Go, not proved from fmt's source: count such statements apart). THE CARD IS WHAT COUNTS. Prove the row's statement (the work); the ties are given (YtbhmageepocmcaaDoorTie.lean); close each card by the builder's one call (the guide's Derived/Test/ToyasCard.lean, 'card_holds'). Laid BY PROGRAM, IN A SANDBOX (cutbox-door.mjs). By AI agents, Wed Nov 11 2026. No macro, syntax, notation, axiom, sorry.
-/
import Derived.Test.YtbhmageepocmcaaDoorRows
import GoSem.ClaimSeven
namespace Go.Proofs.YtbhmageepocmcaaDoor
namespace Rows

/-- THE TIED CARD OF 'quintainlaw8.StateAll'. -/
def stateAllCard : Claim7 := { stood := { row := stateAllRow, standIns := [], harness := (true, "beee9829cdb291018e9809da950ad3d9f55a6a3065bb06c71a80fd02ee2cf77f"), looks := false }, kinds := [], alts := [], laidByText := true, laidKinds := [.data], laidTests := true, laidLooks := .later }
def StateAllCardSaid : Prop := Claim7.holds Tryd.pinned (.plain (OpenSpec.ofChange stateAllSpec)) stateAllCard

/-- THE TIED CARD OF 'quintainlaw8.StateTwins'. -/
def stateTwinsCard : Claim7 := { stood := { row := stateTwinsRow, standIns := [], harness := (true, "beee9829cdb291018e9809da950ad3d9f55a6a3065bb06c71a80fd02ee2cf77f"), looks := false }, kinds := [], alts := [], laidByText := true, laidKinds := [.data], laidTests := true, laidLooks := .later }
def StateTwinsCardSaid : Prop := Claim7.holds Tryd.pinned (.plain (OpenSpec.ofChange stateTwinsSpec)) stateTwinsCard

/-- THE SECOND FORM's CARD OF 'quintainlaw8.StateAll'. -/
def stateAllUptoCard : Claim7 := { stood := { row := stateAllUptoRow, standIns := [], harness := (true, "beee9829cdb291018e9809da950ad3d9f55a6a3065bb06c71a80fd02ee2cf77f"), looks := false }, kinds := [], alts := [], laidByText := true, laidKinds := [.data], laidTests := true, laidLooks := .later }
def StateAllUptoCardSaid : Prop := Claim7.holds Tryd.pinned (.plain (OpenSpec.upto stateAllSpec)) stateAllUptoCard

/-- THE SECOND FORM's CARD OF 'quintainlaw8.StateTwins'. -/
def stateTwinsUptoCard : Claim7 := { stood := { row := stateTwinsUptoRow, standIns := [], harness := (true, "beee9829cdb291018e9809da950ad3d9f55a6a3065bb06c71a80fd02ee2cf77f"), looks := false }, kinds := [], alts := [], laidByText := true, laidKinds := [.data], laidTests := true, laidLooks := .later }
def StateTwinsUptoCardSaid : Prop := Claim7.holds Tryd.pinned (.plain (OpenSpec.upto stateTwinsSpec)) stateTwinsUptoCard
end Rows
end Go.Proofs.YtbhmageepocmcaaDoor
