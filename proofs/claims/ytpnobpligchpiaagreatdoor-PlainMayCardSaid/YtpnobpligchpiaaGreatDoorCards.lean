/-
  DERIVED. GIVEN WITH THE SEED: THE CARDS: each row of YtpnobpligchpiaaGreatDoorRows.lean that lists a variable, with what it lists TIED to the program's text (the seventh form; the later family's looks); each row that meets fmt, with fmt's text TOLD by the authors' own Lean function (tested against real Go, not proved from fmt's source: count such statements apart). THE CARD IS WHAT COUNTS. Prove the row's statement (the work); the ties are given (YtpnobpligchpiaaGreatDoorTie.lean); close each card by the builder's one call (the guide's Derived/Test/ToyasCard.lean, 'card_holds'). Laid BY PROGRAM, IN A SANDBOX (cutbox-door.mjs). By AI agents, Wed Nov 11 2026. No macro, syntax, notation, axiom, sorry.
-/
import Derived.Test.YtpnobpligchpiaaGreatDoorRows
import GoSem.ClaimSeven
namespace Go.Proofs.YtpnobpligchpiaaGreatDoor
namespace Rows

/-- THE TIED CARD OF 'quintainlaw21.CoreAll'. -/
def coreAllCard : Claim7 := { stood := { row := coreAllRow, standIns := [], harness := (true, "df00787e2e375fc742f1bd73468370d91314910987b412a606ddb4e1de20eb8f"), looks := false }, kinds := [], alts := [], laidByText := true, laidKinds := [.data], laidTests := true, laidLooks := .later }
def CoreAllCardSaid : Prop := Claim7.holds Tryz.pinned (.plain (OpenSpec.ofChange coreAllSpec)) coreAllCard

/-- THE TIED CARD OF 'quintainlaw22.PlainAll'. -/
def plainAllCard : Claim7 := { stood := { row := plainAllRow, standIns := [], harness := (true, "df00787e2e375fc742f1bd73468370d91314910987b412a606ddb4e1de20eb8f"), looks := false }, kinds := [], alts := [], laidByText := true, laidKinds := [.data], laidTests := true, laidLooks := .later }
def PlainAllCardSaid : Prop := Claim7.holds Tryz.pinned (.plain (OpenSpec.ofChange plainAllSpec)) plainAllCard

/-- THE TIED CARD OF 'quintainlaw22.PlainSure'. -/
def plainSureCard : Claim7 := { stood := { row := plainSureRow, standIns := [], harness := (true, "df00787e2e375fc742f1bd73468370d91314910987b412a606ddb4e1de20eb8f"), looks := false }, kinds := [], alts := [], laidByText := true, laidKinds := [.data], laidTests := true, laidLooks := .later }
def PlainSureCardSaid : Prop := Claim7.holds Tryz.pinned (.plain (OpenSpec.ofChange plainSureSpec)) plainSureCard

/-- THE TIED CARD OF 'quintainlaw22.PlainNone'. -/
def plainNoneCard : Claim7 := { stood := { row := plainNoneRow, standIns := [], harness := (true, "df00787e2e375fc742f1bd73468370d91314910987b412a606ddb4e1de20eb8f"), looks := false }, kinds := [], alts := [], laidByText := true, laidKinds := [.data], laidTests := true, laidLooks := .later }
def PlainNoneCardSaid : Prop := Claim7.holds Tryz.pinned (.plain (OpenSpec.ofChange plainNoneSpec)) plainNoneCard

/-- THE TIED CARD OF 'quintainlaw22.PlainShown'. -/
def plainShownCard : Claim7 := { stood := { row := plainShownRow, standIns := [], harness := (true, "df00787e2e375fc742f1bd73468370d91314910987b412a606ddb4e1de20eb8f"), looks := false }, kinds := [], alts := [], laidByText := true, laidKinds := [.data], laidTests := true, laidLooks := .later }
def PlainShownCardSaid : Prop := Claim7.holds Tryz.pinned (.plain (OpenSpec.ofChange plainShownSpec)) plainShownCard

/-- THE TIED CARD OF 'quintainlaw22.PlainMay'. -/
def plainMayCard : Claim7 := { stood := { row := plainMayRow, standIns := [], harness := (true, "df00787e2e375fc742f1bd73468370d91314910987b412a606ddb4e1de20eb8f"), looks := false }, kinds := [], alts := [], laidByText := true, laidKinds := [.data], laidTests := true, laidLooks := .later }
def PlainMayCardSaid : Prop := Claim7.holds Tryz.pinned (.plain (OpenSpec.ofChange plainMaySpec)) plainMayCard

/-- THE TIED CARD OF 'quintainlaw22.PlainGuess'. -/
def plainGuessCard : Claim7 := { stood := { row := plainGuessRow, standIns := [], harness := (true, "df00787e2e375fc742f1bd73468370d91314910987b412a606ddb4e1de20eb8f"), looks := false }, kinds := [], alts := [], laidByText := true, laidKinds := [.data], laidTests := true, laidLooks := .later }
def PlainGuessCardSaid : Prop := Claim7.holds Tryz.pinned (.plain (OpenSpec.ofChange plainGuessSpec)) plainGuessCard

/-- THE TIED CARD OF 'quintainlaw22.PlainOrder'. -/
def plainOrderCard : Claim7 := { stood := { row := plainOrderRow, standIns := [], harness := (true, "df00787e2e375fc742f1bd73468370d91314910987b412a606ddb4e1de20eb8f"), looks := false }, kinds := [], alts := [], laidByText := true, laidKinds := [.data], laidTests := true, laidLooks := .later }
def PlainOrderCardSaid : Prop := Claim7.holds Tryz.pinned (.plain (OpenSpec.ofChange plainOrderSpec)) plainOrderCard

/-- THE SECOND FORM's CARD OF 'quintainlaw21.CoreAll'. -/
def coreAllUptoCard : Claim7 := { stood := { row := coreAllUptoRow, standIns := [], harness := (true, "df00787e2e375fc742f1bd73468370d91314910987b412a606ddb4e1de20eb8f"), looks := false }, kinds := [], alts := [], laidByText := true, laidKinds := [.data], laidTests := true, laidLooks := .later }
def CoreAllUptoCardSaid : Prop := Claim7.holds Tryz.pinned (.plain (OpenSpec.upto coreAllSpec)) coreAllUptoCard

/-- THE SECOND FORM's CARD OF 'quintainlaw22.PlainAll'. -/
def plainAllUptoCard : Claim7 := { stood := { row := plainAllUptoRow, standIns := [], harness := (true, "df00787e2e375fc742f1bd73468370d91314910987b412a606ddb4e1de20eb8f"), looks := false }, kinds := [], alts := [], laidByText := true, laidKinds := [.data], laidTests := true, laidLooks := .later }
def PlainAllUptoCardSaid : Prop := Claim7.holds Tryz.pinned (.plain (OpenSpec.upto plainAllSpec)) plainAllUptoCard

/-- THE SECOND FORM's CARD OF 'quintainlaw22.PlainSure'. -/
def plainSureUptoCard : Claim7 := { stood := { row := plainSureUptoRow, standIns := [], harness := (true, "df00787e2e375fc742f1bd73468370d91314910987b412a606ddb4e1de20eb8f"), looks := false }, kinds := [], alts := [], laidByText := true, laidKinds := [.data], laidTests := true, laidLooks := .later }
def PlainSureUptoCardSaid : Prop := Claim7.holds Tryz.pinned (.plain (OpenSpec.upto plainSureSpec)) plainSureUptoCard

/-- THE SECOND FORM's CARD OF 'quintainlaw22.PlainNone'. -/
def plainNoneUptoCard : Claim7 := { stood := { row := plainNoneUptoRow, standIns := [], harness := (true, "df00787e2e375fc742f1bd73468370d91314910987b412a606ddb4e1de20eb8f"), looks := false }, kinds := [], alts := [], laidByText := true, laidKinds := [.data], laidTests := true, laidLooks := .later }
def PlainNoneUptoCardSaid : Prop := Claim7.holds Tryz.pinned (.plain (OpenSpec.upto plainNoneSpec)) plainNoneUptoCard

/-- THE SECOND FORM's CARD OF 'quintainlaw22.PlainShown'. -/
def plainShownUptoCard : Claim7 := { stood := { row := plainShownUptoRow, standIns := [], harness := (true, "df00787e2e375fc742f1bd73468370d91314910987b412a606ddb4e1de20eb8f"), looks := false }, kinds := [], alts := [], laidByText := true, laidKinds := [.data], laidTests := true, laidLooks := .later }
def PlainShownUptoCardSaid : Prop := Claim7.holds Tryz.pinned (.plain (OpenSpec.upto plainShownSpec)) plainShownUptoCard

/-- THE SECOND FORM's CARD OF 'quintainlaw22.PlainMay'. -/
def plainMayUptoCard : Claim7 := { stood := { row := plainMayUptoRow, standIns := [], harness := (true, "df00787e2e375fc742f1bd73468370d91314910987b412a606ddb4e1de20eb8f"), looks := false }, kinds := [], alts := [], laidByText := true, laidKinds := [.data], laidTests := true, laidLooks := .later }
def PlainMayUptoCardSaid : Prop := Claim7.holds Tryz.pinned (.plain (OpenSpec.upto plainMaySpec)) plainMayUptoCard

/-- THE SECOND FORM's CARD OF 'quintainlaw22.PlainGuess'. -/
def plainGuessUptoCard : Claim7 := { stood := { row := plainGuessUptoRow, standIns := [], harness := (true, "df00787e2e375fc742f1bd73468370d91314910987b412a606ddb4e1de20eb8f"), looks := false }, kinds := [], alts := [], laidByText := true, laidKinds := [.data], laidTests := true, laidLooks := .later }
def PlainGuessUptoCardSaid : Prop := Claim7.holds Tryz.pinned (.plain (OpenSpec.upto plainGuessSpec)) plainGuessUptoCard

/-- THE SECOND FORM's CARD OF 'quintainlaw22.PlainOrder'. -/
def plainOrderUptoCard : Claim7 := { stood := { row := plainOrderUptoRow, standIns := [], harness := (true, "df00787e2e375fc742f1bd73468370d91314910987b412a606ddb4e1de20eb8f"), looks := false }, kinds := [], alts := [], laidByText := true, laidKinds := [.data], laidTests := true, laidLooks := .later }
def PlainOrderUptoCardSaid : Prop := Claim7.holds Tryz.pinned (.plain (OpenSpec.upto plainOrderSpec)) plainOrderUptoCard
end Rows
end Go.Proofs.YtpnobpligchpiaaGreatDoor
