/-
  DERIVED. GIVEN WITH THE SEED: THE CARDS: each row of YtclgcfofgiejgaaDoorRows.lean that lists a variable, with what it lists TIED to the program's text (the seventh form; the later family's looks); each row that meets fmt, with fmt's text TOLD by the authors' own Lean function (tested against real Go, not proved from fmt's source: count such statements apart). THE CARD IS WHAT COUNTS. Prove the row's statement (the work); the ties are given (YtclgcfofgiejgaaDoorTie.lean); close each card by the builder's one call (the guide's Derived/Test/ToyasCard.lean, 'card_holds'). Laid BY PROGRAM, IN A SANDBOX (cutbox-door.mjs). By AI agents, Wed Nov 11 2026. No macro, syntax, notation, axiom, sorry.
-/
import Derived.Test.YtclgcfofgiejgaaDoorRows
import GoSem.ClaimSeven
namespace Go.Proofs.YtclgcfofgiejgaaDoor
namespace Rows

/-- THE TIED CARD OF 'quintainlaw21.CoreLate'. -/
def coreLateCard : Claim7 := { stood := { row := coreLateRow, standIns := [], harness := (true, "b370923d2db4dfdadefa7948f9d4d2c196c2bcad4f94e986892dccdd8fc55eae"), looks := false }, kinds := [], alts := [], laidByText := true, laidKinds := [.data], laidTests := true, laidLooks := .later }
def CoreLateCardSaid : Prop := Claim7.holds Tryd.pinned (.plain (OpenSpec.ofChange coreLateSpec)) coreLateCard

/-- THE TIED CARD OF 'quintainlaw21.CoreStall'. -/
def coreStallCard : Claim7 := { stood := { row := coreStallRow, standIns := [], harness := (true, "b370923d2db4dfdadefa7948f9d4d2c196c2bcad4f94e986892dccdd8fc55eae"), looks := false }, kinds := [], alts := [], laidByText := true, laidKinds := [.data], laidTests := true, laidLooks := .later }
def CoreStallCardSaid : Prop := Claim7.holds Tryd.pinned (.plain (OpenSpec.ofChange coreStallSpec)) coreStallCard

/-- THE TIED CARD OF 'quintainlaw21.CoreNone'. -/
def coreNoneCard : Claim7 := { stood := { row := coreNoneRow, standIns := [], harness := (true, "b370923d2db4dfdadefa7948f9d4d2c196c2bcad4f94e986892dccdd8fc55eae"), looks := false }, kinds := [], alts := [], laidByText := true, laidKinds := [.data], laidTests := true, laidLooks := .later }
def CoreNoneCardSaid : Prop := Claim7.holds Tryd.pinned (.plain (OpenSpec.ofChange coreNoneSpec)) coreNoneCard

/-- THE TIED CARD OF 'quintainlaw21.CoreAgain'. -/
def coreAgainCard : Claim7 := { stood := { row := coreAgainRow, standIns := [], harness := (true, "b370923d2db4dfdadefa7948f9d4d2c196c2bcad4f94e986892dccdd8fc55eae"), looks := false }, kinds := [], alts := [], laidByText := true, laidKinds := [.data], laidTests := true, laidLooks := .later }
def CoreAgainCardSaid : Prop := Claim7.holds Tryd.pinned (.plain (OpenSpec.ofChange coreAgainSpec)) coreAgainCard

/-- THE TIED CARD OF 'quintainlaw21.CoreWord'. -/
def coreWordCard : Claim7 := { stood := { row := coreWordRow, standIns := [], harness := (true, "b370923d2db4dfdadefa7948f9d4d2c196c2bcad4f94e986892dccdd8fc55eae"), looks := false }, kinds := [], alts := [], laidByText := true, laidKinds := [.data], laidTests := true, laidLooks := .later }
def CoreWordCardSaid : Prop := Claim7.holds Tryd.pinned (.plain (OpenSpec.ofChange coreWordSpec)) coreWordCard

/-- THE TIED CARD OF 'quintainlaw21.CoreSends'. -/
def coreSendsCard : Claim7 := { stood := { row := coreSendsRow, standIns := [], harness := (true, "b370923d2db4dfdadefa7948f9d4d2c196c2bcad4f94e986892dccdd8fc55eae"), looks := false }, kinds := [], alts := [], laidByText := true, laidKinds := [.data], laidTests := true, laidLooks := .later }
def CoreSendsCardSaid : Prop := Claim7.holds Tryd.pinned (.plain (OpenSpec.ofChange coreSendsSpec)) coreSendsCard

/-- THE TIED CARD OF 'quintainlaw21.CoreApart'. -/
def coreApartCard : Claim7 := { stood := { row := coreApartRow, standIns := [], harness := (true, "b370923d2db4dfdadefa7948f9d4d2c196c2bcad4f94e986892dccdd8fc55eae"), looks := false }, kinds := [], alts := [], laidByText := true, laidKinds := [.data], laidTests := true, laidLooks := .later }
def CoreApartCardSaid : Prop := Claim7.holds Tryd.pinned (.plain (OpenSpec.ofChange coreApartSpec)) coreApartCard

/-- THE TIED CARD OF 'quintainlaw21.CoreQuit'. -/
def coreQuitCard : Claim7 := { stood := { row := coreQuitRow, standIns := [], harness := (true, "b370923d2db4dfdadefa7948f9d4d2c196c2bcad4f94e986892dccdd8fc55eae"), looks := false }, kinds := [], alts := [], laidByText := true, laidKinds := [.data], laidTests := true, laidLooks := .later }
def CoreQuitCardSaid : Prop := Claim7.holds Tryd.pinned (.plain (OpenSpec.ofChange coreQuitSpec)) coreQuitCard

/-- THE TIED CARD OF 'quintainlaw21.CoreOthers'. -/
def coreOthersCard : Claim7 := { stood := { row := coreOthersRow, standIns := [], harness := (true, "b370923d2db4dfdadefa7948f9d4d2c196c2bcad4f94e986892dccdd8fc55eae"), looks := false }, kinds := [], alts := [], laidByText := true, laidKinds := [.data], laidTests := true, laidLooks := .later }
def CoreOthersCardSaid : Prop := Claim7.holds Tryd.pinned (.plain (OpenSpec.ofChange coreOthersSpec)) coreOthersCard

/-- THE SECOND FORM's CARD OF 'quintainlaw21.CoreLate'. -/
def coreLateUptoCard : Claim7 := { stood := { row := coreLateUptoRow, standIns := [], harness := (true, "b370923d2db4dfdadefa7948f9d4d2c196c2bcad4f94e986892dccdd8fc55eae"), looks := false }, kinds := [], alts := [], laidByText := true, laidKinds := [.data], laidTests := true, laidLooks := .later }
def CoreLateUptoCardSaid : Prop := Claim7.holds Tryd.pinned (.plain (OpenSpec.upto coreLateSpec)) coreLateUptoCard

/-- THE SECOND FORM's CARD OF 'quintainlaw21.CoreStall'. -/
def coreStallUptoCard : Claim7 := { stood := { row := coreStallUptoRow, standIns := [], harness := (true, "b370923d2db4dfdadefa7948f9d4d2c196c2bcad4f94e986892dccdd8fc55eae"), looks := false }, kinds := [], alts := [], laidByText := true, laidKinds := [.data], laidTests := true, laidLooks := .later }
def CoreStallUptoCardSaid : Prop := Claim7.holds Tryd.pinned (.plain (OpenSpec.upto coreStallSpec)) coreStallUptoCard

/-- THE SECOND FORM's CARD OF 'quintainlaw21.CoreNone'. -/
def coreNoneUptoCard : Claim7 := { stood := { row := coreNoneUptoRow, standIns := [], harness := (true, "b370923d2db4dfdadefa7948f9d4d2c196c2bcad4f94e986892dccdd8fc55eae"), looks := false }, kinds := [], alts := [], laidByText := true, laidKinds := [.data], laidTests := true, laidLooks := .later }
def CoreNoneUptoCardSaid : Prop := Claim7.holds Tryd.pinned (.plain (OpenSpec.upto coreNoneSpec)) coreNoneUptoCard

/-- THE SECOND FORM's CARD OF 'quintainlaw21.CoreAgain'. -/
def coreAgainUptoCard : Claim7 := { stood := { row := coreAgainUptoRow, standIns := [], harness := (true, "b370923d2db4dfdadefa7948f9d4d2c196c2bcad4f94e986892dccdd8fc55eae"), looks := false }, kinds := [], alts := [], laidByText := true, laidKinds := [.data], laidTests := true, laidLooks := .later }
def CoreAgainUptoCardSaid : Prop := Claim7.holds Tryd.pinned (.plain (OpenSpec.upto coreAgainSpec)) coreAgainUptoCard

/-- THE SECOND FORM's CARD OF 'quintainlaw21.CoreWord'. -/
def coreWordUptoCard : Claim7 := { stood := { row := coreWordUptoRow, standIns := [], harness := (true, "b370923d2db4dfdadefa7948f9d4d2c196c2bcad4f94e986892dccdd8fc55eae"), looks := false }, kinds := [], alts := [], laidByText := true, laidKinds := [.data], laidTests := true, laidLooks := .later }
def CoreWordUptoCardSaid : Prop := Claim7.holds Tryd.pinned (.plain (OpenSpec.upto coreWordSpec)) coreWordUptoCard

/-- THE SECOND FORM's CARD OF 'quintainlaw21.CoreSends'. -/
def coreSendsUptoCard : Claim7 := { stood := { row := coreSendsUptoRow, standIns := [], harness := (true, "b370923d2db4dfdadefa7948f9d4d2c196c2bcad4f94e986892dccdd8fc55eae"), looks := false }, kinds := [], alts := [], laidByText := true, laidKinds := [.data], laidTests := true, laidLooks := .later }
def CoreSendsUptoCardSaid : Prop := Claim7.holds Tryd.pinned (.plain (OpenSpec.upto coreSendsSpec)) coreSendsUptoCard

/-- THE SECOND FORM's CARD OF 'quintainlaw21.CoreApart'. -/
def coreApartUptoCard : Claim7 := { stood := { row := coreApartUptoRow, standIns := [], harness := (true, "b370923d2db4dfdadefa7948f9d4d2c196c2bcad4f94e986892dccdd8fc55eae"), looks := false }, kinds := [], alts := [], laidByText := true, laidKinds := [.data], laidTests := true, laidLooks := .later }
def CoreApartUptoCardSaid : Prop := Claim7.holds Tryd.pinned (.plain (OpenSpec.upto coreApartSpec)) coreApartUptoCard

/-- THE SECOND FORM's CARD OF 'quintainlaw21.CoreQuit'. -/
def coreQuitUptoCard : Claim7 := { stood := { row := coreQuitUptoRow, standIns := [], harness := (true, "b370923d2db4dfdadefa7948f9d4d2c196c2bcad4f94e986892dccdd8fc55eae"), looks := false }, kinds := [], alts := [], laidByText := true, laidKinds := [.data], laidTests := true, laidLooks := .later }
def CoreQuitUptoCardSaid : Prop := Claim7.holds Tryd.pinned (.plain (OpenSpec.upto coreQuitSpec)) coreQuitUptoCard

/-- THE SECOND FORM's CARD OF 'quintainlaw21.CoreOthers'. -/
def coreOthersUptoCard : Claim7 := { stood := { row := coreOthersUptoRow, standIns := [], harness := (true, "b370923d2db4dfdadefa7948f9d4d2c196c2bcad4f94e986892dccdd8fc55eae"), looks := false }, kinds := [], alts := [], laidByText := true, laidKinds := [.data], laidTests := true, laidLooks := .later }
def CoreOthersUptoCardSaid : Prop := Claim7.holds Tryd.pinned (.plain (OpenSpec.upto coreOthersSpec)) coreOthersUptoCard
end Rows
end Go.Proofs.YtclgcfofgiejgaaDoor
