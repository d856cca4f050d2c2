/-
  DERIVED. GIVEN WITH THE SEED: THE CARDS: each row of YtjbieehehgjnmaaDoorRows.lean that lists a variable, with what it lists TIED to the program's text (the seventh form; the later family's looks); each row that meets fmt, with fmt's text TOLD by the authors' own Lean function (tested against real Go, not proved from fmt's source: count such statements apart). THE CARD IS WHAT COUNTS. Prove the row's statement (the work); the ties are given (YtjbieehehgjnmaaDoorTie.lean); close each card by the builder's one call (the guide's Derived/Test/ToyasCard.lean, 'card_holds'). Laid BY PROGRAM, IN A SANDBOX (cutbox-door.mjs). By AI agents, Wed Nov 11 2026. No macro, syntax, notation, axiom, sorry.
-/
import Derived.Test.YtjbieehehgjnmaaDoorRows
import GoSem.ClaimSeven
namespace Go.Proofs.YtjbieehehgjnmaaDoor
namespace Rows

/-- THE TIED CARD OF 'quintainlaw15.PacketBytes'. -/
def packetBytesCard : Claim7 := { stood := { row := packetBytesRow, standIns := [], harness := (true, "4e02d3b793becd2bdf286cc6e3ab38a04a36f4ce84e4200efc6ae295cfd84c61"), looks := false }, kinds := [], alts := [], laidByText := true, laidKinds := [.data], laidTests := true, laidLooks := .later }
def PacketBytesCardSaid : Prop := Claim7.holds Tryd.pinned (.plain (OpenSpec.ofChange packetBytesSpec)) packetBytesCard

/-- THE TIED CARD OF 'quintainlaw15.PacketAny'. -/
def packetAnyCard : Claim7 := { stood := { row := packetAnyRow, standIns := [], harness := (true, "4e02d3b793becd2bdf286cc6e3ab38a04a36f4ce84e4200efc6ae295cfd84c61"), looks := false }, kinds := [], alts := [], laidByText := true, laidKinds := [.data], laidTests := true, laidLooks := .later }
def PacketAnyCardSaid : Prop := Claim7.holds Tryd.pinned (.plain (OpenSpec.ofChange packetAnySpec)) packetAnyCard

/-- THE TIED CARD OF 'quintainlaw15.PacketEnds'. -/
def packetEndsCard : Claim7 := { stood := { row := packetEndsRow, standIns := [], harness := (true, "4e02d3b793becd2bdf286cc6e3ab38a04a36f4ce84e4200efc6ae295cfd84c61"), looks := false }, kinds := [], alts := [], laidByText := true, laidKinds := [.data], laidTests := true, laidLooks := .later }
def PacketEndsCardSaid : Prop := Claim7.holds Tryd.pinned (.plain (OpenSpec.ofChange packetEndsSpec)) packetEndsCard

/-- THE TIED CARD OF 'quintainlaw15.PacketShort'. -/
def packetShortCard : Claim7 := { stood := { row := packetShortRow, standIns := [], harness := (true, "4e02d3b793becd2bdf286cc6e3ab38a04a36f4ce84e4200efc6ae295cfd84c61"), looks := false }, kinds := [], alts := [], laidByText := true, laidKinds := [.data], laidTests := true, laidLooks := .later }
def PacketShortCardSaid : Prop := Claim7.holds Tryd.pinned (.plain (OpenSpec.ofChange packetShortSpec)) packetShortCard

/-- THE TIED CARD OF 'quintainlaw15.PacketEach'. -/
def packetEachCard : Claim7 := { stood := { row := packetEachRow, standIns := [], harness := (true, "4e02d3b793becd2bdf286cc6e3ab38a04a36f4ce84e4200efc6ae295cfd84c61"), looks := false }, kinds := [], alts := [], laidByText := true, laidKinds := [.data], laidTests := true, laidLooks := .later }
def PacketEachCardSaid : Prop := Claim7.holds Tryd.pinned (.plain (OpenSpec.ofChange packetEachSpec)) packetEachCard

/-- THE TIED CARD OF 'quintainlaw15.PacketTwins'. -/
def packetTwinsCard : Claim7 := { stood := { row := packetTwinsRow, standIns := [], harness := (true, "4e02d3b793becd2bdf286cc6e3ab38a04a36f4ce84e4200efc6ae295cfd84c61"), looks := false }, kinds := [], alts := [], laidByText := true, laidKinds := [.data], laidTests := true, laidLooks := .later }
def PacketTwinsCardSaid : Prop := Claim7.holds Tryd.pinned (.plain (OpenSpec.ofChange packetTwinsSpec)) packetTwinsCard

/-- THE TIED CARD OF 'quintainlaw15.PacketPress'. -/
def packetPressCard : Claim7 := { stood := { row := packetPressRow, standIns := [], harness := (true, "4e02d3b793becd2bdf286cc6e3ab38a04a36f4ce84e4200efc6ae295cfd84c61"), looks := false }, kinds := [], alts := [], laidByText := true, laidKinds := [.data], laidTests := true, laidLooks := .later }
def PacketPressCardSaid : Prop := Claim7.holds Tryd.pinned (.plain (OpenSpec.ofChange packetPressSpec)) packetPressCard

/-- THE SECOND FORM's CARD OF 'quintainlaw15.PacketBytes'. -/
def packetBytesUptoCard : Claim7 := { stood := { row := packetBytesUptoRow, standIns := [], harness := (true, "4e02d3b793becd2bdf286cc6e3ab38a04a36f4ce84e4200efc6ae295cfd84c61"), looks := false }, kinds := [], alts := [], laidByText := true, laidKinds := [.data], laidTests := true, laidLooks := .later }
def PacketBytesUptoCardSaid : Prop := Claim7.holds Tryd.pinned (.plain (OpenSpec.upto packetBytesSpec)) packetBytesUptoCard

/-- THE SECOND FORM's CARD OF 'quintainlaw15.PacketAny'. -/
def packetAnyUptoCard : Claim7 := { stood := { row := packetAnyUptoRow, standIns := [], harness := (true, "4e02d3b793becd2bdf286cc6e3ab38a04a36f4ce84e4200efc6ae295cfd84c61"), looks := false }, kinds := [], alts := [], laidByText := true, laidKinds := [.data], laidTests := true, laidLooks := .later }
def PacketAnyUptoCardSaid : Prop := Claim7.holds Tryd.pinned (.plain (OpenSpec.upto packetAnySpec)) packetAnyUptoCard

/-- THE SECOND FORM's CARD OF 'quintainlaw15.PacketEnds'. -/
def packetEndsUptoCard : Claim7 := { stood := { row := packetEndsUptoRow, standIns := [], harness := (true, "4e02d3b793becd2bdf286cc6e3ab38a04a36f4ce84e4200efc6ae295cfd84c61"), looks := false }, kinds := [], alts := [], laidByText := true, laidKinds := [.data], laidTests := true, laidLooks := .later }
def PacketEndsUptoCardSaid : Prop := Claim7.holds Tryd.pinned (.plain (OpenSpec.upto packetEndsSpec)) packetEndsUptoCard

/-- THE SECOND FORM's CARD OF 'quintainlaw15.PacketShort'. -/
def packetShortUptoCard : Claim7 := { stood := { row := packetShortUptoRow, standIns := [], harness := (true, "4e02d3b793becd2bdf286cc6e3ab38a04a36f4ce84e4200efc6ae295cfd84c61"), looks := false }, kinds := [], alts := [], laidByText := true, laidKinds := [.data], laidTests := true, laidLooks := .later }
def PacketShortUptoCardSaid : Prop := Claim7.holds Tryd.pinned (.plain (OpenSpec.upto packetShortSpec)) packetShortUptoCard

/-- THE SECOND FORM's CARD OF 'quintainlaw15.PacketEach'. -/
def packetEachUptoCard : Claim7 := { stood := { row := packetEachUptoRow, standIns := [], harness := (true, "4e02d3b793becd2bdf286cc6e3ab38a04a36f4ce84e4200efc6ae295cfd84c61"), looks := false }, kinds := [], alts := [], laidByText := true, laidKinds := [.data], laidTests := true, laidLooks := .later }
def PacketEachUptoCardSaid : Prop := Claim7.holds Tryd.pinned (.plain (OpenSpec.upto packetEachSpec)) packetEachUptoCard

/-- THE SECOND FORM's CARD OF 'quintainlaw15.PacketTwins'. -/
def packetTwinsUptoCard : Claim7 := { stood := { row := packetTwinsUptoRow, standIns := [], harness := (true, "4e02d3b793becd2bdf286cc6e3ab38a04a36f4ce84e4200efc6ae295cfd84c61"), looks := false }, kinds := [], alts := [], laidByText := true, laidKinds := [.data], laidTests := true, laidLooks := .later }
def PacketTwinsUptoCardSaid : Prop := Claim7.holds Tryd.pinned (.plain (OpenSpec.upto packetTwinsSpec)) packetTwinsUptoCard

/-- THE SECOND FORM's CARD OF 'quintainlaw15.PacketPress'. -/
def packetPressUptoCard : Claim7 := { stood := { row := packetPressUptoRow, standIns := [], harness := (true, "4e02d3b793becd2bdf286cc6e3ab38a04a36f4ce84e4200efc6ae295cfd84c61"), looks := false }, kinds := [], alts := [], laidByText := true, laidKinds := [.data], laidTests := true, laidLooks := .later }
def PacketPressUptoCardSaid : Prop := Claim7.holds Tryd.pinned (.plain (OpenSpec.upto packetPressSpec)) packetPressUptoCard
end Rows
end Go.Proofs.YtjbieehehgjnmaaDoor
