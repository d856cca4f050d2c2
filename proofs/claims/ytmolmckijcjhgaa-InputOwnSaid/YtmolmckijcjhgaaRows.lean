/-
  No cell of these rows narrows 'for every input' (looked for: loops, veiled, ifaces, maps, wideKeys, modest, calm, conditions, laid).
  DERIVED. THE GIVEN ROWS OF THIS SEAT. 5 by the template 'for every input the law returns true; each argument reads behind the call as it read before'; 0 by the template 'total and deterministic' (their statements: YtmolmckijcjhgaaTotals.lean).
  GIVEN WITH THE SEED: the statements are not yours to turn. If you find one false, say at which input.
  Laid BY PROGRAM, IN A SANDBOX (cutbox-rows.mjs): the forced cells as the released guide's own fill.sh prints them over the translation e5f4c1c9bdd37f50… (all of the seat's roots in one cut). By AI agents, Wed Nov 11 2026. No macro, syntax, notation, axiom, sorry.
-/
import Derived.Test.YtmolmckijcjhgaaChecked
import GoSem.Claim
import GoSem.ClaimJoined
import GoSem.ClaimMapViews
import Derived.JoinedTies
import Derived.KernelRfl
namespace Go.Proofs.Ytmolmckijcjhgaa
/- THE CELL 'sum', in the pinned program and in every row, IS THE sha256 OF THE DUMP (.gsa) THAT YtmolmckijcjhgaaProg.lean LOADS. Nothing in Lean hashes anything: it is a label: what it is worth is what the hold of that sum in a sandbox is worth. -/
noncomputable def Try.pinned : Pinned := { name := "ytmolmckijcjhgaa", sum := "e5f4c1c9bdd37f505eff925d5369bbe01025f5daecff2764f247083f557d989b", checked := Try.checked }
namespace Rows
def none {H : Type} : Left H := { results := [], args := [] }

/-- 'quintainlaw13.InputFull': WHATEVER THE INPUT: true; the input reads as it did. -/
def inputFullSpec : ChangeSpec := { name := "inputFull", fn := fun _ => fun
  | [d1, d2] => { results := [.lit (.bool true)], args := [d1, d2] }
  | _ => none }
def inputFullRow : OpenClaim := { program := "ytmolmckijcjhgaa", sum := "e5f4c1c9bdd37f505eff925d5369bbe01025f5daecff2764f247083f557d989b", func := "quintain/quintainlaw13.InputFull", spec := "inputFull", apart := false }
def InputFullSaid : Prop := inputFullRow.holds Try.pinned (OpenSpec.ofChange inputFullSpec)

/-- ITS FALSE NEIGHBOUR: 'it returns false'. Refute it at one input. -/
def inputFullWrong : ChangeSpec := { name := "inputFull", fn := fun _ => fun
  | [d1, d2] => { results := [.lit (.bool false)], args := [d1, d2] }
  | _ => none }
def InputFullWrongFalsely : Prop := inputFullRow.holds Try.pinned (OpenSpec.ofChange inputFullWrong)

/-- 'quintainlaw13.InputOwn': WHATEVER THE INPUT: true; the input reads as it did. -/
def inputOwnSpec : ChangeSpec := { name := "inputOwn", fn := fun _ => fun
  | [d] => { results := [.lit (.bool true)], args := [d] }
  | _ => none }
def inputOwnRow : OpenClaim := { program := "ytmolmckijcjhgaa", sum := "e5f4c1c9bdd37f505eff925d5369bbe01025f5daecff2764f247083f557d989b", func := "quintain/quintainlaw13.InputOwn", spec := "inputOwn", apart := false }
def InputOwnSaid : Prop := inputOwnRow.holds Try.pinned (OpenSpec.ofChange inputOwnSpec)

/-- ITS FALSE NEIGHBOUR: 'it returns false'. Refute it at one input. -/
def inputOwnWrong : ChangeSpec := { name := "inputOwn", fn := fun _ => fun
  | [d] => { results := [.lit (.bool false)], args := [d] }
  | _ => none }
def InputOwnWrongFalsely : Prop := inputOwnRow.holds Try.pinned (OpenSpec.ofChange inputOwnWrong)

/-- 'quintainlaw13.InputNone': WHATEVER THE INPUT: true; the input reads as it did. -/
def inputNoneSpec : ChangeSpec := { name := "inputNone", fn := fun _ => fun
  | [] => { results := [.lit (.bool true)], args := [] }
  | _ => none }
def inputNoneRow : OpenClaim := { program := "ytmolmckijcjhgaa", sum := "e5f4c1c9bdd37f505eff925d5369bbe01025f5daecff2764f247083f557d989b", func := "quintain/quintainlaw13.InputNone", spec := "inputNone", apart := false }
def InputNoneSaid : Prop := inputNoneRow.holds Try.pinned (OpenSpec.ofChange inputNoneSpec)

/-- ITS FALSE NEIGHBOUR: 'it returns false'. Refute it at one input. -/
def inputNoneWrong : ChangeSpec := { name := "inputNone", fn := fun _ => fun
  | [] => { results := [.lit (.bool false)], args := [] }
  | _ => none }
def InputNoneWrongFalsely : Prop := inputNoneRow.holds Try.pinned (OpenSpec.ofChange inputNoneWrong)

/-- 'quintainlaw13.InputPieces': WHATEVER THE INPUT: true; the input reads as it did. -/
def inputPiecesSpec : ChangeSpec := { name := "inputPieces", fn := fun _ => fun
  | [d1, d2, d3] => { results := [.lit (.bool true)], args := [d1, d2, d3] }
  | _ => none }
def inputPiecesRow : OpenClaim := { program := "ytmolmckijcjhgaa", sum := "e5f4c1c9bdd37f505eff925d5369bbe01025f5daecff2764f247083f557d989b", func := "quintain/quintainlaw13.InputPieces", spec := "inputPieces", apart := false }
def InputPiecesSaid : Prop := inputPiecesRow.holds Try.pinned (OpenSpec.ofChange inputPiecesSpec)

/-- ITS FALSE NEIGHBOUR: 'it returns false'. Refute it at one input. -/
def inputPiecesWrong : ChangeSpec := { name := "inputPieces", fn := fun _ => fun
  | [d1, d2, d3] => { results := [.lit (.bool false)], args := [d1, d2, d3] }
  | _ => none }
def InputPiecesWrongFalsely : Prop := inputPiecesRow.holds Try.pinned (OpenSpec.ofChange inputPiecesWrong)

/-- 'quintainlaw13.InputStays': WHATEVER THE INPUT: true; the input reads as it did. -/
def inputStaysSpec : ChangeSpec := { name := "inputStays", fn := fun _ => fun
  | [d1, d2, d3] => { results := [.lit (.bool true)], args := [d1, d2, d3] }
  | _ => none }
def inputStaysRow : OpenClaim := { program := "ytmolmckijcjhgaa", sum := "e5f4c1c9bdd37f505eff925d5369bbe01025f5daecff2764f247083f557d989b", func := "quintain/quintainlaw13.InputStays", spec := "inputStays", apart := false }
def InputStaysSaid : Prop := inputStaysRow.holds Try.pinned (OpenSpec.ofChange inputStaysSpec)

/-- ITS FALSE NEIGHBOUR: 'it returns false'. Refute it at one input. -/
def inputStaysWrong : ChangeSpec := { name := "inputStays", fn := fun _ => fun
  | [d1, d2, d3] => { results := [.lit (.bool false)], args := [d1, d2, d3] }
  | _ => none }
def InputStaysWrongFalsely : Prop := inputStaysRow.holds Try.pinned (OpenSpec.ofChange inputStaysWrong)

/- THE SECOND FORM. 'bulk': how many values and letters a reading holds, each counted each time it is reached (what is shared counts as often as it is met; a slice's spare places count too). A statement '..UptoSaid' is the law's where the arguments, and the package variables that the reading takes, are together of bulk at most 1048576: NARROWER than '..Said'. Prove '..Said' where nothing that the law and all that it calls make is longer than what came in: it says more and counts as full. Else prove '..UptoSaid'. A law counts once. -/
mutual
def uptoBulk {H : Type} : DataW H → Nat
  | .lit (.string bytes) => bytes.length + 1
  | .lit _ => 1
  | .nil => 1
  | .ptr d => uptoBulk d + 1
  | .slice elems spare => uptoBulkAll elems + uptoBulkAll spare + 1
  | .agg parts => uptoBulkAll parts + 1
  | .iface _ d => uptoBulk d + 1
  | .map entries => uptoBulkEntries entries + 1
  | .held _ => 1
def uptoBulkAll {H : Type} : List (DataW H) → Nat
  | [] => 0
  | d :: r => uptoBulk d + uptoBulkAll r
def uptoBulkEntries {H : Type} : List (Lit × DataW H) → Nat
  | [] => 0
  | x :: r => uptoBulkEntry x + uptoBulkEntries r
def uptoBulkEntry {H : Type} : Lit × DataW H → Nat
  | (.string bytes, d) => bytes.length + uptoBulk d + 1
  | (_, d) => uptoBulk d + 1
 end
def uptoSmall : (H : Type) → List (DataW H) → Bool := fun _ ds => decide (uptoBulkAll ds ≤ 1048576)
def OpenSpec.upto (s : _root_.Go.ChangeSpec) : _root_.Go.OpenSpec := { _root_.Go.OpenSpec.ofChange s with cond := some uptoSmall }

/-- 'quintainlaw13.InputFull', WHERE WHAT IT READS IS OF BULK AT MOST 1048576: true; the input reads as it did. -/
def inputFullUptoRow : OpenClaim := { program := "ytmolmckijcjhgaa", sum := "e5f4c1c9bdd37f505eff925d5369bbe01025f5daecff2764f247083f557d989b", func := "quintain/quintainlaw13.InputFull", spec := "inputFull", apart := false, narrowed := true }
def InputFullUptoSaid : Prop := inputFullUptoRow.holds Try.pinned (OpenSpec.upto inputFullSpec)

/-- 'quintainlaw13.InputOwn', WHERE WHAT IT READS IS OF BULK AT MOST 1048576: true; the input reads as it did. -/
def inputOwnUptoRow : OpenClaim := { program := "ytmolmckijcjhgaa", sum := "e5f4c1c9bdd37f505eff925d5369bbe01025f5daecff2764f247083f557d989b", func := "quintain/quintainlaw13.InputOwn", spec := "inputOwn", apart := false, narrowed := true }
def InputOwnUptoSaid : Prop := inputOwnUptoRow.holds Try.pinned (OpenSpec.upto inputOwnSpec)

/-- 'quintainlaw13.InputNone', WHERE WHAT IT READS IS OF BULK AT MOST 1048576: true; the input reads as it did. -/
def inputNoneUptoRow : OpenClaim := { program := "ytmolmckijcjhgaa", sum := "e5f4c1c9bdd37f505eff925d5369bbe01025f5daecff2764f247083f557d989b", func := "quintain/quintainlaw13.InputNone", spec := "inputNone", apart := false, narrowed := true }
def InputNoneUptoSaid : Prop := inputNoneUptoRow.holds Try.pinned (OpenSpec.upto inputNoneSpec)

/-- 'quintainlaw13.InputPieces', WHERE WHAT IT READS IS OF BULK AT MOST 1048576: true; the input reads as it did. -/
def inputPiecesUptoRow : OpenClaim := { program := "ytmolmckijcjhgaa", sum := "e5f4c1c9bdd37f505eff925d5369bbe01025f5daecff2764f247083f557d989b", func := "quintain/quintainlaw13.InputPieces", spec := "inputPieces", apart := false, narrowed := true }
def InputPiecesUptoSaid : Prop := inputPiecesUptoRow.holds Try.pinned (OpenSpec.upto inputPiecesSpec)

/-- 'quintainlaw13.InputStays', WHERE WHAT IT READS IS OF BULK AT MOST 1048576: true; the input reads as it did. -/
def inputStaysUptoRow : OpenClaim := { program := "ytmolmckijcjhgaa", sum := "e5f4c1c9bdd37f505eff925d5369bbe01025f5daecff2764f247083f557d989b", func := "quintain/quintainlaw13.InputStays", spec := "inputStays", apart := false, narrowed := true }
def InputStaysUptoSaid : Prop := inputStaysUptoRow.holds Try.pinned (OpenSpec.upto inputStaysSpec)

end Rows
end Go.Proofs.Ytmolmckijcjhgaa
