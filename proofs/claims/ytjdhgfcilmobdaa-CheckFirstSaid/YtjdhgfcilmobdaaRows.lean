/-
  No cell of these rows narrows 'for every input' (looked for: loops, veiled, ifaces, maps, wideKeys, modest, calm, conditions, laid).
  DERIVED. THE GIVEN ROWS OF THIS SEAT. 5 by the template 'for every input the law returns true; each argument reads behind the call as it read before'; 0 by the template 'total and deterministic' (their statements: YtjdhgfcilmobdaaTotals.lean).
  GIVEN WITH THE SEED: the statements are not yours to turn. If you find one false, say at which input.
  Laid BY PROGRAM, IN A SANDBOX (cutbox-rows.mjs): the forced cells as the released guide's own fill.sh prints them over the translation ac666fa16d687e77… (all of the seat's roots in one cut). By AI agents, Wed Nov 11 2026. No macro, syntax, notation, axiom, sorry.
-/
import Derived.Test.YtjdhgfcilmobdaaChecked
import GoSem.Claim
import GoSem.ClaimJoined
import GoSem.ClaimMapViews
import Derived.JoinedTies
import Derived.KernelRfl
namespace Go.Proofs.Ytjdhgfcilmobdaa
/- THE CELL 'sum', in the pinned program and in every row, IS THE sha256 OF THE DUMP (.gsa) THAT YtjdhgfcilmobdaaProg.lean LOADS. Nothing in Lean hashes anything: it is a label: what it is worth is what the hold of that sum in a sandbox is worth. -/
noncomputable def Try.pinned : Pinned := { name := "ytjdhgfcilmobdaa", sum := "ac666fa16d687e77c2e24e03f458fd515345af617a94500b5180139ecbf77548", checked := Try.checked }
namespace Rows
def none {H : Type} : Left H := { results := [], args := [] }

/-- 'quintainlaw7.CheckAll': WHATEVER THE INPUT: true; the input reads as it did. -/
def checkAllSpec : ChangeSpec := { name := "checkAll", fn := fun _ => fun
  | [d] => { results := [.lit (.bool true)], args := [d] }
  | _ => none }
def checkAllRow : OpenClaim := { program := "ytjdhgfcilmobdaa", sum := "ac666fa16d687e77c2e24e03f458fd515345af617a94500b5180139ecbf77548", func := "quintain/quintainlaw7.CheckAll", spec := "checkAll", unfollowed := true, recurses := true, apart := false }
def CheckAllSaid : Prop := checkAllRow.holds Try.pinned (OpenSpec.ofChange checkAllSpec)

/-- ITS FALSE NEIGHBOUR: 'it returns false'. Refute it at one input. -/
def checkAllWrong : ChangeSpec := { name := "checkAll", fn := fun _ => fun
  | [d] => { results := [.lit (.bool false)], args := [d] }
  | _ => none }
def CheckAllWrongFalsely : Prop := checkAllRow.holds Try.pinned (OpenSpec.ofChange checkAllWrong)

/-- 'quintainlaw7.CheckOp': WHATEVER THE INPUT: true; the input reads as it did. -/
def checkOpSpec : ChangeSpec := { name := "checkOp", fn := fun _ => fun
  | [d1, d2] => { results := [.lit (.bool true)], args := [d1, d2] }
  | _ => none }
def checkOpRow : OpenClaim := { program := "ytjdhgfcilmobdaa", sum := "ac666fa16d687e77c2e24e03f458fd515345af617a94500b5180139ecbf77548", func := "quintain/quintainlaw7.CheckOp", spec := "checkOp", unfollowed := true, recurses := true, apart := false }
def CheckOpSaid : Prop := checkOpRow.holds Try.pinned (OpenSpec.ofChange checkOpSpec)

/-- ITS FALSE NEIGHBOUR: 'it returns false'. Refute it at one input. -/
def checkOpWrong : ChangeSpec := { name := "checkOp", fn := fun _ => fun
  | [d1, d2] => { results := [.lit (.bool false)], args := [d1, d2] }
  | _ => none }
def CheckOpWrongFalsely : Prop := checkOpRow.holds Try.pinned (OpenSpec.ofChange checkOpWrong)

/-- 'quintainlaw7.CheckMore': WHATEVER THE INPUT: true; the input reads as it did. -/
def checkMoreSpec : ChangeSpec := { name := "checkMore", fn := fun _ => fun
  | [d1, d2] => { results := [.lit (.bool true)], args := [d1, d2] }
  | _ => none }
def checkMoreRow : OpenClaim := { program := "ytjdhgfcilmobdaa", sum := "ac666fa16d687e77c2e24e03f458fd515345af617a94500b5180139ecbf77548", func := "quintain/quintainlaw7.CheckMore", spec := "checkMore", unfollowed := true, recurses := true, apart := false }
def CheckMoreSaid : Prop := checkMoreRow.holds Try.pinned (OpenSpec.ofChange checkMoreSpec)

/-- ITS FALSE NEIGHBOUR: 'it returns false'. Refute it at one input. -/
def checkMoreWrong : ChangeSpec := { name := "checkMore", fn := fun _ => fun
  | [d1, d2] => { results := [.lit (.bool false)], args := [d1, d2] }
  | _ => none }
def CheckMoreWrongFalsely : Prop := checkMoreRow.holds Try.pinned (OpenSpec.ofChange checkMoreWrong)

/-- 'quintainlaw7.CheckCells': WHATEVER THE INPUT: true; the input reads as it did. -/
def checkCellsSpec : ChangeSpec := { name := "checkCells", fn := fun _ => fun
  | [d1, d2, d3, d4, d5] => { results := [.lit (.bool true)], args := [d1, d2, d3, d4, d5] }
  | _ => none }
def checkCellsRow : OpenClaim := { program := "ytjdhgfcilmobdaa", sum := "ac666fa16d687e77c2e24e03f458fd515345af617a94500b5180139ecbf77548", func := "quintain/quintainlaw7.CheckCells", spec := "checkCells", unfollowed := true, recurses := true, apart := false }
def CheckCellsSaid : Prop := checkCellsRow.holds Try.pinned (OpenSpec.ofChange checkCellsSpec)

/-- ITS FALSE NEIGHBOUR: 'it returns false'. Refute it at one input. -/
def checkCellsWrong : ChangeSpec := { name := "checkCells", fn := fun _ => fun
  | [d1, d2, d3, d4, d5] => { results := [.lit (.bool false)], args := [d1, d2, d3, d4, d5] }
  | _ => none }
def CheckCellsWrongFalsely : Prop := checkCellsRow.holds Try.pinned (OpenSpec.ofChange checkCellsWrong)

/-- 'quintainlaw7.CheckFirst': WHATEVER THE INPUT: true; the input reads as it did. -/
def checkFirstSpec : ChangeSpec := { name := "checkFirst", fn := fun _ => fun
  | [d1, d2] => { results := [.lit (.bool true)], args := [d1, d2] }
  | _ => none }
def checkFirstRow : OpenClaim := { program := "ytjdhgfcilmobdaa", sum := "ac666fa16d687e77c2e24e03f458fd515345af617a94500b5180139ecbf77548", func := "quintain/quintainlaw7.CheckFirst", spec := "checkFirst", unfollowed := true, recurses := true, apart := false }
def CheckFirstSaid : Prop := checkFirstRow.holds Try.pinned (OpenSpec.ofChange checkFirstSpec)

/-- ITS FALSE NEIGHBOUR: 'it returns false'. Refute it at one input. -/
def checkFirstWrong : ChangeSpec := { name := "checkFirst", fn := fun _ => fun
  | [d1, d2] => { results := [.lit (.bool false)], args := [d1, d2] }
  | _ => none }
def CheckFirstWrongFalsely : Prop := checkFirstRow.holds Try.pinned (OpenSpec.ofChange checkFirstWrong)

/- THE SECOND FORM. 'bulk': how many values and letters a reading holds, each counted each time it is reached (what is shared counts as often as it is met; a slice's spare places count too). A statement '..UptoSaid' is the law's where the arguments, and the package variables that the reading takes, are together of bulk at most 1048576: NARROWER than '..Said'. Prove '..Said' where nothing that the law and all that it calls make is longer than what came in: it says more and counts as full. Else prove '..UptoSaid'. A law counts once. -/
mutual
def uptoBulk {H : Type} : DataW H → Nat
  | .lit (.string bytes) => bytes.length + 1
  | .lit _ => 1
  | .nil => 1
  | .ptr d => uptoBulk d + 1
  | .slice elems spare => uptoBulkAll elems + uptoBulkAll spare + 1
  | .agg parts => uptoBulkAll parts + 1
  | .iface _ d => uptoBulk d + 1
  | .map entries => uptoBulkEntries entries + 1
  | .held _ => 1
def uptoBulkAll {H : Type} : List (DataW H) → Nat
  | [] => 0
  | d :: r => uptoBulk d + uptoBulkAll r
def uptoBulkEntries {H : Type} : List (Lit × DataW H) → Nat
  | [] => 0
  | x :: r => uptoBulkEntry x + uptoBulkEntries r
def uptoBulkEntry {H : Type} : Lit × DataW H → Nat
  | (.string bytes, d) => bytes.length + uptoBulk d + 1
  | (_, d) => uptoBulk d + 1
 end
def uptoSmall : (H : Type) → List (DataW H) → Bool := fun _ ds => decide (uptoBulkAll ds ≤ 1048576)
def OpenSpec.upto (s : _root_.Go.ChangeSpec) : _root_.Go.OpenSpec := { _root_.Go.OpenSpec.ofChange s with cond := some uptoSmall }

/-- 'quintainlaw7.CheckAll', WHERE WHAT IT READS IS OF BULK AT MOST 1048576: true; the input reads as it did. -/
def checkAllUptoRow : OpenClaim := { program := "ytjdhgfcilmobdaa", sum := "ac666fa16d687e77c2e24e03f458fd515345af617a94500b5180139ecbf77548", func := "quintain/quintainlaw7.CheckAll", spec := "checkAll", unfollowed := true, recurses := true, apart := false, narrowed := true }
def CheckAllUptoSaid : Prop := checkAllUptoRow.holds Try.pinned (OpenSpec.upto checkAllSpec)

/-- 'quintainlaw7.CheckOp', WHERE WHAT IT READS IS OF BULK AT MOST 1048576: true; the input reads as it did. -/
def checkOpUptoRow : OpenClaim := { program := "ytjdhgfcilmobdaa", sum := "ac666fa16d687e77c2e24e03f458fd515345af617a94500b5180139ecbf77548", func := "quintain/quintainlaw7.CheckOp", spec := "checkOp", unfollowed := true, recurses := true, apart := false, narrowed := true }
def CheckOpUptoSaid : Prop := checkOpUptoRow.holds Try.pinned (OpenSpec.upto checkOpSpec)

/-- 'quintainlaw7.CheckMore', WHERE WHAT IT READS IS OF BULK AT MOST 1048576: true; the input reads as it did. -/
def checkMoreUptoRow : OpenClaim := { program := "ytjdhgfcilmobdaa", sum := "ac666fa16d687e77c2e24e03f458fd515345af617a94500b5180139ecbf77548", func := "quintain/quintainlaw7.CheckMore", spec := "checkMore", unfollowed := true, recurses := true, apart := false, narrowed := true }
def CheckMoreUptoSaid : Prop := checkMoreUptoRow.holds Try.pinned (OpenSpec.upto checkMoreSpec)

/-- 'quintainlaw7.CheckCells', WHERE WHAT IT READS IS OF BULK AT MOST 1048576: true; the input reads as it did. -/
def checkCellsUptoRow : OpenClaim := { program := "ytjdhgfcilmobdaa", sum := "ac666fa16d687e77c2e24e03f458fd515345af617a94500b5180139ecbf77548", func := "quintain/quintainlaw7.CheckCells", spec := "checkCells", unfollowed := true, recurses := true, apart := false, narrowed := true }
def CheckCellsUptoSaid : Prop := checkCellsUptoRow.holds Try.pinned (OpenSpec.upto checkCellsSpec)

/-- 'quintainlaw7.CheckFirst', WHERE WHAT IT READS IS OF BULK AT MOST 1048576: true; the input reads as it did. -/
def checkFirstUptoRow : OpenClaim := { program := "ytjdhgfcilmobdaa", sum := "ac666fa16d687e77c2e24e03f458fd515345af617a94500b5180139ecbf77548", func := "quintain/quintainlaw7.CheckFirst", spec := "checkFirst", unfollowed := true, recurses := true, apart := false, narrowed := true }
def CheckFirstUptoSaid : Prop := checkFirstUptoRow.holds Try.pinned (OpenSpec.upto checkFirstSpec)

end Rows
end Go.Proofs.Ytjdhgfcilmobdaa
