/-
  NARROWER THAN 'FOR EVERY INPUT', by the rows' own cells (each row's printed sentence says how): CoreLate: laid · CoreStall: laid · CoreNone: laid · CoreAgain: laid · CoreWord: laid · CoreSends: laid · CoreApart: laid · CoreQuit: laid · CoreOthers: laid.
  DERIVED. THE GIVEN ROWS OF THIS SEAT. 9 by the template 'for every input the law returns true; each argument reads behind the call as it read before'; 0 by the template 'total and deterministic' (their statements: YtclgcfofgiejgaaDoorTotals.lean).
  GIVEN WITH THE SEED: the statements are not yours to turn. If you find one false, say at which input.
  Laid BY PROGRAM, IN A SANDBOX (cutbox-rows.mjs): the forced cells as the released guide's own fill.sh prints them over the translation 6e82c2e10f9fa08b… (all of the seat's roots in one cut). By AI agents, Wed Nov 11 2026. No macro, syntax, notation, axiom, sorry.
-/
import Derived.Test.YtclgcfofgiejgaaDoorChecked
import GoSem.Claim
import GoSem.ClaimJoined
import GoSem.ClaimMapViews
import Derived.JoinedTies
import Derived.KernelRfl
namespace Go.Proofs.YtclgcfofgiejgaaDoor
/- THE CELL 'sum', in the pinned program and in every row, IS THE sha256 OF THE DUMP (.gsa) THAT YtclgcfofgiejgaaDoorProg.lean LOADS. Nothing in Lean hashes anything: it is a label: what it is worth is what the hold of that sum in a sandbox is worth. -/
noncomputable def Tryd.pinned : Pinned := { name := "ytclgcfofgiejgaadoor", sum := "6e82c2e10f9fa08b495cc9a16b419abf4b3f346d33bb0a0da087fe810521596d", checked := Tryd.checked }
namespace Rows
def none {H : Type} : Left H := { results := [], args := [] }

/- WHAT THE LISTED PACKAGE-LEVEL VARIABLES READ AS WHEN THE CALL BEGINS. Each datum BY PROGRAM (the guide's laid-datum.mjs) off the statement by which the dump's own 'gosem.cut.vars' lays the variable. In a bare row this is a premise. The card (YtclgcfofgiejgaaDoorCards.lean) ties it to the program's text. -/
def laid_quintain_crc_rests {H : Type} : DataW H := .agg [.lit (.int .u32 0), .lit (.int .u32 498536548), .lit (.int .u32 997073096), .lit (.int .u32 651767980), .lit (.int .u32 1994146192), .lit (.int .u32 1802195444), .lit (.int .u32 1303535960), .lit (.int .u32 1342533948), .lit (.int .u32 3988292384), .lit (.int .u32 4027552580), .lit (.int .u32 3604390888), .lit (.int .u32 3412177804), .lit (.int .u32 2607071920), .lit (.int .u32 2262029012), .lit (.int .u32 2685067896), .lit (.int .u32 3183342108)]

/-- 'quintainlaw21.CoreLate': WHATEVER THE INPUT: true; the input reads as it did. -/
def coreLateSpec : ChangeSpec := { name := "coreLate", fn := fun _ => fun
  | [d1, d2, d3] => { results := [.lit (.bool true)], args := [d1, d2, d3] }
  | _ => none }
def coreLateRow : OpenClaim := { program := "ytclgcfofgiejgaadoor", sum := "6e82c2e10f9fa08b495cc9a16b419abf4b3f346d33bb0a0da087fe810521596d", func := "quintain/quintainlaw21.CoreLate", spec := "coreLate", unfollowed := true, recurses := true, named := ["quintain/crc.rests"], apart := false, laid := [("quintain/crc.rests", laid_quintain_crc_rests)] }
def CoreLateSaid : Prop := coreLateRow.holds Tryd.pinned (OpenSpec.ofChange coreLateSpec)

/-- ITS FALSE NEIGHBOUR: 'it returns false'. Refute it at one input. -/
def coreLateWrong : ChangeSpec := { name := "coreLate", fn := fun _ => fun
  | [d1, d2, d3] => { results := [.lit (.bool false)], args := [d1, d2, d3] }
  | _ => none }
def CoreLateWrongFalsely : Prop := coreLateRow.holds Tryd.pinned (OpenSpec.ofChange coreLateWrong)

/-- 'quintainlaw21.CoreStall': WHATEVER THE INPUT: true; the input reads as it did. -/
def coreStallSpec : ChangeSpec := { name := "coreStall", fn := fun _ => fun
  | [d1, d2, d3] => { results := [.lit (.bool true)], args := [d1, d2, d3] }
  | _ => none }
def coreStallRow : OpenClaim := { program := "ytclgcfofgiejgaadoor", sum := "6e82c2e10f9fa08b495cc9a16b419abf4b3f346d33bb0a0da087fe810521596d", func := "quintain/quintainlaw21.CoreStall", spec := "coreStall", unfollowed := true, recurses := true, named := ["quintain/crc.rests"], apart := false, laid := [("quintain/crc.rests", laid_quintain_crc_rests)] }
def CoreStallSaid : Prop := coreStallRow.holds Tryd.pinned (OpenSpec.ofChange coreStallSpec)

/-- ITS FALSE NEIGHBOUR: 'it returns false'. Refute it at one input. -/
def coreStallWrong : ChangeSpec := { name := "coreStall", fn := fun _ => fun
  | [d1, d2, d3] => { results := [.lit (.bool false)], args := [d1, d2, d3] }
  | _ => none }
def CoreStallWrongFalsely : Prop := coreStallRow.holds Tryd.pinned (OpenSpec.ofChange coreStallWrong)

/-- 'quintainlaw21.CoreNone': WHATEVER THE INPUT: true; the input reads as it did. -/
def coreNoneSpec : ChangeSpec := { name := "coreNone", fn := fun _ => fun
  | [] => { results := [.lit (.bool true)], args := [] }
  | _ => none }
def coreNoneRow : OpenClaim := { program := "ytclgcfofgiejgaadoor", sum := "6e82c2e10f9fa08b495cc9a16b419abf4b3f346d33bb0a0da087fe810521596d", func := "quintain/quintainlaw21.CoreNone", spec := "coreNone", unfollowed := true, recurses := true, named := ["quintain/crc.rests"], apart := false, laid := [("quintain/crc.rests", laid_quintain_crc_rests)] }
def CoreNoneSaid : Prop := coreNoneRow.holds Tryd.pinned (OpenSpec.ofChange coreNoneSpec)

/-- ITS FALSE NEIGHBOUR: 'it returns false'. Refute it at one input. -/
def coreNoneWrong : ChangeSpec := { name := "coreNone", fn := fun _ => fun
  | [] => { results := [.lit (.bool false)], args := [] }
  | _ => none }
def CoreNoneWrongFalsely : Prop := coreNoneRow.holds Tryd.pinned (OpenSpec.ofChange coreNoneWrong)

/-- 'quintainlaw21.CoreAgain': WHATEVER THE INPUT: true; the input reads as it did. -/
def coreAgainSpec : ChangeSpec := { name := "coreAgain", fn := fun _ => fun
  | [d1, d2] => { results := [.lit (.bool true)], args := [d1, d2] }
  | _ => none }
def coreAgainRow : OpenClaim := { program := "ytclgcfofgiejgaadoor", sum := "6e82c2e10f9fa08b495cc9a16b419abf4b3f346d33bb0a0da087fe810521596d", func := "quintain/quintainlaw21.CoreAgain", spec := "coreAgain", unfollowed := true, recurses := true, named := ["quintain/crc.rests"], apart := false, laid := [("quintain/crc.rests", laid_quintain_crc_rests)] }
def CoreAgainSaid : Prop := coreAgainRow.holds Tryd.pinned (OpenSpec.ofChange coreAgainSpec)

/-- ITS FALSE NEIGHBOUR: 'it returns false'. Refute it at one input. -/
def coreAgainWrong : ChangeSpec := { name := "coreAgain", fn := fun _ => fun
  | [d1, d2] => { results := [.lit (.bool false)], args := [d1, d2] }
  | _ => none }
def CoreAgainWrongFalsely : Prop := coreAgainRow.holds Tryd.pinned (OpenSpec.ofChange coreAgainWrong)

/-- 'quintainlaw21.CoreWord': WHATEVER THE INPUT: true; the input reads as it did. -/
def coreWordSpec : ChangeSpec := { name := "coreWord", fn := fun _ => fun
  | [d1, d2, d3, d4] => { results := [.lit (.bool true)], args := [d1, d2, d3, d4] }
  | _ => none }
def coreWordRow : OpenClaim := { program := "ytclgcfofgiejgaadoor", sum := "6e82c2e10f9fa08b495cc9a16b419abf4b3f346d33bb0a0da087fe810521596d", func := "quintain/quintainlaw21.CoreWord", spec := "coreWord", unfollowed := true, recurses := true, named := ["quintain/crc.rests"], apart := false, laid := [("quintain/crc.rests", laid_quintain_crc_rests)] }
def CoreWordSaid : Prop := coreWordRow.holds Tryd.pinned (OpenSpec.ofChange coreWordSpec)

/-- ITS FALSE NEIGHBOUR: 'it returns false'. Refute it at one input. -/
def coreWordWrong : ChangeSpec := { name := "coreWord", fn := fun _ => fun
  | [d1, d2, d3, d4] => { results := [.lit (.bool false)], args := [d1, d2, d3, d4] }
  | _ => none }
def CoreWordWrongFalsely : Prop := coreWordRow.holds Tryd.pinned (OpenSpec.ofChange coreWordWrong)

/-- 'quintainlaw21.CoreSends': WHATEVER THE INPUT: true; the input reads as it did. -/
def coreSendsSpec : ChangeSpec := { name := "coreSends", fn := fun _ => fun
  | [d1, d2] => { results := [.lit (.bool true)], args := [d1, d2] }
  | _ => none }
def coreSendsRow : OpenClaim := { program := "ytclgcfofgiejgaadoor", sum := "6e82c2e10f9fa08b495cc9a16b419abf4b3f346d33bb0a0da087fe810521596d", func := "quintain/quintainlaw21.CoreSends", spec := "coreSends", unfollowed := true, recurses := true, named := ["quintain/crc.rests"], apart := false, laid := [("quintain/crc.rests", laid_quintain_crc_rests)] }
def CoreSendsSaid : Prop := coreSendsRow.holds Tryd.pinned (OpenSpec.ofChange coreSendsSpec)

/-- ITS FALSE NEIGHBOUR: 'it returns false'. Refute it at one input. -/
def coreSendsWrong : ChangeSpec := { name := "coreSends", fn := fun _ => fun
  | [d1, d2] => { results := [.lit (.bool false)], args := [d1, d2] }
  | _ => none }
def CoreSendsWrongFalsely : Prop := coreSendsRow.holds Tryd.pinned (OpenSpec.ofChange coreSendsWrong)

/-- 'quintainlaw21.CoreApart': WHATEVER THE INPUT: true; the input reads as it did. -/
def coreApartSpec : ChangeSpec := { name := "coreApart", fn := fun _ => fun
  | [d1, d2, d3, d4] => { results := [.lit (.bool true)], args := [d1, d2, d3, d4] }
  | _ => none }
def coreApartRow : OpenClaim := { program := "ytclgcfofgiejgaadoor", sum := "6e82c2e10f9fa08b495cc9a16b419abf4b3f346d33bb0a0da087fe810521596d", func := "quintain/quintainlaw21.CoreApart", spec := "coreApart", unfollowed := true, recurses := true, named := ["quintain/crc.rests"], apart := false, laid := [("quintain/crc.rests", laid_quintain_crc_rests)] }
def CoreApartSaid : Prop := coreApartRow.holds Tryd.pinned (OpenSpec.ofChange coreApartSpec)

/-- ITS FALSE NEIGHBOUR: 'it returns false'. Refute it at one input. -/
def coreApartWrong : ChangeSpec := { name := "coreApart", fn := fun _ => fun
  | [d1, d2, d3, d4] => { results := [.lit (.bool false)], args := [d1, d2, d3, d4] }
  | _ => none }
def CoreApartWrongFalsely : Prop := coreApartRow.holds Tryd.pinned (OpenSpec.ofChange coreApartWrong)

/-- 'quintainlaw21.CoreQuit': WHATEVER THE INPUT: true; the input reads as it did. -/
def coreQuitSpec : ChangeSpec := { name := "coreQuit", fn := fun _ => fun
  | [d1, d2] => { results := [.lit (.bool true)], args := [d1, d2] }
  | _ => none }
def coreQuitRow : OpenClaim := { program := "ytclgcfofgiejgaadoor", sum := "6e82c2e10f9fa08b495cc9a16b419abf4b3f346d33bb0a0da087fe810521596d", func := "quintain/quintainlaw21.CoreQuit", spec := "coreQuit", unfollowed := true, recurses := true, named := ["quintain/crc.rests"], apart := false, laid := [("quintain/crc.rests", laid_quintain_crc_rests)] }
def CoreQuitSaid : Prop := coreQuitRow.holds Tryd.pinned (OpenSpec.ofChange coreQuitSpec)

/-- ITS FALSE NEIGHBOUR: 'it returns false'. Refute it at one input. -/
def coreQuitWrong : ChangeSpec := { name := "coreQuit", fn := fun _ => fun
  | [d1, d2] => { results := [.lit (.bool false)], args := [d1, d2] }
  | _ => none }
def CoreQuitWrongFalsely : Prop := coreQuitRow.holds Tryd.pinned (OpenSpec.ofChange coreQuitWrong)

/-- 'quintainlaw21.CoreOthers': WHATEVER THE INPUT: true; the input reads as it did. -/
def coreOthersSpec : ChangeSpec := { name := "coreOthers", fn := fun _ => fun
  | [d] => { results := [.lit (.bool true)], args := [d] }
  | _ => none }
def coreOthersRow : OpenClaim := { program := "ytclgcfofgiejgaadoor", sum := "6e82c2e10f9fa08b495cc9a16b419abf4b3f346d33bb0a0da087fe810521596d", func := "quintain/quintainlaw21.CoreOthers", spec := "coreOthers", unfollowed := true, recurses := true, named := ["quintain/crc.rests"], apart := false, laid := [("quintain/crc.rests", laid_quintain_crc_rests)] }
def CoreOthersSaid : Prop := coreOthersRow.holds Tryd.pinned (OpenSpec.ofChange coreOthersSpec)

/-- ITS FALSE NEIGHBOUR: 'it returns false'. Refute it at one input. -/
def coreOthersWrong : ChangeSpec := { name := "coreOthers", fn := fun _ => fun
  | [d] => { results := [.lit (.bool false)], args := [d] }
  | _ => none }
def CoreOthersWrongFalsely : Prop := coreOthersRow.holds Tryd.pinned (OpenSpec.ofChange coreOthersWrong)

/- THE SECOND FORM. 'bulk': how many values and letters a reading holds, each counted each time it is reached (what is shared counts as often as it is met; a slice's spare places count too). A statement '..UptoSaid' is the law's where the arguments, and the package variables that the reading takes, are together of bulk at most 1048576: NARROWER than '..Said'. Prove '..Said' where nothing that the law and all that it calls make is longer than what came in: it says more and counts as full. Else prove '..UptoSaid'. A law counts once. -/
mutual
def uptoBulk {H : Type} : DataW H → Nat
  | .lit (.string bytes) => bytes.length + 1
  | .lit _ => 1
  | .nil => 1
  | .ptr d => uptoBulk d + 1
  | .slice elems spare => uptoBulkAll elems + uptoBulkAll spare + 1
  | .agg parts => uptoBulkAll parts + 1
  | .iface _ d => uptoBulk d + 1
  | .map entries => uptoBulkEntries entries + 1
  | .held _ => 1
def uptoBulkAll {H : Type} : List (DataW H) → Nat
  | [] => 0
  | d :: r => uptoBulk d + uptoBulkAll r
def uptoBulkEntries {H : Type} : List (Lit × DataW H) → Nat
  | [] => 0
  | x :: r => uptoBulkEntry x + uptoBulkEntries r
def uptoBulkEntry {H : Type} : Lit × DataW H → Nat
  | (.string bytes, d) => bytes.length + uptoBulk d + 1
  | (_, d) => uptoBulk d + 1
 end
def uptoSmall : (H : Type) → List (DataW H) → Bool := fun _ ds => decide (uptoBulkAll ds ≤ 1048576)
def OpenSpec.upto (s : _root_.Go.ChangeSpec) : _root_.Go.OpenSpec := { _root_.Go.OpenSpec.ofChange s with cond := some uptoSmall }

/-- 'quintainlaw21.CoreLate', WHERE WHAT IT READS IS OF BULK AT MOST 1048576: true; the input reads as it did. -/
def coreLateUptoRow : OpenClaim := { program := "ytclgcfofgiejgaadoor", sum := "6e82c2e10f9fa08b495cc9a16b419abf4b3f346d33bb0a0da087fe810521596d", func := "quintain/quintainlaw21.CoreLate", spec := "coreLate", unfollowed := true, recurses := true, named := ["quintain/crc.rests"], apart := false, laid := [("quintain/crc.rests", laid_quintain_crc_rests)], narrowed := true }
def CoreLateUptoSaid : Prop := coreLateUptoRow.holds Tryd.pinned (OpenSpec.upto coreLateSpec)

/-- 'quintainlaw21.CoreStall', WHERE WHAT IT READS IS OF BULK AT MOST 1048576: true; the input reads as it did. -/
def coreStallUptoRow : OpenClaim := { program := "ytclgcfofgiejgaadoor", sum := "6e82c2e10f9fa08b495cc9a16b419abf4b3f346d33bb0a0da087fe810521596d", func := "quintain/quintainlaw21.CoreStall", spec := "coreStall", unfollowed := true, recurses := true, named := ["quintain/crc.rests"], apart := false, laid := [("quintain/crc.rests", laid_quintain_crc_rests)], narrowed := true }
def CoreStallUptoSaid : Prop := coreStallUptoRow.holds Tryd.pinned (OpenSpec.upto coreStallSpec)

/-- 'quintainlaw21.CoreNone', WHERE WHAT IT READS IS OF BULK AT MOST 1048576: true; the input reads as it did. -/
def coreNoneUptoRow : OpenClaim := { program := "ytclgcfofgiejgaadoor", sum := "6e82c2e10f9fa08b495cc9a16b419abf4b3f346d33bb0a0da087fe810521596d", func := "quintain/quintainlaw21.CoreNone", spec := "coreNone", unfollowed := true, recurses := true, named := ["quintain/crc.rests"], apart := false, laid := [("quintain/crc.rests", laid_quintain_crc_rests)], narrowed := true }
def CoreNoneUptoSaid : Prop := coreNoneUptoRow.holds Tryd.pinned (OpenSpec.upto coreNoneSpec)

/-- 'quintainlaw21.CoreAgain', WHERE WHAT IT READS IS OF BULK AT MOST 1048576: true; the input reads as it did. -/
def coreAgainUptoRow : OpenClaim := { program := "ytclgcfofgiejgaadoor", sum := "6e82c2e10f9fa08b495cc9a16b419abf4b3f346d33bb0a0da087fe810521596d", func := "quintain/quintainlaw21.CoreAgain", spec := "coreAgain", unfollowed := true, recurses := true, named := ["quintain/crc.rests"], apart := false, laid := [("quintain/crc.rests", laid_quintain_crc_rests)], narrowed := true }
def CoreAgainUptoSaid : Prop := coreAgainUptoRow.holds Tryd.pinned (OpenSpec.upto coreAgainSpec)

/-- 'quintainlaw21.CoreWord', WHERE WHAT IT READS IS OF BULK AT MOST 1048576: true; the input reads as it did. -/
def coreWordUptoRow : OpenClaim := { program := "ytclgcfofgiejgaadoor", sum := "6e82c2e10f9fa08b495cc9a16b419abf4b3f346d33bb0a0da087fe810521596d", func := "quintain/quintainlaw21.CoreWord", spec := "coreWord", unfollowed := true, recurses := true, named := ["quintain/crc.rests"], apart := false, laid := [("quintain/crc.rests", laid_quintain_crc_rests)], narrowed := true }
def CoreWordUptoSaid : Prop := coreWordUptoRow.holds Tryd.pinned (OpenSpec.upto coreWordSpec)

/-- 'quintainlaw21.CoreSends', WHERE WHAT IT READS IS OF BULK AT MOST 1048576: true; the input reads as it did. -/
def coreSendsUptoRow : OpenClaim := { program := "ytclgcfofgiejgaadoor", sum := "6e82c2e10f9fa08b495cc9a16b419abf4b3f346d33bb0a0da087fe810521596d", func := "quintain/quintainlaw21.CoreSends", spec := "coreSends", unfollowed := true, recurses := true, named := ["quintain/crc.rests"], apart := false, laid := [("quintain/crc.rests", laid_quintain_crc_rests)], narrowed := true }
def CoreSendsUptoSaid : Prop := coreSendsUptoRow.holds Tryd.pinned (OpenSpec.upto coreSendsSpec)

/-- 'quintainlaw21.CoreApart', WHERE WHAT IT READS IS OF BULK AT MOST 1048576: true; the input reads as it did. -/
def coreApartUptoRow : OpenClaim := { program := "ytclgcfofgiejgaadoor", sum := "6e82c2e10f9fa08b495cc9a16b419abf4b3f346d33bb0a0da087fe810521596d", func := "quintain/quintainlaw21.CoreApart", spec := "coreApart", unfollowed := true, recurses := true, named := ["quintain/crc.rests"], apart := false, laid := [("quintain/crc.rests", laid_quintain_crc_rests)], narrowed := true }
def CoreApartUptoSaid : Prop := coreApartUptoRow.holds Tryd.pinned (OpenSpec.upto coreApartSpec)

/-- 'quintainlaw21.CoreQuit', WHERE WHAT IT READS IS OF BULK AT MOST 1048576: true; the input reads as it did. -/
def coreQuitUptoRow : OpenClaim := { program := "ytclgcfofgiejgaadoor", sum := "6e82c2e10f9fa08b495cc9a16b419abf4b3f346d33bb0a0da087fe810521596d", func := "quintain/quintainlaw21.CoreQuit", spec := "coreQuit", unfollowed := true, recurses := true, named := ["quintain/crc.rests"], apart := false, laid := [("quintain/crc.rests", laid_quintain_crc_rests)], narrowed := true }
def CoreQuitUptoSaid : Prop := coreQuitUptoRow.holds Tryd.pinned (OpenSpec.upto coreQuitSpec)

/-- 'quintainlaw21.CoreOthers', WHERE WHAT IT READS IS OF BULK AT MOST 1048576: true; the input reads as it did. -/
def coreOthersUptoRow : OpenClaim := { program := "ytclgcfofgiejgaadoor", sum := "6e82c2e10f9fa08b495cc9a16b419abf4b3f346d33bb0a0da087fe810521596d", func := "quintain/quintainlaw21.CoreOthers", spec := "coreOthers", unfollowed := true, recurses := true, named := ["quintain/crc.rests"], apart := false, laid := [("quintain/crc.rests", laid_quintain_crc_rests)], narrowed := true }
def CoreOthersUptoSaid : Prop := coreOthersUptoRow.holds Tryd.pinned (OpenSpec.upto coreOthersSpec)

end Rows
end Go.Proofs.YtclgcfofgiejgaaDoor
