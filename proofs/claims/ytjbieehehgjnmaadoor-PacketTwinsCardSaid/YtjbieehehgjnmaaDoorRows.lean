/-
  NARROWER THAN 'FOR EVERY INPUT', by the rows' own cells (each row's printed sentence says how): PacketBytes: laid · PacketAny: laid · PacketEnds: laid · PacketShort: laid · PacketEach: laid · PacketTwins: laid · PacketPress: laid.
  DERIVED. THE GIVEN ROWS OF THIS SEAT. 7 by the template 'for every input the law returns true; each argument reads behind the call as it read before'; 0 by the template 'total and deterministic' (their statements: YtjbieehehgjnmaaDoorTotals.lean).
  GIVEN WITH THE SEED: the statements are not yours to turn. If you find one false, say at which input.
  Laid BY PROGRAM, IN A SANDBOX (cutbox-rows.mjs): the forced cells as the released guide's own fill.sh prints them over the translation 3dd4c58c8cc187e5… (all of the seat's roots in one cut). By AI agents, Wed Nov 11 2026. No macro, syntax, notation, axiom, sorry.
-/
import Derived.Test.YtjbieehehgjnmaaDoorChecked
import GoSem.Claim
import GoSem.ClaimJoined
import GoSem.ClaimMapViews
import Derived.JoinedTies
import Derived.KernelRfl
namespace Go.Proofs.YtjbieehehgjnmaaDoor
/- THE CELL 'sum', in the pinned program and in every row, IS THE sha256 OF THE DUMP (.gsa) THAT YtjbieehehgjnmaaDoorProg.lean LOADS. Nothing in Lean hashes anything: it is a label: what it is worth is what the hold of that sum in a sandbox is worth. -/
noncomputable def Tryd.pinned : Pinned := { name := "ytjbieehehgjnmaadoor", sum := "3dd4c58c8cc187e5bc4ce18811879ccfe82f704b86d9e38ffbb6aa6e80302d8b", checked := Tryd.checked }
namespace Rows
def none {H : Type} : Left H := { results := [], args := [] }

/- WHAT THE LISTED PACKAGE-LEVEL VARIABLES READ AS WHEN THE CALL BEGINS. Each datum BY PROGRAM (the guide's laid-datum.mjs) off the statement by which the dump's own 'gosem.cut.vars' lays the variable. In a bare row this is a premise. The card (YtjbieehehgjnmaaDoorCards.lean) ties it to the program's text. -/
def laid_quintain_crc_rests {H : Type} : DataW H := .agg [.lit (.int .u32 0), .lit (.int .u32 498536548), .lit (.int .u32 997073096), .lit (.int .u32 651767980), .lit (.int .u32 1994146192), .lit (.int .u32 1802195444), .lit (.int .u32 1303535960), .lit (.int .u32 1342533948), .lit (.int .u32 3988292384), .lit (.int .u32 4027552580), .lit (.int .u32 3604390888), .lit (.int .u32 3412177804), .lit (.int .u32 2607071920), .lit (.int .u32 2262029012), .lit (.int .u32 2685067896), .lit (.int .u32 3183342108)]

/-- 'quintainlaw15.PacketBytes': WHATEVER THE INPUT: true; the input reads as it did. -/
def packetBytesSpec : ChangeSpec := { name := "packetBytes", fn := fun _ => fun
  | [d1, d2, d3, d4] => { results := [.lit (.bool true)], args := [d1, d2, d3, d4] }
  | _ => none }
def packetBytesRow : OpenClaim := { program := "ytjbieehehgjnmaadoor", sum := "3dd4c58c8cc187e5bc4ce18811879ccfe82f704b86d9e38ffbb6aa6e80302d8b", func := "quintain/quintainlaw15.PacketBytes", spec := "packetBytes", unfollowed := true, recurses := true, named := ["quintain/crc.rests"], apart := false, laid := [("quintain/crc.rests", laid_quintain_crc_rests)] }
def PacketBytesSaid : Prop := packetBytesRow.holds Tryd.pinned (OpenSpec.ofChange packetBytesSpec)

/-- ITS FALSE NEIGHBOUR: 'it returns false'. Refute it at one input. -/
def packetBytesWrong : ChangeSpec := { name := "packetBytes", fn := fun _ => fun
  | [d1, d2, d3, d4] => { results := [.lit (.bool false)], args := [d1, d2, d3, d4] }
  | _ => none }
def PacketBytesWrongFalsely : Prop := packetBytesRow.holds Tryd.pinned (OpenSpec.ofChange packetBytesWrong)

/-- 'quintainlaw15.PacketAny': WHATEVER THE INPUT: true; the input reads as it did. -/
def packetAnySpec : ChangeSpec := { name := "packetAny", fn := fun _ => fun
  | [d] => { results := [.lit (.bool true)], args := [d] }
  | _ => none }
def packetAnyRow : OpenClaim := { program := "ytjbieehehgjnmaadoor", sum := "3dd4c58c8cc187e5bc4ce18811879ccfe82f704b86d9e38ffbb6aa6e80302d8b", func := "quintain/quintainlaw15.PacketAny", spec := "packetAny", unfollowed := true, recurses := true, named := ["quintain/crc.rests"], apart := false, laid := [("quintain/crc.rests", laid_quintain_crc_rests)] }
def PacketAnySaid : Prop := packetAnyRow.holds Tryd.pinned (OpenSpec.ofChange packetAnySpec)

/-- ITS FALSE NEIGHBOUR: 'it returns false'. Refute it at one input. -/
def packetAnyWrong : ChangeSpec := { name := "packetAny", fn := fun _ => fun
  | [d] => { results := [.lit (.bool false)], args := [d] }
  | _ => none }
def PacketAnyWrongFalsely : Prop := packetAnyRow.holds Tryd.pinned (OpenSpec.ofChange packetAnyWrong)

/-- 'quintainlaw15.PacketEnds': WHATEVER THE INPUT: true; the input reads as it did. -/
def packetEndsSpec : ChangeSpec := { name := "packetEnds", fn := fun _ => fun
  | [d1, d2, d3, d4, d5, d6, d7, d8] => { results := [.lit (.bool true)], args := [d1, d2, d3, d4, d5, d6, d7, d8] }
  | _ => none }
def packetEndsRow : OpenClaim := { program := "ytjbieehehgjnmaadoor", sum := "3dd4c58c8cc187e5bc4ce18811879ccfe82f704b86d9e38ffbb6aa6e80302d8b", func := "quintain/quintainlaw15.PacketEnds", spec := "packetEnds", unfollowed := true, recurses := true, named := ["quintain/crc.rests"], apart := false, laid := [("quintain/crc.rests", laid_quintain_crc_rests)] }
def PacketEndsSaid : Prop := packetEndsRow.holds Tryd.pinned (OpenSpec.ofChange packetEndsSpec)

/-- ITS FALSE NEIGHBOUR: 'it returns false'. Refute it at one input. -/
def packetEndsWrong : ChangeSpec := { name := "packetEnds", fn := fun _ => fun
  | [d1, d2, d3, d4, d5, d6, d7, d8] => { results := [.lit (.bool false)], args := [d1, d2, d3, d4, d5, d6, d7, d8] }
  | _ => none }
def PacketEndsWrongFalsely : Prop := packetEndsRow.holds Tryd.pinned (OpenSpec.ofChange packetEndsWrong)

/-- 'quintainlaw15.PacketShort': WHATEVER THE INPUT: true; the input reads as it did. -/
def packetShortSpec : ChangeSpec := { name := "packetShort", fn := fun _ => fun
  | [d1, d2] => { results := [.lit (.bool true)], args := [d1, d2] }
  | _ => none }
def packetShortRow : OpenClaim := { program := "ytjbieehehgjnmaadoor", sum := "3dd4c58c8cc187e5bc4ce18811879ccfe82f704b86d9e38ffbb6aa6e80302d8b", func := "quintain/quintainlaw15.PacketShort", spec := "packetShort", unfollowed := true, recurses := true, named := ["quintain/crc.rests"], apart := false, laid := [("quintain/crc.rests", laid_quintain_crc_rests)] }
def PacketShortSaid : Prop := packetShortRow.holds Tryd.pinned (OpenSpec.ofChange packetShortSpec)

/-- ITS FALSE NEIGHBOUR: 'it returns false'. Refute it at one input. -/
def packetShortWrong : ChangeSpec := { name := "packetShort", fn := fun _ => fun
  | [d1, d2] => { results := [.lit (.bool false)], args := [d1, d2] }
  | _ => none }
def PacketShortWrongFalsely : Prop := packetShortRow.holds Tryd.pinned (OpenSpec.ofChange packetShortWrong)

/-- 'quintainlaw15.PacketEach': WHATEVER THE INPUT: true; the input reads as it did. -/
def packetEachSpec : ChangeSpec := { name := "packetEach", fn := fun _ => fun
  | [d1, d2] => { results := [.lit (.bool true)], args := [d1, d2] }
  | _ => none }
def packetEachRow : OpenClaim := { program := "ytjbieehehgjnmaadoor", sum := "3dd4c58c8cc187e5bc4ce18811879ccfe82f704b86d9e38ffbb6aa6e80302d8b", func := "quintain/quintainlaw15.PacketEach", spec := "packetEach", unfollowed := true, recurses := true, named := ["quintain/crc.rests"], apart := false, laid := [("quintain/crc.rests", laid_quintain_crc_rests)] }
def PacketEachSaid : Prop := packetEachRow.holds Tryd.pinned (OpenSpec.ofChange packetEachSpec)

/-- ITS FALSE NEIGHBOUR: 'it returns false'. Refute it at one input. -/
def packetEachWrong : ChangeSpec := { name := "packetEach", fn := fun _ => fun
  | [d1, d2] => { results := [.lit (.bool false)], args := [d1, d2] }
  | _ => none }
def PacketEachWrongFalsely : Prop := packetEachRow.holds Tryd.pinned (OpenSpec.ofChange packetEachWrong)

/-- 'quintainlaw15.PacketTwins': WHATEVER THE INPUT: true; the input reads as it did. -/
def packetTwinsSpec : ChangeSpec := { name := "packetTwins", fn := fun _ => fun
  | [d1, d2, d3] => { results := [.lit (.bool true)], args := [d1, d2, d3] }
  | _ => none }
def packetTwinsRow : OpenClaim := { program := "ytjbieehehgjnmaadoor", sum := "3dd4c58c8cc187e5bc4ce18811879ccfe82f704b86d9e38ffbb6aa6e80302d8b", func := "quintain/quintainlaw15.PacketTwins", spec := "packetTwins", unfollowed := true, recurses := true, named := ["quintain/crc.rests"], apart := false, laid := [("quintain/crc.rests", laid_quintain_crc_rests)] }
def PacketTwinsSaid : Prop := packetTwinsRow.holds Tryd.pinned (OpenSpec.ofChange packetTwinsSpec)

/-- ITS FALSE NEIGHBOUR: 'it returns false'. Refute it at one input. -/
def packetTwinsWrong : ChangeSpec := { name := "packetTwins", fn := fun _ => fun
  | [d1, d2, d3] => { results := [.lit (.bool false)], args := [d1, d2, d3] }
  | _ => none }
def PacketTwinsWrongFalsely : Prop := packetTwinsRow.holds Tryd.pinned (OpenSpec.ofChange packetTwinsWrong)

/-- 'quintainlaw15.PacketPress': WHATEVER THE INPUT: true; the input reads as it did. -/
def packetPressSpec : ChangeSpec := { name := "packetPress", fn := fun _ => fun
  | [d1, d2] => { results := [.lit (.bool true)], args := [d1, d2] }
  | _ => none }
def packetPressRow : OpenClaim := { program := "ytjbieehehgjnmaadoor", sum := "3dd4c58c8cc187e5bc4ce18811879ccfe82f704b86d9e38ffbb6aa6e80302d8b", func := "quintain/quintainlaw15.PacketPress", spec := "packetPress", unfollowed := true, recurses := true, named := ["quintain/crc.rests"], apart := false, laid := [("quintain/crc.rests", laid_quintain_crc_rests)] }
def PacketPressSaid : Prop := packetPressRow.holds Tryd.pinned (OpenSpec.ofChange packetPressSpec)

/-- ITS FALSE NEIGHBOUR: 'it returns false'. Refute it at one input. -/
def packetPressWrong : ChangeSpec := { name := "packetPress", fn := fun _ => fun
  | [d1, d2] => { results := [.lit (.bool false)], args := [d1, d2] }
  | _ => none }
def PacketPressWrongFalsely : Prop := packetPressRow.holds Tryd.pinned (OpenSpec.ofChange packetPressWrong)

/- THE SECOND FORM. 'bulk': how many values and letters a reading holds, each counted each time it is reached (what is shared counts as often as it is met; a slice's spare places count too). A statement '..UptoSaid' is the law's where the arguments, and the package variables that the reading takes, are together of bulk at most 1048576: NARROWER than '..Said'. Prove '..Said' where nothing that the law and all that it calls make is longer than what came in: it says more and counts as full. Else prove '..UptoSaid'. A law counts once. -/
mutual
def uptoBulk {H : Type} : DataW H → Nat
  | .lit (.string bytes) => bytes.length + 1
  | .lit _ => 1
  | .nil => 1
  | .ptr d => uptoBulk d + 1
  | .slice elems spare => uptoBulkAll elems + uptoBulkAll spare + 1
  | .agg parts => uptoBulkAll parts + 1
  | .iface _ d => uptoBulk d + 1
  | .map entries => uptoBulkEntries entries + 1
  | .held _ => 1
def uptoBulkAll {H : Type} : List (DataW H) → Nat
  | [] => 0
  | d :: r => uptoBulk d + uptoBulkAll r
def uptoBulkEntries {H : Type} : List (Lit × DataW H) → Nat
  | [] => 0
  | x :: r => uptoBulkEntry x + uptoBulkEntries r
def uptoBulkEntry {H : Type} : Lit × DataW H → Nat
  | (.string bytes, d) => bytes.length + uptoBulk d + 1
  | (_, d) => uptoBulk d + 1
 end
def uptoSmall : (H : Type) → List (DataW H) → Bool := fun _ ds => decide (uptoBulkAll ds ≤ 1048576)
def OpenSpec.upto (s : _root_.Go.ChangeSpec) : _root_.Go.OpenSpec := { _root_.Go.OpenSpec.ofChange s with cond := some uptoSmall }

/-- 'quintainlaw15.PacketBytes', WHERE WHAT IT READS IS OF BULK AT MOST 1048576: true; the input reads as it did. -/
def packetBytesUptoRow : OpenClaim := { program := "ytjbieehehgjnmaadoor", sum := "3dd4c58c8cc187e5bc4ce18811879ccfe82f704b86d9e38ffbb6aa6e80302d8b", func := "quintain/quintainlaw15.PacketBytes", spec := "packetBytes", unfollowed := true, recurses := true, named := ["quintain/crc.rests"], apart := false, laid := [("quintain/crc.rests", laid_quintain_crc_rests)], narrowed := true }
def PacketBytesUptoSaid : Prop := packetBytesUptoRow.holds Tryd.pinned (OpenSpec.upto packetBytesSpec)

/-- 'quintainlaw15.PacketAny', WHERE WHAT IT READS IS OF BULK AT MOST 1048576: true; the input reads as it did. -/
def packetAnyUptoRow : OpenClaim := { program := "ytjbieehehgjnmaadoor", sum := "3dd4c58c8cc187e5bc4ce18811879ccfe82f704b86d9e38ffbb6aa6e80302d8b", func := "quintain/quintainlaw15.PacketAny", spec := "packetAny", unfollowed := true, recurses := true, named := ["quintain/crc.rests"], apart := false, laid := [("quintain/crc.rests", laid_quintain_crc_rests)], narrowed := true }
def PacketAnyUptoSaid : Prop := packetAnyUptoRow.holds Tryd.pinned (OpenSpec.upto packetAnySpec)

/-- 'quintainlaw15.PacketEnds', WHERE WHAT IT READS IS OF BULK AT MOST 1048576: true; the input reads as it did. -/
def packetEndsUptoRow : OpenClaim := { program := "ytjbieehehgjnmaadoor", sum := "3dd4c58c8cc187e5bc4ce18811879ccfe82f704b86d9e38ffbb6aa6e80302d8b", func := "quintain/quintainlaw15.PacketEnds", spec := "packetEnds", unfollowed := true, recurses := true, named := ["quintain/crc.rests"], apart := false, laid := [("quintain/crc.rests", laid_quintain_crc_rests)], narrowed := true }
def PacketEndsUptoSaid : Prop := packetEndsUptoRow.holds Tryd.pinned (OpenSpec.upto packetEndsSpec)

/-- 'quintainlaw15.PacketShort', WHERE WHAT IT READS IS OF BULK AT MOST 1048576: true; the input reads as it did. -/
def packetShortUptoRow : OpenClaim := { program := "ytjbieehehgjnmaadoor", sum := "3dd4c58c8cc187e5bc4ce18811879ccfe82f704b86d9e38ffbb6aa6e80302d8b", func := "quintain/quintainlaw15.PacketShort", spec := "packetShort", unfollowed := true, recurses := true, named := ["quintain/crc.rests"], apart := false, laid := [("quintain/crc.rests", laid_quintain_crc_rests)], narrowed := true }
def PacketShortUptoSaid : Prop := packetShortUptoRow.holds Tryd.pinned (OpenSpec.upto packetShortSpec)

/-- 'quintainlaw15.PacketEach', WHERE WHAT IT READS IS OF BULK AT MOST 1048576: true; the input reads as it did. -/
def packetEachUptoRow : OpenClaim := { program := "ytjbieehehgjnmaadoor", sum := "3dd4c58c8cc187e5bc4ce18811879ccfe82f704b86d9e38ffbb6aa6e80302d8b", func := "quintain/quintainlaw15.PacketEach", spec := "packetEach", unfollowed := true, recurses := true, named := ["quintain/crc.rests"], apart := false, laid := [("quintain/crc.rests", laid_quintain_crc_rests)], narrowed := true }
def PacketEachUptoSaid : Prop := packetEachUptoRow.holds Tryd.pinned (OpenSpec.upto packetEachSpec)

/-- 'quintainlaw15.PacketTwins', WHERE WHAT IT READS IS OF BULK AT MOST 1048576: true; the input reads as it did. -/
def packetTwinsUptoRow : OpenClaim := { program := "ytjbieehehgjnmaadoor", sum := "3dd4c58c8cc187e5bc4ce18811879ccfe82f704b86d9e38ffbb6aa6e80302d8b", func := "quintain/quintainlaw15.PacketTwins", spec := "packetTwins", unfollowed := true, recurses := true, named := ["quintain/crc.rests"], apart := false, laid := [("quintain/crc.rests", laid_quintain_crc_rests)], narrowed := true }
def PacketTwinsUptoSaid : Prop := packetTwinsUptoRow.holds Tryd.pinned (OpenSpec.upto packetTwinsSpec)

/-- 'quintainlaw15.PacketPress', WHERE WHAT IT READS IS OF BULK AT MOST 1048576: true; the input reads as it did. -/
def packetPressUptoRow : OpenClaim := { program := "ytjbieehehgjnmaadoor", sum := "3dd4c58c8cc187e5bc4ce18811879ccfe82f704b86d9e38ffbb6aa6e80302d8b", func := "quintain/quintainlaw15.PacketPress", spec := "packetPress", unfollowed := true, recurses := true, named := ["quintain/crc.rests"], apart := false, laid := [("quintain/crc.rests", laid_quintain_crc_rests)], narrowed := true }
def PacketPressUptoSaid : Prop := packetPressUptoRow.holds Tryd.pinned (OpenSpec.upto packetPressSpec)

end Rows
end Go.Proofs.YtjbieehehgjnmaaDoor
