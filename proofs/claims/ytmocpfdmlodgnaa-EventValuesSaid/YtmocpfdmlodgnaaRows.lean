/-
  No cell of these rows narrows 'for every input' (looked for: loops, veiled, ifaces, maps, wideKeys, modest, calm, conditions, laid).
  DERIVED. THE GIVEN ROWS OF THIS SEAT. 4 by the template 'for every input the law returns true; each argument reads behind the call as it read before'; 0 by the template 'total and deterministic' (their statements: YtmocpfdmlodgnaaTotals.lean).
  GIVEN WITH THE SEED: the statements are not yours to turn. If you find one false, say at which input.
  Laid BY PROGRAM, IN A SANDBOX (cutbox-rows.mjs): the forced cells as the released guide's own fill.sh prints them over the translation ad172e0d889ea694… (all of the seat's roots in one cut). By AI agents, Wed Nov 11 2026. No macro, syntax, notation, axiom, sorry.
-/
import Derived.Test.YtmocpfdmlodgnaaChecked
import GoSem.Claim
import GoSem.ClaimJoined
import GoSem.ClaimMapViews
import Derived.JoinedTies
import Derived.KernelRfl
namespace Go.Proofs.Ytmocpfdmlodgnaa
/- THE CELL 'sum', in the pinned program and in every row, IS THE sha256 OF THE DUMP (.gsa) THAT YtmocpfdmlodgnaaProg.lean LOADS. Nothing in Lean hashes anything: it is a label: what it is worth is what the hold of that sum in a sandbox is worth. -/
noncomputable def Try.pinned : Pinned := { name := "ytmocpfdmlodgnaa", sum := "ad172e0d889ea694a39c5f4955d211144e31cece48c97408f299445c0df35773", checked := Try.checked }
namespace Rows
def none {H : Type} : Left H := { results := [], args := [] }

/-- 'quintainlaw12.EventAll': WHATEVER THE INPUT: true; the input reads as it did. -/
def eventAllSpec : ChangeSpec := { name := "eventAll", fn := fun _ => fun
  | [d] => { results := [.lit (.bool true)], args := [d] }
  | _ => none }
def eventAllRow : OpenClaim := { program := "ytmocpfdmlodgnaa", sum := "ad172e0d889ea694a39c5f4955d211144e31cece48c97408f299445c0df35773", func := "quintain/quintainlaw12.EventAll", spec := "eventAll", unfollowed := true, recurses := true, apart := false }
def EventAllSaid : Prop := eventAllRow.holds Try.pinned (OpenSpec.ofChange eventAllSpec)

/-- ITS FALSE NEIGHBOUR: 'it returns false'. Refute it at one input. -/
def eventAllWrong : ChangeSpec := { name := "eventAll", fn := fun _ => fun
  | [d] => { results := [.lit (.bool false)], args := [d] }
  | _ => none }
def EventAllWrongFalsely : Prop := eventAllRow.holds Try.pinned (OpenSpec.ofChange eventAllWrong)

/-- 'quintainlaw12.EventNone': WHATEVER THE INPUT: true; the input reads as it did. -/
def eventNoneSpec : ChangeSpec := { name := "eventNone", fn := fun _ => fun
  | [] => { results := [.lit (.bool true)], args := [] }
  | _ => none }
def eventNoneRow : OpenClaim := { program := "ytmocpfdmlodgnaa", sum := "ad172e0d889ea694a39c5f4955d211144e31cece48c97408f299445c0df35773", func := "quintain/quintainlaw12.EventNone", spec := "eventNone", unfollowed := true, recurses := true, apart := false }
def EventNoneSaid : Prop := eventNoneRow.holds Try.pinned (OpenSpec.ofChange eventNoneSpec)

/-- ITS FALSE NEIGHBOUR: 'it returns false'. Refute it at one input. -/
def eventNoneWrong : ChangeSpec := { name := "eventNone", fn := fun _ => fun
  | [] => { results := [.lit (.bool false)], args := [] }
  | _ => none }
def EventNoneWrongFalsely : Prop := eventNoneRow.holds Try.pinned (OpenSpec.ofChange eventNoneWrong)

/-- 'quintainlaw12.EventTwins': WHATEVER THE INPUT: true; the input reads as it did. -/
def eventTwinsSpec : ChangeSpec := { name := "eventTwins", fn := fun _ => fun
  | [d1, d2] => { results := [.lit (.bool true)], args := [d1, d2] }
  | _ => none }
def eventTwinsRow : OpenClaim := { program := "ytmocpfdmlodgnaa", sum := "ad172e0d889ea694a39c5f4955d211144e31cece48c97408f299445c0df35773", func := "quintain/quintainlaw12.EventTwins", spec := "eventTwins", unfollowed := true, recurses := true, apart := false }
def EventTwinsSaid : Prop := eventTwinsRow.holds Try.pinned (OpenSpec.ofChange eventTwinsSpec)

/-- ITS FALSE NEIGHBOUR: 'it returns false'. Refute it at one input. -/
def eventTwinsWrong : ChangeSpec := { name := "eventTwins", fn := fun _ => fun
  | [d1, d2] => { results := [.lit (.bool false)], args := [d1, d2] }
  | _ => none }
def EventTwinsWrongFalsely : Prop := eventTwinsRow.holds Try.pinned (OpenSpec.ofChange eventTwinsWrong)

/-- 'quintainlaw12.EventValues': WHATEVER THE INPUT: true; the input reads as it did. -/
def eventValuesSpec : ChangeSpec := { name := "eventValues", fn := fun _ => fun
  | [d1, d2] => { results := [.lit (.bool true)], args := [d1, d2] }
  | _ => none }
def eventValuesRow : OpenClaim := { program := "ytmocpfdmlodgnaa", sum := "ad172e0d889ea694a39c5f4955d211144e31cece48c97408f299445c0df35773", func := "quintain/quintainlaw12.EventValues", spec := "eventValues", unfollowed := true, recurses := true, apart := false }
def EventValuesSaid : Prop := eventValuesRow.holds Try.pinned (OpenSpec.ofChange eventValuesSpec)

/-- ITS FALSE NEIGHBOUR: 'it returns false'. Refute it at one input. -/
def eventValuesWrong : ChangeSpec := { name := "eventValues", fn := fun _ => fun
  | [d1, d2] => { results := [.lit (.bool false)], args := [d1, d2] }
  | _ => none }
def EventValuesWrongFalsely : Prop := eventValuesRow.holds Try.pinned (OpenSpec.ofChange eventValuesWrong)

/- THE SECOND FORM. 'bulk': how many values and letters a reading holds, each counted each time it is reached (what is shared counts as often as it is met; a slice's spare places count too). A statement '..UptoSaid' is the law's where the arguments, and the package variables that the reading takes, are together of bulk at most 1048576: NARROWER than '..Said'. Prove '..Said' where nothing that the law and all that it calls make is longer than what came in: it says more and counts as full. Else prove '..UptoSaid'. A law counts once. -/
mutual
def uptoBulk {H : Type} : DataW H → Nat
  | .lit (.string bytes) => bytes.length + 1
  | .lit _ => 1
  | .nil => 1
  | .ptr d => uptoBulk d + 1
  | .slice elems spare => uptoBulkAll elems + uptoBulkAll spare + 1
  | .agg parts => uptoBulkAll parts + 1
  | .iface _ d => uptoBulk d + 1
  | .map entries => uptoBulkEntries entries + 1
  | .held _ => 1
def uptoBulkAll {H : Type} : List (DataW H) → Nat
  | [] => 0
  | d :: r => uptoBulk d + uptoBulkAll r
def uptoBulkEntries {H : Type} : List (Lit × DataW H) → Nat
  | [] => 0
  | x :: r => uptoBulkEntry x + uptoBulkEntries r
def uptoBulkEntry {H : Type} : Lit × DataW H → Nat
  | (.string bytes, d) => bytes.length + uptoBulk d + 1
  | (_, d) => uptoBulk d + 1
 end
def uptoSmall : (H : Type) → List (DataW H) → Bool := fun _ ds => decide (uptoBulkAll ds ≤ 1048576)
def OpenSpec.upto (s : _root_.Go.ChangeSpec) : _root_.Go.OpenSpec := { _root_.Go.OpenSpec.ofChange s with cond := some uptoSmall }

/-- 'quintainlaw12.EventAll', WHERE WHAT IT READS IS OF BULK AT MOST 1048576: true; the input reads as it did. -/
def eventAllUptoRow : OpenClaim := { program := "ytmocpfdmlodgnaa", sum := "ad172e0d889ea694a39c5f4955d211144e31cece48c97408f299445c0df35773", func := "quintain/quintainlaw12.EventAll", spec := "eventAll", unfollowed := true, recurses := true, apart := false, narrowed := true }
def EventAllUptoSaid : Prop := eventAllUptoRow.holds Try.pinned (OpenSpec.upto eventAllSpec)

/-- 'quintainlaw12.EventNone', WHERE WHAT IT READS IS OF BULK AT MOST 1048576: true; the input reads as it did. -/
def eventNoneUptoRow : OpenClaim := { program := "ytmocpfdmlodgnaa", sum := "ad172e0d889ea694a39c5f4955d211144e31cece48c97408f299445c0df35773", func := "quintain/quintainlaw12.EventNone", spec := "eventNone", unfollowed := true, recurses := true, apart := false, narrowed := true }
def EventNoneUptoSaid : Prop := eventNoneUptoRow.holds Try.pinned (OpenSpec.upto eventNoneSpec)

/-- 'quintainlaw12.EventTwins', WHERE WHAT IT READS IS OF BULK AT MOST 1048576: true; the input reads as it did. -/
def eventTwinsUptoRow : OpenClaim := { program := "ytmocpfdmlodgnaa", sum := "ad172e0d889ea694a39c5f4955d211144e31cece48c97408f299445c0df35773", func := "quintain/quintainlaw12.EventTwins", spec := "eventTwins", unfollowed := true, recurses := true, apart := false, narrowed := true }
def EventTwinsUptoSaid : Prop := eventTwinsUptoRow.holds Try.pinned (OpenSpec.upto eventTwinsSpec)

/-- 'quintainlaw12.EventValues', WHERE WHAT IT READS IS OF BULK AT MOST 1048576: true; the input reads as it did. -/
def eventValuesUptoRow : OpenClaim := { program := "ytmocpfdmlodgnaa", sum := "ad172e0d889ea694a39c5f4955d211144e31cece48c97408f299445c0df35773", func := "quintain/quintainlaw12.EventValues", spec := "eventValues", unfollowed := true, recurses := true, apart := false, narrowed := true }
def EventValuesUptoSaid : Prop := eventValuesUptoRow.holds Try.pinned (OpenSpec.upto eventValuesSpec)

end Rows
end Go.Proofs.Ytmocpfdmlodgnaa
