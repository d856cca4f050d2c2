/- WALK of WordAll. -/
import Derived.Test.YtpgdmlcfejddjaaDh
import Derived.Test.YtpgdmlcfejddjaaDi
namespace Go.Proofs.Ytpgdmlcfejddjaa
open Go.RowKit
set_option linter.unusedVariables false
theorem all_law (a b n : Int) (A : Option Addr) (l : List UInt8) (cap : Nat) (w : World) (ha : (Lit.int .i32 a).wf = true) (hb : (Lit.int .i32 b).wf = true) (hn : (Lit.int .i64 n).wf = true)
    (hr : RB w w.heap.size A l) (hc : l.length ≤ cap) (hm : cap ≤ maxLen) :
    Calls Try.prog 3 #[.int .i32 a, .int .i32 b, .int .i64 n, .slice A l.length cap] w fun e w' => e = .returned (.bool true) ∧ Below w.heap.size w w' :=
  by
  by_cases h4 : l.length < 4
  · exact all_short a b n A l cap w (bounds_i32 ha).1 (bounds_i32 ha).2 (bounds_i32 hb).1 (bounds_i32 hb).2 (bounds_i64 hn).1 (bounds_i64 hn).2 hr hc hm h4
  by_cases h8 : l.length ≤ 8
  · exact all_mid a b n A l cap w (bounds_i32 ha).1 (bounds_i32 ha).2 (bounds_i32 hb).1 (bounds_i32 hb).2 (bounds_i64 hn).1 (bounds_i64 hn).2 hr hc hm (by omega) h8
  · exact all_long a b n A l cap w (bounds_i32 ha).1 (bounds_i32 ha).2 (bounds_i32 hb).1 (bounds_i32 hb).2 (bounds_i64 hn).1 (bounds_i64 hn).2 hr hc hm (by omega)
end Go.Proofs.Ytpgdmlcfejddjaa
