/- WALKS of the laws of layer 13: begun; InputNone. -/
import Derived.Test.YtomiligjcpmnjaaIe
import Derived.Test.YtomiligjcpmnjaaKv
import Derived.Test.YtomiligjcpmnjaaKw
namespace Go.Proofs.Ytomiligjcpmnjaa
set_option maxRecDepth 100000
open Go.RowKit
set_option linter.unusedVariables false
set_option linter.unusedSimpArgs false

/-- owned bytes made a string -/
theorem conv_own {w : World} {base n cap : Nat} {A : Option Addr} {l : List UInt8} (h : OB w base (.slice A n cap) l) (hn : l.length = n) : (convert 23 9 (.slice A n cap)).run Try.prog w = .ok (.string (str l)) w := by
  subst hn
  have h' := h
  rcases h.2 with ⟨hv, h0⟩ | ⟨g, cap', cur, hv, _⟩
  · injection hv with h1 h2 h3
    subst h1 h3
    obtain rfl := List.eq_nil_of_length_eq_zero h0
    exact run_convert_bytes_nil w 23 5 Try.underlying23 Try.underlying5 0 0 9 Try.underlying9
  · injection hv with h1 h2 h3
    subst h1 h3
    exact conv_bytes w g 0 cap l _ h'.cells l.length rfl
theorem below_own {w0 w w' : World} {b : Nat} (h : Below w0.heap.size w0 w) (hg : w.grownBy w' (some b)) (hb : w0.heap.size ≤ b) : Below w0.heap.size w0 w' := h.grown hg h.size (fun k e => by cases e; exact hb)
end Go.Proofs.Ytomiligjcpmnjaa
