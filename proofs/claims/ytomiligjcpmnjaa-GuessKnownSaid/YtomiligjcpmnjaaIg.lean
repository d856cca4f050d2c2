/- WALK of the law InputStays. -/
import Derived.Test.YtomiligjcpmnjaaIf
import Derived.Laws.BytesString
import Derived.Test.YtomiligjcpmnjaaKv
import Derived.Test.YtomiligjcpmnjaaKw
namespace Go.Proofs.Ytomiligjcpmnjaa
set_option maxRecDepth 100000
open Go.RowKit
set_option linter.unusedVariables false
set_option linter.unusedSimpArgs false

/-- Put at the line's start -/
theorem put_first (w : World) (b : Nat) (x : List UInt8) (A : Option Addr) (cap B X : Nat) (hX : x.length = X) (h : LM w b 0 []) (hx : RB w B A x) (hc : X ≤ cap) (hm : cap ≤ maxLen) (hX2 : X ≤ 1000) :
    Calls Try.prog 21 #[pB b, .int .i64 0, .slice A X cap] w fun e w' => e = .returned (.tuple #[.int .i64 X, .int .i64 0]) ∧ LM w' b X x ∧ w.grownBy w' (some b) :=
  (put_in w b [] x A cap B 0 0 0 X rfl hX h (by omega) hx hc hm (Nat.le_refl _) (by omega) X (by omega) X (by omega)).mono fun e w' ⟨he, h1, h2⟩ => by
    refine ⟨by rw [he]; simp, ?_, h2⟩
    rw [List.drop_zero, List.take_of_length_le (by omega), List.nil_append, Nat.zero_add] at h1
    exact h1
theorem put_on (w : World) (b : Nat) (l x : List UInt8) (A : Option Addr) (cap B f p L X m : Nat) (hL : l.length = L) (hX : x.length = X) (h : LM w b L l) (hx : RB w B A x) (hc : X ≤ cap) (hm : cap ≤ maxLen) (hf : f ≤ L) (hp : min (L - f) X = p) (hmm : X - p = m) (hn : L + m ≤ 1000) :
    Calls Try.prog 21 #[pB b, .int .i64 f, .slice A X cap] w fun e w' => e = .returned (.tuple #[.int .i64 m, .int .i64 0]) ∧ LM w' b (L + m : Nat) (l ++ x.drop p) ∧ w.grownBy w' (some b) :=
  (put_in w b l x A cap B f p L X hL hX h (by omega) hx hc hm hf hp m hmm m (by omega)).mono fun e w' ⟨he, h1, h2⟩ => by
    refine ⟨by rw [he]; simp, ?_, h2⟩
    rw [List.take_of_length_le (by rw [List.length_drop]; omega)] at h1
    exact h1
theorem RB.tail {w : World} {B : Nat} {A : Option Addr} {l : List UInt8} (h : RB w B A l) (k cap : Nat) (hk : k ≤ l.length) (hc : l.length ≤ cap) (hne : ¬ cap = k) : RB w B (A.map (·.add k)) (l.drop k) := by
  have := h.cut k cap hk hc
  rwa [if_neg hne] at this

end Go.Proofs.Ytomiligjcpmnjaa
