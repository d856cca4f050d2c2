/- WALKS of the laws of layer 14: Short, Decode in one word, begun. -/
import Derived.Test.YtclgcfofgiejgaaDoorJd
import Derived.Test.YtclgcfofgiejgaaDoorJi
import Derived.Test.YtclgcfofgiejgaaDoorJj
import Derived.Test.YtclgcfofgiejgaaDoorKc
import Derived.Laws.BytesString
import Derived.Test.YtclgcfofgiejgaaDoorKv
import Derived.Test.YtclgcfofgiejgaaDoorKw
namespace Go.Proofs.YtclgcfofgiejgaaDoor
set_option maxRecDepth 100000
open Go.RowKit
set_option linter.unusedVariables false
set_option linter.unusedSimpArgs false

theorem RB.next {w w' : World} {A : Option Addr} {l : List UInt8} (h : RB w w.heap.size A l) (hb : Below w.heap.size w w') : RB w' w'.heap.size A l := (h.below hb).more hb.size
/-- Decode -/
theorem dec_any (A : Option Addr) (l : List UInt8) (n cap : Nat) (m M : Int) (w : World) (hM : (m < 0 ∧ M = 0) ∨ (0 ≤ m ∧ M = m)) (hM1 : M ≤ 9223372036854775807) (hr : RB w w.heap.size A l) (hn : l.length = n) (hc : n ≤ cap) (hm : cap ≤ maxLen) (hl : n ≤ 4096)
    (ht : ∀ t, cnt M 0 (items true l) = .ok t → t ≤ 2147483647) :
    Calls Tryd.prog 80 #[.slice A n cap, .int .i64 m] w fun e w' => UnAns (cnt M 0 (items true l)) (expand 0 (items true l)) w w' e ∧ Below w.heap.size w w' := by
  subst hn
  cases h : cnt M 0 (items true l) with
  | form => exact dec_err A l cap m M 1 w hM hM1 hr hc hm (by rw [h]; rfl) (.inl rfl)
  | full => exact dec_err A l cap m M 4 w hM hM1 hr hc hm (by rw [h]; rfl) (.inr rfl)
  | ok t => exact (dec_ok A l cap m M t w hM hM1 hr hc hm h (ht t h) hl).mono fun e w' ⟨v, h1, h2, h3⟩ => ⟨⟨v, h1, h2⟩, h3⟩
theorem enc557 : encG 0 (groups [5, 5, 7]) = [4, 5, 2, 2] := by
  have e : groups [5, 5, 7] = [(2, 5), (1, 7)] := by decide
  rw [e]
  show putN ((2 : Nat) : Int) ++ (5 ^^^ 0) :: (putN ((1 : Nat) : Int) ++ (7 ^^^ 5) :: []) = _
  rw [putN_small 2 (by omega), putN_small 1 (by omega)]
  decide
theorem dec2 : cnt 9 0 (items true [2]) = .form := by
  rw [items_bad (by decide) (stepR_stop (u := 2) (k := 1) true rfl (by decide))]
  exact cnt_form _ _ _ _ rfl
end Go.Proofs.YtclgcfofgiejgaaDoor
