/- WALKS of the laws of layer 14: Short, Decode in one word, begun. -/
import Derived.Test.YtjbieehehgjnmaaDoorJd
import Derived.Test.YtjbieehehgjnmaaDoorJi
import Derived.Test.YtjbieehehgjnmaaDoorJj
import Derived.Test.YtjbieehehgjnmaaDoorKc
import Derived.Laws.BytesString
namespace Go.Proofs.YtjbieehehgjnmaaDoor
set_option maxRecDepth 100000
open Go.RowKit
set_option linter.unusedVariables false
set_option linter.unusedSimpArgs false

theorem short_any (A : Option Addr) (l : List UInt8) (cap k : Nat) (w : World) (hk : k ≤ 1000) (hc : l.length ≤ cap) (hc2 : cap ≤ maxLen) :
    Calls Tryd.prog 19 #[.slice A l.length cap, .int .i64 k] w fun e w' => e = .returned (.slice A (l.take k).length cap) ∧ w = w' := by
  unfold maxLen at hc2
  rw [List.length_take]
  by_cases h : k < l.length
  · go_enter Tryd.func19, Tryd.ntmps19
    go_wp2
    go_ret
    exact ⟨by rw [Nat.min_eq_left (by omega)]; rfl, rfl⟩
  · go_enter Tryd.func19, Tryd.ntmps19
    go_wp2
    go_ret
    exact ⟨by rw [Nat.min_eq_right (by omega)]; rfl, rfl⟩
theorem short_n (A : Option Addr) (l : List UInt8) (n cap k : Nat) (w : World) (hn : l.length = n) (hk : k ≤ 1000) (hc : n ≤ cap) (hc2 : cap ≤ maxLen) (X : Nat) (hX : (l.take k).length = X) (K : Int) (hK : K = (k : Int)) :
    Calls Tryd.prog 19 #[.slice A n cap, .int .i64 K] w fun e w' => e = .returned (.slice A X cap) ∧ w = w' := by
  subst hn hX hK
  exact short_any A l cap k w hk hc hc2
theorem OB.form_n {w : World} {base : Nat} {v : Value} {l : List UInt8} (h : OB w base v l) (n : Nat) (hn : l.length = n) : ∃ A cap, v = .slice A n cap ∧ n ≤ cap ∧ cap ≤ maxLen ∧ RB w w.heap.size A l := by
  subst hn
  exact h.form _ rfl
/-- owned bytes made a string -/
theorem conv_own {w : World} {base n cap : Nat} {A : Option Addr} {l : List UInt8} (h : OB w base (.slice A n cap) l) (hn : l.length = n) : (convert 22 9 (.slice A n cap)).run Tryd.prog w = .ok (.string (str l)) w := by
  subst hn
  have h' := h
  rcases h.2 with ⟨hv, h0⟩ | ⟨g, cap', cur, hv, _⟩
  · injection hv with h1 h2 h3
    subst h1 h3
    obtain rfl := List.eq_nil_of_length_eq_zero h0
    exact run_convert_bytes_nil w 22 5 Tryd.underlying22 Tryd.underlying5 0 0 9 Tryd.underlying9
  · injection hv with h1 h2 h3
    subst h1 h3
    exact conv_bytes w g 0 cap l _ h'.cells l.length rfl
/-- a slice that reads as some bytes, made a string -/
theorem conv_rb {w : World} {B : Nat} {A : Option Addr} {l : List UInt8} (h : RB w B A l) (n c : Nat) (hn : l.length = n) : (convert 22 9 (.slice A n c)).run Tryd.prog w = .ok (.string (str l)) w := by
  by_cases h0 : n = 0
  · subst h0
    obtain rfl := List.eq_nil_of_length_eq_zero hn
    rw [run_convert_bytes_string w _ _ 5 A 0 c Tryd.underlying22 Tryd.underlying5 Tryd.underlying9]
    cases A <;> simp [Conv.bytesToString, loadCells]
    all_goals rfl
  · obtain ⟨b, off, rfl, -, -⟩ := h (by omega)
    exact conv_bytes w b off c l B h n hn
theorem rb_cells (w : World) (x : List UInt8) (t : TypeId) (B : Nat) (hB : w.heap.size < B) : RB (w.alloc (.cells (x.map vb).toArray t)) B (some ⟨w.heap.size, 0, none⟩) x := fun _ =>
  ⟨w.heap.size, 0, rfl, hB, fun j hj => by simp [go_sem, hj]⟩
theorem RB.next {w w' : World} {A : Option Addr} {l : List UInt8} (h : RB w w.heap.size A l) (hb : Below w.heap.size w w') : RB w' w'.heap.size A l := (h.below hb).more hb.size
/-- Decode -/
theorem dec_any (A : Option Addr) (l : List UInt8) (n cap : Nat) (m M : Int) (w : World) (hM : (m < 0 ∧ M = 0) ∨ (0 ≤ m ∧ M = m)) (hM1 : M ≤ 9223372036854775807) (hr : RB w w.heap.size A l) (hn : l.length = n) (hc : n ≤ cap) (hm : cap ≤ maxLen) (hl : n ≤ 4096)
    (ht : ∀ t, cnt M 0 (items true l) = .ok t → t ≤ 2147483647) :
    Calls Tryd.prog 48 #[.slice A n cap, .int .i64 m] w fun e w' => UnAns (cnt M 0 (items true l)) (expand 0 (items true l)) w w' e ∧ Below w.heap.size w w' := by
  subst hn
  cases h : cnt M 0 (items true l) with
  | form => exact dec_err A l cap m M 1 w hM hM1 hr hc hm (by rw [h]; rfl) (.inl rfl)
  | full => exact dec_err A l cap m M 4 w hM hM1 hr hc hm (by rw [h]; rfl) (.inr rfl)
  | ok t => exact (dec_ok A l cap m M t w hM hM1 hr hc hm h (ht t h) hl).mono fun e w' ⟨v, h1, h2, h3⟩ => ⟨⟨v, h1, h2⟩, h3⟩
theorem enc557 : encG 0 (groups [5, 5, 7]) = [4, 5, 2, 2] := by
  have e : groups [5, 5, 7] = [(2, 5), (1, 7)] := by decide
  rw [e]
  show putN ((2 : Nat) : Int) ++ (5 ^^^ 0) :: (putN ((1 : Nat) : Int) ++ (7 ^^^ 5) :: []) = _
  rw [putN_small 2 (by omega), putN_small 1 (by omega)]
  decide
theorem dec2 : cnt 9 0 (items true [2]) = .form := by
  rw [items_bad (by decide) (stepR_stop (u := 2) (k := 1) true rfl (by decide))]
  exact cnt_form _ _ _ _ rfl
end Go.Proofs.YtjbieehehgjnmaaDoor
