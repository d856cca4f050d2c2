/- MEMORY: bytes made a string, owned bytes under new names, a made row of zeros. Of every seat that has []uint8 and string. -/
import Derived.Test.YtclgcfofgiejgaaDoorKc
import Derived.Test.YtclgcfofgiejgaaDoorKd
import Derived.Deep.OwnRows
import Derived.Great.BuildSlice
import Derived.Laws.BytesString
namespace Go.Proofs.YtclgcfofgiejgaaDoor
set_option maxRecDepth 100000
open Go.RowKit
set_option linter.unusedVariables false
set_option linter.unusedSimpArgs false

theorem conv_rb {w : World} {B : Nat} {A : Option Addr} {l : List UInt8} (h : RB w B A l) (n c : Nat) (hn : l.length = n) : (convert 29 9 (.slice A n c)).run Tryd.prog w = .ok (.string (str l)) w := by
  by_cases h0 : n = 0
  · subst h0
    obtain rfl := List.eq_nil_of_length_eq_zero hn
    rw [run_convert_bytes_string w _ _ 5 A 0 c Tryd.underlying29 Tryd.underlying5 Tryd.underlying9]
    cases A <;> simp [Conv.bytesToString, loadCells]
    all_goals rfl
  · obtain ⟨b, off, rfl, -, -⟩ := h (by omega)
    exact conv_bytes w b off c l B h n hn
theorem OB.form_n {w : World} {base : Nat} {v : Value} {l : List UInt8} (h : OB w base v l) (n : Nat) (hn : l.length = n) : ∃ A cap, v = .slice A n cap ∧ n ≤ cap ∧ cap ≤ maxLen ∧ RB w w.heap.size A l := by
  subst hn
  exact h.form _ rfl
theorem rb_cells (w : World) (x : List UInt8) (t : TypeId) (B : Nat) (hB : w.heap.size < B) : RB (w.alloc (.cells (x.map vb).toArray t)) B (some ⟨w.heap.size, 0, none⟩) x := fun _ =>
  ⟨w.heap.size, 0, rfl, hB, fun j hj => by simp [go_sem, hj]⟩
/-- what make lays for k bytes -/
def madeB (k : Nat) : Obj := .cells (madeCells #[.int .u8 0] k) 5
theorem make_b (k : Nat) (hk : k ≤ 3000) (W : World) : (Instr.makeSlice 29 (.int .i64 (k : Int)) (.int .i64 (k : Int))).run Tryd.prog W = .ok (.slice (some ⟨W.heap.size, 0, none⟩) k k) (W.alloc (madeB k)) :=
  run_make_row' 29 5 (.int .u8 0) 1 Tryd.underlying29 byte_info rfl .i64 .i64 k (by omega) (by omega) W
theorem ob_made (W : World) (k : Nat) (hk : k ≤ 3000) : OB (W.alloc (madeB k)) W.heap.size (.slice (some ⟨W.heap.size, 0, none⟩) k k) (List.replicate k 0) := by
  have h := World.ownsRow_lit (e := 5) (size := 1) (base := W.heap.size) W (madeCells #[.int .u8 0] k) k (Nat.le_refl _) (by unfold maxLen; omega) (by rw [size_madeCells, Nat.mul_one])
  unfold OB
  rw [List.length_replicate, List.map_replicate]
  have e : (madeCells #[Value.int .u8 0] k).toList = List.replicate k (.int .u8 0) := toList_madeCells_one _ _
  rw [e] at h
  exact h
theorem conv_own {w : World} {base n cap : Nat} {A : Option Addr} {l : List UInt8} (h : OB w base (.slice A n cap) l) (hn : l.length = n) : (convert 29 9 (.slice A n cap)).run Tryd.prog w = .ok (.string (str l)) w := by
  subst hn
  have h' := h
  rcases h.2 with ⟨hv, h0⟩ | ⟨g, cap', cur, hv, _⟩
  · injection hv with h1 h2 h3
    subst h1 h3
    obtain rfl := List.eq_nil_of_length_eq_zero h0
    exact run_convert_bytes_nil w 29 5 Tryd.underlying29 Tryd.underlying5 0 0 9 Tryd.underlying9
  · injection hv with h1 h2 h3
    subst h1 h3
    exact conv_bytes w g 0 cap l _ h'.cells l.length rfl
theorem wp_one {w : World} {o : Oper} {a : Act} {K : Act → World → Prop} {Q : Exit → Act → World → Prop} (x : Operand)
    (ho : o.op = .buildSlice 29 1 #[(0, x)]) (y : Int) (c : UInt8) (hx : a.eval x = .int .u8 y) (hc : (c.toNat : Int) = y)
    (h : ∀ w', OB w' w.heap.size (.slice (some ⟨w.heap.size, 0, none⟩) 1 1) [c] → Below w.heap.size w w' → w.heap.size < w'.heap.size → K (a.put o.dst (.slice (some ⟨w.heap.size, 0, none⟩) 1 1)) w') : o.wp Tryd.prog a w K Q := by
  obtain ⟨i0, hi0, hz0, hz1, hz2⟩ := info_parts byte_info
  refine wp_buildSlice 29 5 1 #[(0, x)] ho #[.int .u8 y] i0 (.int .u8 0) Tryd.underlying29 hi0 hz0 (by rw [hz1]; decide) (by rw [hz1]; decide) ?_ (h _ ?_ ((Below.refl _ _).alloc (Nat.le_refl _) _) (by rw [World.size_alloc]; omega))
  · simp [hx, hz1, Instr.fill]
    exact ⟨⟨rfl, Nat.le_refl 1⟩, by kernel_rfl⟩
  · have h1 := World.ownsRow_lit (e := 5) (size := 1) (base := w.heap.size) w #[.int .u8 y] 1 (Nat.le_refl _) (by unfold maxLen; omega) rfl
    rw [← hc] at h1 ⊢
    exact h1
theorem not_row {b N : Nat} {v : Value} (h : ∀ k, v.ownBlock = some k → N ≤ k) (hb : b < N) : some b ≠ v.ownBlock := fun e => by have := h b e.symm; omega
abbrev pB (b : Nat) : Value := .pointer (some ⟨b, 0, none⟩)
theorem OB.empty (w : World) : OB (w.alloc (.cells #[] 5)) w.heap.size (.slice (some ⟨w.heap.size, 0, none⟩) 0 0) [] :=
  ⟨by simp, .inr ⟨w.heap.size, 0, _, rfl, Nat.le_refl _, heap_alloc_new w _, Nat.le_refl _, by unfold maxLen; omega, by rfl, by rfl⟩⟩
theorem below_own {w0 w w' : World} {b : Nat} (h : Below w0.heap.size w0 w) (hg : w.grownBy w' (some b)) (hb : w0.heap.size ≤ b) : Below w0.heap.size w0 w' := h.grown hg h.size (fun k e => by cases e; exact hb)
theorem ownsRow_same {w w' : World} {base : Nat} {e : TypeId} {size n : Nat} {v : Value} {xs : List Value} (h : w.ownsRow base e size v n xs) (hs : ∀ k, v.ownBlock = some k → w'.heap[k]? = w.heap[k]?) : w'.ownsRow base e size v n xs := by
  refine ⟨h.1, ?_⟩
  rcases h.2 with h0 | ⟨g, cap, cur, rfl, h1, h2, h3⟩
  · exact .inl h0
  · exact .inr ⟨g, cap, cur, rfl, h1, (hs g rfl).trans h2, h3⟩
theorem OB.same {w w' : World} {base : Nat} {v : Value} {l : List UInt8} (h : OB w base v l) (hs : ∀ k, v.ownBlock = some k → w'.heap[k]? = w.heap[k]?) : OB w' base v l := ownsRow_same h hs
theorem OB.lt {w : World} {base : Nat} {v : Value} {l : List UInt8} (h : OB w base v l) (k : Nat) (hk : v.ownBlock = some k) : base ≤ k ∧ k < w.heap.size := World.ownsRow.lt h k hk
end Go.Proofs.YtclgcfofgiejgaaDoor
