/- MEMORY: bytes made a string, owned bytes under new names, a made row of zeros. Of every seat that has []uint8 and string. -/
import Derived.Test.YtomiligjcpmnjaaKc
import Derived.Test.YtomiligjcpmnjaaKd
import Derived.Deep.OwnRows
namespace Go.Proofs.Ytomiligjcpmnjaa
set_option maxRecDepth 100000
open Go.RowKit
set_option linter.unusedVariables false
set_option linter.unusedSimpArgs false

theorem conv_rb {w : World} {B : Nat} {A : Option Addr} {l : List UInt8} (h : RB w B A l) (n c : Nat) (hn : l.length = n) : (convert 23 9 (.slice A n c)).run Try.prog w = .ok (.string (str l)) w := by
  by_cases h0 : n = 0
  · subst h0
    obtain rfl := List.eq_nil_of_length_eq_zero hn
    rw [run_convert_bytes_string w _ _ 5 A 0 c Try.underlying23 Try.underlying5 Try.underlying9]
    cases A <;> simp [Conv.bytesToString, loadCells]
    all_goals rfl
  · obtain ⟨b, off, rfl, -, -⟩ := h (by omega)
    exact conv_bytes w b off c l B h n hn
theorem OB.form_n {w : World} {base : Nat} {v : Value} {l : List UInt8} (h : OB w base v l) (n : Nat) (hn : l.length = n) : ∃ A cap, v = .slice A n cap ∧ n ≤ cap ∧ cap ≤ maxLen ∧ RB w w.heap.size A l := by
  subst hn
  exact h.form _ rfl
theorem rb_cells (w : World) (x : List UInt8) (t : TypeId) (B : Nat) (hB : w.heap.size < B) : RB (w.alloc (.cells (x.map vb).toArray t)) B (some ⟨w.heap.size, 0, none⟩) x := fun _ =>
  ⟨w.heap.size, 0, rfl, hB, fun j hj => by simp [go_sem, hj]⟩
/-- what make lays for k bytes -/
def madeB (k : Nat) : Obj := .cells (madeCells #[.int .u8 0] k) 5
theorem make_b (k : Nat) (hk : k ≤ 3000) (W : World) : (Instr.makeSlice 23 (.int .i64 (k : Int)) (.int .i64 (k : Int))).run Try.prog W = .ok (.slice (some ⟨W.heap.size, 0, none⟩) k k) (W.alloc (madeB k)) :=
  run_make_row' 23 5 (.int .u8 0) 1 Try.underlying23 byte_info rfl .i64 .i64 k (by omega) (by omega) W
theorem ob_made (W : World) (k : Nat) (hk : k ≤ 3000) : OB (W.alloc (madeB k)) W.heap.size (.slice (some ⟨W.heap.size, 0, none⟩) k k) (List.replicate k 0) := by
  have h := World.ownsRow_lit (e := 5) (size := 1) (base := W.heap.size) W (madeCells #[.int .u8 0] k) k (Nat.le_refl _) (by unfold maxLen; omega) (by rw [size_madeCells, Nat.mul_one])
  unfold OB
  rw [List.length_replicate, List.map_replicate]
  have e : (madeCells #[Value.int .u8 0] k).toList = List.replicate k (.int .u8 0) := toList_madeCells_one _ _
  rw [e] at h
  exact h
end Go.Proofs.Ytomiligjcpmnjaa
