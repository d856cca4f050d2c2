/- MEMORY: a line of presses: a block that holds how many are known and a thousand bytes. Package input: New, Len, At. -/
import Derived.Test.YtomiligjcpmnjaaKc
import Derived.Test.YtomiligjcpmnjaaKd
import Derived.Test.YtomiligjcpmnjaaKb
import Derived.Deep.OwnRows
import Derived.Great.Ranges
import Derived.Great.BuildSlice
import Derived.Laws.CopyRow
import Derived.Laws.IdiomCopy
import Derived.WalkSmall
namespace Go.Proofs.Ytomiligjcpmnjaa
set_option maxRecDepth 100000
open Go.RowKit
set_option linter.unusedVariables false
set_option linter.unusedSimpArgs false

/-- a line's cells: how many, and its bytes, noughts behind -/
def lmF (n : Int) (l : List UInt8) (i : Nat) : Value := if i = 0 then .int .i64 n else vb ((l[i - 1]?).getD 0)
/-- block b: n, and the bytes l -/
def LM (w : World) (b : Nat) (n : Int) (l : List UInt8) : Prop := w.rowIs b 69 1001 (lmF n l)
theorem LM.lt {w : World} {b : Nat} {n : Int} {l : List UInt8} (h : LM w b n l) : b < w.heap.size := World.rowIs.lt h
theorem LM.known {w : World} {b : Nat} {n : Int} {l : List UInt8} (h : LM w b n l) : w.cell? ⟨b, 0, none⟩ = some (.int .i64 n) := World.rowIs.cell h (i := 0) (by omega)
theorem LM.byte {w : World} {b : Nat} {n : Int} {l : List UInt8} (h : LM w b n l) (j : Nat) (hj : j < l.length) (h1 : l.length ≤ 1000) : w.cell? ⟨b, 1 + j, none⟩ = some (vb l[j]) := by
  have := World.rowIs.cell h (i := 1 + j) (by omega)
  rw [this]
  unfold lmF
  rw [if_neg (by omega), show 1 + j - 1 = j by omega, List.getElem?_eq_getElem hj]; rfl
theorem LM.frozen {w : World} {b : Nat} {n : Int} {l : List UInt8} (h : LM w b n l) (i : Nat) : w.frozen? ⟨b, i, none⟩ = false := World.rowIs.frozen h i
theorem LM.below {w w' : World} {b B : Nat} {n : Int} {l : List UInt8} (h : LM w b n l) (hb : Below B w w') (hB : b < B) : LM w' b n l := World.rowIs.of_block h (hb.block b hB)
theorem LM.then_ {w w' : World} {b : Nat} {n : Int} {l : List UInt8} (h : LM w b n l) (hb : Below w.heap.size w w') : LM w' b n l := h.below hb h.lt
theorem LM.grown {w w' : World} {b : Nat} {row : Option Nat} {n : Int} {l : List UInt8} (h : LM w b n l) (hg : w.grownBy w' row) (hr : some b ≠ row) : LM w' b n l := World.rowIs.of_block h (hg.block b h.lt hr)
theorem LM.alloc {w : World} {b : Nat} {n : Int} {l : List UInt8} (h : LM w b n l) (o : Obj) : LM (w.alloc o) b n l := World.rowIs.alloc h o
theorem LM.drew {w : World} {b : Nat} {n : Int} {l : List UInt8} (h : LM w b n l) : LM w.drew b n l := h
theorem LM.other {w : World} {b : Nat} {n : Int} {l : List UInt8} (h : LM w b n l) (a : Addr) (v : Value) (hne : b ≠ a.block) : LM (w.setCell a v) b n l := World.rowIs.setOther h hne v
theorem LM.setKnown {w : World} {b : Nat} {n : Int} {l : List UInt8} (h : LM w b n l) (m : Int) : LM (w.setCell ⟨b, 0, none⟩ (.int .i64 m)) b m l := by
  refine (World.rowIs.set h 0 (.int .i64 m)).congr (fun i _ => ?_)
  unfold lmF
  by_cases e : i = 0
  · rw [if_pos e, if_pos e]
  · rw [if_neg e, if_neg e, if_neg e]
theorem LM.reads {w : World} {b : Nat} {n : Int} {l : List UInt8} (h : LM w b n l) (h1 : l.length ≤ 1000) (f : Nat) (m : Nat) (B : Nat) (hB : b < B) : RB w B (some ⟨b, 1 + f, none⟩) ((l.drop f).take m) := fun h0 => by
  refine ⟨b, 1 + f, rfl, hB, fun j hj => ?_⟩
  have hj2 : f + j < l.length := by rw [List.length_take, List.length_drop] at hj; omega
  rw [Nat.add_assoc, h.byte (f + j) hj2 h1, List.getElem_take, List.getElem_drop]
theorem lmA_get (n : Int) (z : Nat) (hz : z ≤ 1000) (i : Nat) (hi : i < (Array.mk (.int .i64 n :: List.replicate 1000 (.int .u8 0)) : Array Value).size) : (Array.mk (.int .i64 n :: List.replicate 1000 (.int .u8 0)) : Array Value)[i]? = some (lmF n (List.replicate z 0) i) := by
  simp only [List.size_toArray, List.length_cons, List.length_replicate] at hi
  unfold lmF
  rw [List.getElem?_toArray]
  by_cases e : i = 0
  · subst e; rfl
  · obtain ⟨k, rfl⟩ : ∃ k, i = k + 1 := ⟨i - 1, by omega⟩
    rw [if_neg e, List.getElem?_cons_succ, List.getElem?_replicate, if_pos (by omega), Nat.add_sub_cancel, List.getElem?_replicate]
    by_cases e2 : k < z
    · rw [if_pos e2]; rfl
    · rw [if_neg e2]; rfl
theorem LM.new (w : World) (n : Int) (z : Nat) (hz : z ≤ 1000) : LM (w.alloc (.cells (Array.mk (.int .i64 n :: List.replicate 1000 (.int .u8 0))) 69)) w.heap.size n (List.replicate z 0) := by
  have h := World.rowIs_alloc w (Array.mk (.int .i64 n :: List.replicate 1000 (.int .u8 0))) 69 (lmF n (List.replicate z 0)) (lmA_get n z hz)
  have e : (Array.mk (.int .i64 n :: List.replicate 1000 (.int .u8 0)) : Array Value).size = 1001 := by simp
  rw [e] at h
  exact h

theorem built0 : Try.prog.built 69 [(0, .int .i64 0)] = some (Array.mk (.int .i64 0 :: List.replicate 1000 (.int .u8 0))) := by kernel_rfl
theorem built1 : Try.prog.built 69 [(0, .int .i64 1)] = some (Array.mk (.int .i64 1 :: List.replicate 1000 (.int .u8 0))) := by kernel_rfl
end Go.Proofs.Ytomiligjcpmnjaa
