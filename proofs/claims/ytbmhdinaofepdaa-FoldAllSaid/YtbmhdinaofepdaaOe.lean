/- THE WALK of readOps. -/
import Derived.Test.YtbmhdinaofepdaaOd
import Derived.Laws.MakeOwn
namespace Go.Proofs.Ytbmhdinaofepdaa
open Go.RowKit
set_option linter.unusedVariables false

theorem op_info : (Try.prog.info? 46).map (fun i => (i.zero, i.size, i.bytes)) = some (some (opV zeroO), 4, 32) := by kernel_rfl
/-- the cells of a row of operations -/
def opsF (os : List O4) (i : Nat) : Value := match os[i / 4]? with
  | some o => opF o (i % 4)
  | none => .int .i64 0
theorem opsF_nil (i : Nat) : opsF [] i = .int .i64 0 := rfl
theorem opsF_at (os : List O4) (j c : Nat) (h : j < os.length) (hc : c < 4) : opsF os (j * 4 + c) = opF os[j] c := by
  unfold opsF
  rw [show (j * 4 + c) / 4 = j by omega, show (j * 4 + c) % 4 = c by omega, List.getElem?_eq_getElem h]
theorem opsF_snoc (os : List O4) (o : O4) (i : Nat) : opsF (os ++ [o]) i = if i / 4 = os.length then opF o (i % 4) else opsF os i := by
  unfold opsF
  by_cases h : i / 4 = os.length
  · rw [if_pos h, h, List.getElem?_append_right (Nat.le_refl _)]; simp
  · rw [if_neg h]
    by_cases h2 : i / 4 < os.length
    · rw [List.getElem?_append_left h2]
    · rw [List.getElem?_eq_none (by rw [List.length_append]; simp; omega), List.getElem?_eq_none (by omega)]
def OpRow (w : World) (g n : Nat) (os : List O4) : Prop := w.rowIs g 46 (n * 4) (opsF os)
theorem OpRow.reads {w : World} {g n : Nat} {os : List O4} (h : OpRow w g n os) (hn : os.length ≤ n) (B : Nat) (hB : g < B) : RO w B (some ⟨g, 0, none⟩) os := fun _ => by
  refine ⟨g, 0, rfl, hB, fun j hj => ?_⟩
  have e : ∀ c, c < 4 → w.cell? ⟨g, 0 + j * 4 + c, none⟩ = some (opF os[j] c) := fun c hc => by
    rw [Nat.zero_add, World.rowIs.cell h (i := j * 4 + c) (by omega), opsF_at os j c hj hc]
  exact ⟨e 0 (by omega), e 1 (by omega), e 2 (by omega), e 3 (by omega)⟩
theorem OpRow.put {w : World} {g n : Nat} {os : List O4} (h : OpRow w g n os) (o : O4) (k : Nat) (hk : k = os.length) :
    OpRow ((((w.setCell ⟨g, k * 4, none⟩ (.int .i64 o.k)).setCell ⟨g, k * 4 + 1, none⟩ (.int .i64 o.a)).setCell ⟨g, k * 4 + 2, none⟩ (.int .i64 o.b)).setCell ⟨g, k * 4 + 3, none⟩ (.int .i64 o.c)) g n (os ++ [o]) := by
  subst hk
  refine ((((World.rowIs.set h (os.length * 4) (.int .i64 o.k)).set (os.length * 4 + 1) (.int .i64 o.a)).set (os.length * 4 + 2) (.int .i64 o.b)).set (os.length * 4 + 3) (.int .i64 o.c)).congr (fun i _ => ?_)
  rw [opsF_snoc]
  by_cases hq : i / 4 = os.length
  · rw [if_pos hq]
    obtain h0 | h0 | h0 | h0 : i = os.length * 4 ∨ i = os.length * 4 + 1 ∨ i = os.length * 4 + 2 ∨ i = os.length * 4 + 3 := by omega
    all_goals
      subst h0
      simp
    · rfl
    · rfl
    · rfl
    · rfl
  · rw [if_neg hq, if_neg (by omega), if_neg (by omega), if_neg (by omega), if_neg (by omega)]
theorem run_make_rowN {P : Program} (t e : TypeId) (i : TypeInfo) (z : Value) (ht : P.underlying t = some (.slice e)) (hi : P.info? e = some i) (hz : i.zero = some z)
    (kl kc : IntKind) (n c : Nat) (hnc : n ≤ c) (hbytes : i.bytes * c ≤ 281474976710656) (h63 : c ≤ 9223372036854775807) (w : World) :
    (Instr.makeSlice t (.int kl (n : Int)) (.int kc (c : Int))).run P w = .ok (.slice (some ⟨w.heap.size, 0, none⟩) n c) (w.alloc (.cells (madeCells z.cells (c * i.size)) e)) := by
  have hb : (i.bytes : Int) * (c : Int) ≤ 281474976710656 := by
    have h : ((i.bytes * c : Nat) : Int) ≤ 281474976710656 := by omega
    rwa [Int.natCast_mul] at h
  have hr := run_make (P := P) w t e i z ht hi hz kl kc n c (by omega) (by omega) hb (by omega)
  simp only [Int.toNat_natCast] at hr
  exact hr
def madeOps (n : Nat) : Obj := .cells (madeCells (opV zeroO).cells (n * 4)) 46
theorem make_ops (n : Nat) (hn : n ≤ 65536) (w : World) : (Instr.makeSlice 22 (.int .i64 (n : Int)) (.int .i64 (n : Int))).run Try.prog w = .ok (.slice (some ⟨w.heap.size, 0, none⟩) n n) (w.alloc (madeOps n)) := by
  obtain ⟨i0, hi0, hz0, hz1, hz2⟩ := info_parts op_info
  have h := run_make_rowN (P := Try.prog) 22 46 i0 (opV zeroO) Try.underlying22 hi0 hz0 .i64 .i64 n n (Nat.le_refl _) (by rw [hz2]; omega) (by omega) w
  rw [hz1] at h
  exact h
theorem made_ops (w : World) (n : Nat) : OpRow (w.alloc (madeOps n)) w.heap.size n [] := by
  refine ⟨_, heap_alloc_new w (madeOps n), size_madeCells _ _, fun i hi => ?_⟩
  have h4 : i % 4 < 4 := by omega
  have e : (opV zeroO).cells = #[.int .i64 0, .int .i64 0, .int .i64 0, .int .i64 0] := rfl
  rw [e, opsF_nil]
  unfold madeCells
  rw [Array.getElem?_map, Array.getElem?_range, if_pos hi]
  simp only [Option.map_some, Option.some.injEq]
  obtain h0 | h0 | h0 | h0 : i % 4 = 0 ∨ i % 4 = 1 ∨ i % 4 = 2 ∨ i % 4 = 3 := by omega
  all_goals
    show (#[Value.int .i64 0, .int .i64 0, .int .i64 0, .int .i64 0] : Array Value)[i % 4]! = _
    rw [h0]; rfl

/-- readOps' answer -/
def ReadOps (l : List UInt8) (w : World) (e : Ending) (w' : World) : Prop := match rowsN l with
  | none => (∃ A n c, e = .returned (.tuple #[.slice A n c, .bool false])) ∧ Below w.heap.size w w'
  | some os => ∃ g, e = .returned (.tuple #[.slice (some ⟨g, 0, none⟩) os.length os.length, .bool true]) ∧ w.heap.size ≤ g ∧ OpRow w' g os.length os ∧ Below w.heap.size w w'
theorem ReadOps.no {l : List UInt8} {w w' : World} {A : Option Addr} {n c : Nat} (h : rowsN l = none) (hb : Below w.heap.size w w') : ReadOps l w (.returned (.tuple #[.slice A n c, .bool false])) w' := by
  unfold ReadOps; rw [h]; exact ⟨⟨A, n, c, rfl⟩, hb⟩
theorem rowsN_none {l : List UInt8} (h : numN l = none) : rowsN l = none := by unfold rowsN; rw [h]
theorem rowsN_bad {l r : List UInt8} {m : Int} (h : numN l = some (m, r)) (hm : m < 1 ∨ 64 < m) : rowsN l = none := by unfold rowsN; rw [h]; simp only; rw [if_pos hm]
theorem rowsN_stop {l r : List UInt8} {m : Nat} (h : numN l = some ((m : Int), r)) (h1 : 1 ≤ m) (h2 : m ≤ 64) (h3 : opsN m r = none) : rowsN l = none := by
  unfold rowsN; rw [h]; simp only; rw [if_neg (by omega), Int.toNat_natCast, h3]
theorem rowsN_end {l r r' : List UInt8} {m : Nat} {os : List O4} (h : numN l = some ((m : Int), r)) (h1 : 1 ≤ m) (h2 : m ≤ 64) (h3 : opsN m r = some (os, r')) : rowsN l = if r' = [] then some os else none := by
  unfold rowsN; rw [h]; simp only; rw [if_neg (by omega), Int.toNat_natCast, h3]
  cases r' with
  | nil => rfl
  | cons a b => rfl
end Go.Proofs.Ytbmhdinaofepdaa
