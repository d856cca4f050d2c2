/- MEMORY: rows of rows of bytes: read, and made by the program. -/
import Derived.Test.YtomiligjcpmnjaaTg
import Derived.Test.YtomiligjcpmnjaaXe
import Derived.Test.YtomiligjcpmnjaaFr
namespace Go.Proofs.Ytomiligjcpmnjaa
set_option maxRecDepth 100000
open Go.RowKit
set_option linter.unusedVariables false
set_option linter.unusedSimpArgs false

/-- a slice value at A reads as the rows ms -/
def RR (w : World) (B : Nat) (A : Option Addr) (ms : List (List UInt8)) : Prop :=
  ∀ j l, ms[j]? = some l → ∃ g a c, A = some ⟨g, 0, none⟩ ∧ g < B ∧ w.cell? ⟨g, j, none⟩ = some (.slice a l.length c) ∧ RB w B a l
theorem RR.nil (w : World) (B : Nat) (A : Option Addr) : RR w B A [] := fun j l h => by simp at h
theorem RR.below {w w' : World} {B : Nat} {A : Option Addr} {ms : List (List UInt8)} (h : RR w B A ms) (hb : Below B w w') : RR w' B A ms := fun j l hj => by
  obtain ⟨g, a, c, e, hg, hc, hr⟩ := h j l hj
  exact ⟨g, a, c, e, hg, (hb.cell (p := ⟨g, j, none⟩) hg).trans hc, hr.below hb⟩
theorem RR.more {w : World} {B B' : Nat} {A : Option Addr} {ms : List (List UInt8)} (h : RR w B A ms) (hB : B ≤ B') : RR w B' A ms := fun j l hj => by
  obtain ⟨g, a, c, e, hg, hc, hr⟩ := h j l hj
  exact ⟨g, a, c, e, by omega, hc, hr.more hB⟩
theorem RR.then_ {w w' : World} {B : Nat} {A : Option Addr} {ms : List (List UInt8)} (h : RR w B A ms) (hB : B ≤ w.heap.size) (hb : Below w.heap.size w w') : RR w' w'.heap.size A ms := (h.below (hb.mono hB)).more (Nat.le_trans hB hb.size)

theorem bs_info : (Try.prog.info? 23).map (fun i => (i.zero, i.size, i.bytes)) = some (some (.slice none 0 0), 1, 24) := by kernel_rfl
def madeS (k : Nat) : Obj := .cells (madeCells #[.slice none 0 0] k) 23
theorem make_s (k : Nat) (hk : k ≤ 1000) (W : World) : (Instr.makeSlice 37 (.int .i64 (k : Int)) (.int .i64 (k : Int))).run Try.prog W = .ok (.slice (some ⟨W.heap.size, 0, none⟩) k k) (W.alloc (madeS k)) :=
  run_make_row' 37 23 (.slice none 0 0) 24 Try.underlying37 bs_info rfl .i64 .i64 k (by omega) (by omega) W
/-- the row's cells, made up to k -/
def rowF (G n k : Nat) (i : Nat) : Value := if i < k then .slice (some ⟨G + 1 + i, 0, none⟩) n n else .slice none 0 0
/-- the program's rows: k of T made, each of n bytes, in blocks behind one another -/
structure FR (w : World) (G T n k : Nat) (F : Nat → Nat → UInt8) : Prop where
  row : w.rowIs G 23 T (rowF G n k)
  each : ∀ i, i < k → w.rowIs (G + 1 + i) 5 n (fun p => vb (F i p))
section
variable {w w' : World} {G T n k : Nat} {F F' : Nat → Nat → UInt8}
theorem FR.lt (h : FR w G T n k F) : G < w.heap.size := World.rowIs.lt h.row
theorem FR.lt_row (h : FR w G T n k F) {i : Nat} (hi : i < k) : G + 1 + i < w.heap.size := World.rowIs.lt (h.each i hi)
theorem FR.congr (h : FR w G T n k F) (e : ∀ i p, i < k → p < n → F i p = F' i p) : FR w G T n k F' := ⟨h.row, fun i hi => (h.each i hi).congr fun p hp => by rw [e i p hi hp]⟩
theorem FR.belows (h : FR w G T n k F) (hb : Below w.heap.size w w') : FR w' G T n k F :=
  ⟨World.rowIs.of_block h.row (hb.block _ h.lt), fun i hi => World.rowIs.of_block (h.each i hi) (hb.block _ (h.lt_row hi))⟩
/-- kept behind a write to a row that lies behind all of it -/
theorem FR.grown (h : FR w G T n k F) {row : Option Nat} (hg : w.grownBy w' row) (hr : ∀ j, row = some j → G + k < j) : FR w' G T n k F :=
  ⟨World.rowIs.of_block h.row (hg.block _ h.lt (fun e => by have := hr _ e.symm; omega)), fun i hi => World.rowIs.of_block (h.each i hi) (hg.block _ (h.lt_row hi) (fun e => by have := hr _ e.symm; omega))⟩
/-- a press put in -/
def putF (F : Nat → Nat → UInt8) (i p : Nat) (x : UInt8) : Nat → Nat → UInt8 := fun a b => if a = i ∧ b = p then x else F a b
theorem FR.put (h : FR w G T n k F) (i p : Nat) (hi : i < k) (x : UInt8) : FR (w.setCell ⟨G + 1 + i, p, none⟩ (vb x)) G T n k (putF F i p x) := by
  refine ⟨World.rowIs.setOther h.row (by show G ≠ G + 1 + i; omega) _, fun a ha => ?_⟩
  by_cases e : a = i
  · subst e
    refine (World.rowIs.set (h.each a ha) p (vb x)).congr fun b _ => ?_
    unfold putF
    by_cases c : b = p
    · rw [if_pos c, if_pos ⟨rfl, c⟩]
    · rw [if_neg c, if_neg (fun z => c z.2)]
  · refine (World.rowIs.setOther (h.each a ha) (by show G + 1 + a ≠ G + 1 + i; omega) _).congr fun b _ => ?_
    unfold putF
    rw [if_neg (fun z => e z.1)]
theorem FR.cell (h : FR w G T n k F) (i : Nat) (hi : i < k) (hT : i < T) : w.cell? ⟨G, i, none⟩ = some (.slice (some ⟨G + 1 + i, 0, none⟩) n n) := by
  rw [World.rowIs.cell h.row hT]; unfold rowF; rw [if_pos hi]
theorem FR.byte (h : FR w G T n k F) (i p : Nat) (hi : i < k) (hp : p < n) : w.cell? ⟨G + 1 + i, p, none⟩ = some (vb (F i p)) := World.rowIs.cell (h.each i hi) hp
theorem FR.frozen (h : FR w G T n k F) (i p : Nat) (hi : i < k) : w.frozen? ⟨G + 1 + i, p, none⟩ = false := World.rowIs.frozen (h.each i hi) p
theorem FR.start (w : World) (T n : Nat) : FR (w.alloc (madeS T)) w.heap.size T n 0 (fun _ _ => 0) :=
  ⟨(World.rowIs_made w (.slice none 0 0) T 23).congr fun i _ => by unfold rowF; rw [if_neg (by omega)], fun i hi => by omega⟩
/-- a row more -/
theorem FR.more (h : FR w G T n k (fun _ _ => 0)) (hk : k < T) (hn : n ≤ 3000) (hs : w.heap.size = G + 1 + k) : FR ((w.alloc (madeB n)).setCell ⟨G, k, none⟩ (.slice (some ⟨G + 1 + k, 0, none⟩) n n)) G T n (k + 1) (fun _ _ => 0) := by
  have h1 := h.belows ((Below.refl w.heap.size w).alloc (Nat.le_refl _) (madeB n))
  refine ⟨(World.rowIs.set h1.row k _).congr fun i _ => ?_, fun i hi => ?_⟩
  · unfold rowF
    by_cases e : i = k
    · rw [if_pos e, if_pos (by omega), e]
    · rw [if_neg e]
      by_cases c : i < k
      · rw [if_pos c, if_pos (by omega)]
      · rw [if_neg c, if_neg (by omega)]
  · refine World.rowIs.setOther ?_ (by show G + 1 + i ≠ G; omega) _
    by_cases c : i < k
    · exact h1.each i c
    · obtain rfl : i = k := by omega
      have h2 := World.rowIs_made w (.int .u8 0) n 5
      rw [hs] at h2
      exact h2.congr fun p _ => rfl
/-- what a caller reads -/
theorem FR.reads (h : FR w G T n T F) : RR w w.heap.size (some ⟨G, 0, none⟩) ((List.range T).map fun i => (List.range n).map (F i)) := fun j l hj => by
  rw [List.getElem?_map] at hj
  have hjT : j < T := by
    rcases Nat.lt_or_ge j T with c | c
    · exact c
    · rw [List.getElem?_eq_none (by simp; omega)] at hj; cases hj
  rw [List.getElem?_range hjT] at hj
  obtain rfl := Option.some.inj hj
  refine ⟨G, some ⟨G + 1 + j, 0, none⟩, n, rfl, h.lt, by rw [h.cell j hjT hjT]; simp, fun h0 => ⟨G + 1 + j, 0, rfl, h.lt_row hjT, fun p hp => ?_⟩⟩
  have hp2 : p < n := by simpa using hp
  rw [Nat.zero_add, h.byte j p hjT hp2]
  simp
end
/-- rows loaded -/
theorem RR.at {w : World} {B : Nat} {A : Option Addr} {ms : List (List UInt8)} (h : RR w B A ms) (j : Nat) (l : List UInt8) (hj : ms[j]? = some l) (L : Nat) (hL : l.length = L) : ∃ g a c, A = some ⟨g, 0, none⟩ ∧ w.cell? ⟨g, j, none⟩ = some (.slice a L c) ∧ RB w B a l := by
  obtain ⟨g, a, c, e, _, hc, hr⟩ := h j l hj
  subst hL
  exact ⟨g, a, c, e, hc, hr⟩
end Go.Proofs.Ytomiligjcpmnjaa
