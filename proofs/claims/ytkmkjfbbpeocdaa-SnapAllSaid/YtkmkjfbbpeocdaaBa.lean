/- PAGES: a page of numbers as a record, plain; rows of pages in memory. -/
import Derived.Test.YtkmkjfbbpeocdaaGa
import Derived.Test.YtkmkjfbbpeocdaaKr
import Derived.Laws.MakeOwn
import Derived.Deep.OwnRows
import Derived.OwnWalk
namespace Go.Proofs.Ytkmkjfbbpeocdaa
set_option maxRecDepth 100000
open Go.RowKit
set_option linter.unusedVariables false

/-- a page: how often it is held, its numbers (the first eight count) -/
structure Sh where
  r : Int
  on : Nat → Int
def shv (s : Sh) (c : Nat) : Value := if c = 0 then .int .i64 s.r else .int .i32 (s.on (c - 1))
/-- numbers' cells -/
def onL (f : Nat → Int) : List Value := [.int .i32 (f 0), .int .i32 (f 1), .int .i32 (f 2), .int .i32 (f 3), .int .i32 (f 4), .int .i32 (f 5), .int .i32 (f 6), .int .i32 (f 7)]
/-- a page's cells -/
def shL (s : Sh) : List Value := .int .i64 s.r :: onL s.on
def shA (s : Sh) : Array Value := (shL s).toArray
def onA (f : Nat → Int) : Array Value := (onL f).toArray
def zN : Nat → Int := fun _ => 0
def zS : Sh := ⟨0, zN⟩
def shPut (f : Nat → Int) (i : Nat) (v : Int) : Nat → Int := fun j => if j = i then v else f j
def shAt (l : List Sh) (k : Nat) : Sh := (l[k]?).getD zS
theorem shAt_lt {l : List Sh} {k : Nat} (h : k < l.length) : l[k]? = some (shAt l k) := by
  unfold shAt; rw [List.getElem?_eq_getElem h]; rfl
theorem shAt_ge {l : List Sh} {k : Nat} (h : l.length ≤ k) : shAt l k = zS := by
  unfold shAt; rw [List.getElem?_eq_none h]; rfl
theorem shAt_set {l : List Sh} {k : Nat} (h : k < l.length) (s : Sh) (j : Nat) : shAt (l.set k s) j = if j = k then s else shAt l j := by
  unfold shAt
  by_cases e : j = k
  · subst e; rw [List.getElem?_set_self h, if_pos rfl]; rfl
  · rw [List.getElem?_set_ne (fun x => e x.symm), if_neg e]
theorem shL_len (s : Sh) : (shL s).length = 9 := rfl
theorem onL_len (f : Nat → Int) : (onL f).length = 8 := rfl
theorem shL_at (s : Sh) (c : Nat) (h : c < 9) : (shL s)[c]? = some (shv s c) := by
  obtain rfl | rfl | rfl | rfl | rfl | rfl | rfl | rfl | rfl : c = 0 ∨ c = 1 ∨ c = 2 ∨ c = 3 ∨ c = 4 ∨ c = 5 ∨ c = 6 ∨ c = 7 ∨ c = 8 := by omega
  all_goals rfl
theorem onL_at (f : Nat → Int) (c : Nat) (h : c < 8) : (onL f)[c]? = some (.int .i32 (f c)) := by
  obtain rfl | rfl | rfl | rfl | rfl | rfl | rfl | rfl : c = 0 ∨ c = 1 ∨ c = 2 ∨ c = 3 ∨ c = 4 ∨ c = 5 ∨ c = 6 ∨ c = 7 := by omega
  all_goals rfl
theorem shL_one (s : Sh) : ∀ v ∈ shL s, v.oneCell' = true := fun v hv => by
  obtain ⟨c, hc, rfl⟩ := List.mem_iff_getElem.1 hv
  have h : c < 9 := hc
  have e := shL_at s c h
  rw [List.getElem?_eq_getElem hc] at e
  rw [Option.some.inj e]
  unfold shv; split <;> rfl
theorem shA_one (s : Sh) : (shA s).all (·.oneCell') = true := all_oneCell_toArray (shL_one s)
theorem onA_one (f : Nat → Int) : (onA f).all (·.oneCell') = true := all_oneCell_toArray (fun v hv => by
  obtain ⟨c, hc, rfl⟩ := List.mem_iff_getElem.1 hv
  have h : c < 8 := hc
  have e := onL_at f c h
  rw [List.getElem?_eq_getElem hc] at e
  rw [Option.some.inj e]; rfl)
theorem shA_size (s : Sh) : (shA s).size = 9 := rfl
theorem onA_size (f : Nat → Int) : (onA f).size = 8 := rfl

/-- the cells of a row of pages -/
def shF (l : List Sh) (i : Nat) : Value := match l[i / 9]? with
  | some s => shv s (i % 9)
  | none => .int .i64 0
theorem shF_at (l : List Sh) (k c : Nat) (h : k < l.length) (hc : c < 9) : shF l (k * 9 + c) = shv (shAt l k) c := by
  unfold shF
  rw [show (k * 9 + c) / 9 = k by omega, show (k * 9 + c) % 9 = c by omega, shAt_lt h]
theorem shF_set (l : List Sh) (k : Nat) (s : Sh) (h : k < l.length) (i : Nat) : shF (l.set k s) i = if i / 9 = k then shv s (i % 9) else shF l i := by
  unfold shF
  by_cases e : i / 9 = k
  · rw [if_pos e, e, List.getElem?_set_self h]
  · rw [if_neg e, List.getElem?_set_ne (fun x => e x.symm)]
/-- block b is the row l of pages -/
def SR (w : World) (b : Nat) (t : TypeId) (l : List Sh) : Prop := w.rowIs b t (l.length * 9) (shF l)
theorem SR.lt {w : World} {b : Nat} {t : TypeId} {l : List Sh} (h : SR w b t l) : b < w.heap.size := World.rowIs.lt h
theorem SR.ref {w : World} {b : Nat} {t : TypeId} {l : List Sh} (h : SR w b t l) (k : Nat) (hk : k < l.length) : w.cell? ⟨b, k * 9, none⟩ = some (.int .i64 (shAt l k).r) := by
  have := World.rowIs.cell h (i := k * 9 + 0) (by omega)
  rw [shF_at l k 0 hk (by omega)] at this
  exact this
theorem SR.num {w : World} {b : Nat} {t : TypeId} {l : List Sh} (h : SR w b t l) (k : Nat) (hk : k < l.length) (i : Nat) (hi : i < 8) : w.cell? ⟨b, k * 9 + 1 + i, none⟩ = some (.int .i32 ((shAt l k).on i)) := by
  have := World.rowIs.cell h (i := k * 9 + (i + 1)) (by omega)
  rw [shF_at l k (i + 1) hk (by omega)] at this
  rw [show k * 9 + 1 + i = k * 9 + (i + 1) by omega, this]
  rfl
theorem SR.frozen {w : World} {b : Nat} {t : TypeId} {l : List Sh} (h : SR w b t l) (i : Nat) : w.frozen? ⟨b, i, none⟩ = false := World.rowIs.frozen h i
theorem SR.range {w : World} {b : Nat} {t : TypeId} {l : List Sh} (h : SR w b t l) (k : Nat) (hk : k < l.length) : w.rangeAt b (k * 9) (shL (shAt l k)) := fun j v hv => by
  have hj : j < 9 := (List.getElem?_eq_some_iff.1 hv).1
  rw [World.rowIs.cell h (i := k * 9 + j) (by omega), shF_at l k j hk hj, ← shL_at _ j hj, hv]
theorem SR.range1 {w : World} {b : Nat} {t : TypeId} {l : List Sh} (h : SR w b t l) (k : Nat) (hk : k < l.length) : w.rangeAt b (k * 9 + 1) (onL (shAt l k).on) := fun j v hv => by
  have hj : j < 8 := (List.getElem?_eq_some_iff.1 hv).1
  rw [h.num k hk j hj, ← onL_at _ j hj, hv]
theorem SR.there {w : World} {b : Nat} {t : TypeId} {l : List Sh} (h : SR w b t l) (k : Nat) (hk : k < l.length) : w.there b (k * 9) 9 := fun j hj =>
  ⟨by rw [World.rowIs.cell h (i := k * 9 + j) (by omega)]; rfl, h.frozen _⟩
theorem SR.below {w w' : World} {b B : Nat} {t : TypeId} {l : List Sh} (h : SR w b t l) (hb : Below B w w') (hB : b < B) : SR w' b t l := World.rowIs.of_block h (hb.block b hB)
theorem SR.grown {w w' : World} {b : Nat} {row : Option Nat} {t : TypeId} {l : List Sh} (h : SR w b t l) (hg : w.grownBy w' row) (hr : some b ≠ row) : SR w' b t l := World.rowIs.of_block h (hg.block b h.lt hr)
theorem SR.alloc {w : World} {b : Nat} {t : TypeId} {l : List Sh} (h : SR w b t l) (o : Obj) : SR (w.alloc o) b t l := World.rowIs.alloc h o
theorem SR.drew {w : World} {b : Nat} {t : TypeId} {l : List Sh} (h : SR w b t l) : SR w.drew b t l := h
theorem SR.other {w : World} {b : Nat} {t : TypeId} {l : List Sh} (h : SR w b t l) (a : Addr) (v : Value) (hne : b ≠ a.block) : SR (w.setCell a v) b t l := World.rowIs.setOther h hne v
theorem SR.setRef {w : World} {b : Nat} {t : TypeId} {l : List Sh} (h : SR w b t l) (k : Nat) (hk : k < l.length) (r : Int) :
    SR (w.setCell ⟨b, k * 9, none⟩ (.int .i64 r)) b t (l.set k ⟨r, (shAt l k).on⟩) := by
  unfold SR
  rw [List.length_set]
  refine (World.rowIs.set h (k * 9) (.int .i64 r)).congr (fun i hi => ?_)
  rw [shF_set l k _ hk]
  by_cases e : i / 9 = k
  · rw [if_pos e]
    by_cases e2 : i = k * 9
    · rw [if_pos e2, show i % 9 = 0 by omega]; rfl
    · rw [if_neg e2, show i = k * 9 + i % 9 by omega, shF_at l k _ hk (by omega), show (k * 9 + i % 9) % 9 = i % 9 by omega]
      unfold shv
      rw [if_neg (by omega), if_neg (by omega)]
  · rw [if_neg e, if_neg (by omega)]
theorem SR.setNum {w : World} {b : Nat} {t : TypeId} {l : List Sh} (h : SR w b t l) (k : Nat) (hk : k < l.length) (j : Nat) (hj : j < 8) (v : Int) :
    SR (w.setCell ⟨b, k * 9 + 1 + j, none⟩ (.int .i32 v)) b t (l.set k ⟨(shAt l k).r, shPut (shAt l k).on j v⟩) := by
  unfold SR
  rw [List.length_set]
  refine (World.rowIs.set h (k * 9 + 1 + j) (.int .i32 v)).congr (fun i hi => ?_)
  rw [shF_set l k _ hk]
  by_cases e : i / 9 = k
  · rw [if_pos e]
    by_cases e2 : i = k * 9 + 1 + j
    · rw [if_pos e2, show i % 9 = j + 1 by omega]
      unfold shv shPut
      rw [if_neg (by omega)]; simp
    · rw [if_neg e2, show i = k * 9 + i % 9 by omega, shF_at l k _ hk (by omega), show (k * 9 + i % 9) % 9 = i % 9 by omega]
      unfold shv shPut
      by_cases e3 : i % 9 = 0
      · rw [if_pos e3, if_pos e3]
      · rw [if_neg e3, if_neg e3]
        simp only
        rw [if_neg (by omega)]
  · rw [if_neg e, if_neg (by omega)]
theorem rowIs_setCells {b : Nat} {t : TypeId} {n : Nat} : ∀ (vs : List Value) (o : Nat) (w : World) (f : Nat → Value), w.rowIs b t n f →
    (w.setCells b o vs).rowIs b t n (fun j => if o ≤ j ∧ j < o + vs.length then vs.getD (j - o) (f j) else f j)
  | [], o, w, f, h => by
    refine World.rowIs.congr (f := f) h (fun i _ => ?_)
    rw [if_neg (by simp)]
  | v :: r, o, w, f, h => by
    rw [World.setCells]
    refine World.rowIs.congr (rowIs_setCells r (o + 1) _ _ (World.rowIs.set h o v)) (fun i _ => ?_)
    simp only [List.length_cons]
    by_cases e : i = o
    · subst e
      rw [if_neg (by omega), if_pos rfl, if_pos (by omega)]; simp
    · by_cases e1 : o + 1 ≤ i ∧ i < o + 1 + r.length
      · rw [if_neg e, if_pos e1, if_pos (by omega), show i - o = (i - (o + 1)) + 1 by omega, List.getD_cons_succ]
      · rw [if_neg e1, if_neg e, if_neg (by omega)]
theorem SR.setAll {w : World} {b : Nat} {t : TypeId} {l : List Sh} (h : SR w b t l) (k : Nat) (hk : k < l.length) (s : Sh) :
    SR (w.setCells b (k * 9) (shL s)) b t (l.set k s) := by
  unfold SR
  rw [List.length_set]
  refine (rowIs_setCells (shL s) (k * 9) w _ h).congr (fun i hi => ?_)
  rw [shF_set l k _ hk, shL_len]
  by_cases e : i / 9 = k
  · rw [if_pos e, if_pos (by omega)]
    have e2 := shL_at s (i - k * 9) (by omega)
    rw [List.getD_eq_getElem?_getD, e2, show i % 9 = i - k * 9 by omega]; rfl
  · rw [if_neg e, if_neg (by omega)]
theorem grown_setCells (b : Nat) : ∀ (vs : List Value) (o : Nat) (w : World), w.grownBy (w.setCells b o vs) (some b) ∧ (w.setCells b o vs).heap.size = w.heap.size
  | [], o, w => ⟨⟨rfl, rfl, rfl, Nat.le_refl _, fun _ _ _ => rfl⟩, rfl⟩
  | v :: r, o, w => by
    rw [World.setCells]
    obtain ⟨h, hs⟩ := grown_setCells b r (o + 1) (w.setCell ⟨b, o, none⟩ v)
    have h0 : w.grownBy (w.setCell ⟨b, o, none⟩ v) (some b) := ⟨rfl, rfl, rfl, by simp [World.setCell], fun k hk hne => Below.heap_setCell _ _ _ _ (fun e => hne (by rw [e]))⟩
    exact ⟨⟨h.os.trans h0.os, h.tape.trans h0.tape, h.output.trans h0.output, Nat.le_trans h0.size h.size, fun i hi hr => (h.block i (Nat.lt_of_lt_of_le hi h0.size) hr).trans (h0.block i hi hr)⟩, hs.trans (by simp)⟩

/-! ### whole pages loaded and stored -/
theorem wpList_load_sh {P : Program} {ops : Array Oper} {rest : List Oper} {op : Oper} {a : Act} {w : World} {Q : Exit → Act → World → Prop} (hgd : op.guard = none) (ty : TypeId) (x : Operand) (ho : op.op = .load ty x)
    (b k : Nat) (hx : a.eval x = .pointer (some ⟨b, k * 9, none⟩)) (t : TypeId) (l : List Sh) (h : SR w b t l) (hk : k < l.length) {fs : _} (hu : P.underlying ty = some (.struct fs)) (hi : (P.info? ty).map (·.size) = some 9)
    (hq : wpList P ops Q rest (a.put op.dst (.agg (shA (shAt l k)))) w) : wpList P ops Q (op :: rest) a w :=
  wpList_load_mid hgd ty x ho b (k * 9) hx (shL (shAt l k)) _ (h.range k hk) hu rfl (by rw [hi, shL_len]) hq
theorem wpList_load_on {P : Program} {ops : Array Oper} {rest : List Oper} {op : Oper} {a : Act} {w : World} {Q : Exit → Act → World → Prop} (hgd : op.guard = none) (ty : TypeId) (x : Operand) (ho : op.op = .load ty x)
    (b k : Nat) (hx : a.eval x = .pointer (some ⟨b, k * 9 + 1, none⟩)) (t : TypeId) (l : List Sh) (h : SR w b t l) (hk : k < l.length) {n : Nat} {e : TypeId} (hu : P.underlying ty = some (.array n e)) (hi : (P.info? ty).map (·.size) = some 8)
    (hq : wpList P ops Q rest (a.put op.dst (.agg (onA (shAt l k).on))) w) : wpList P ops Q (op :: rest) a w :=
  wpList_load_mid hgd ty x ho b (k * 9 + 1) hx (onL (shAt l k).on) _ (h.range1 k hk) hu rfl (by rw [hi, onL_len]) hq
theorem wpList_store_sh {P : Program} {ops : Array Oper} {rest : List Oper} {op : Oper} {a : Act} {w : World} {Q : Exit → Act → World → Prop} (hgd : op.guard = none) (ty : TypeId) (x y : Operand) (ho : op.op = .store ty x y)
    (b k : Nat) (hx : a.eval x = .pointer (some ⟨b, k * 9, none⟩)) (t : TypeId) (l : List Sh) (h : SR w b t l) (hk : k < l.length) (s : Sh) (hy : a.eval y = .agg (shA s)) (hi : (P.info? ty).map (·.size) = some 9)
    (hq : ∀ w', SR w' b t (l.set k s) → w'.heap.size = w.heap.size → w.grownBy w' (some b) → wpList P ops Q rest (a.put op.dst undef) w') : wpList P ops Q (op :: rest) a w :=
  wpList_store_mid hgd ty x y ho b (k * 9) (shA s) hx hy (h.there k hk) (by rw [hi, shA_size]) (shA_one s) (hq _ (h.setAll k hk s) (grown_setCells b _ _ w).2 (grown_setCells b _ _ w).1)
end Go.Proofs.Ytkmkjfbbpeocdaa
