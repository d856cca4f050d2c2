/- MEMORY: the document's own lines (a row of structs of one slice), and what its Put leaves. -/
import Derived.Test.YtomiligjcpmnjaaXe
import Derived.Test.YtomiligjcpmnjaaKr
namespace Go.Proofs.Ytomiligjcpmnjaa
set_option maxRecDepth 100000
open Go.RowKit
set_option linter.unusedVariables false
set_option linter.unusedSimpArgs false

theorem ownsRow_same {w w' : World} {base : Nat} {e : TypeId} {size n : Nat} {v : Value} {xs : List Value} (h : w.ownsRow base e size v n xs) (hs : ∀ k, v.ownBlock = some k → w'.heap[k]? = w.heap[k]?) : w'.ownsRow base e size v n xs := by
  refine ⟨h.1, ?_⟩
  rcases h.2 with h0 | ⟨g, cap, cur, rfl, h1, h2, h3⟩
  · exact .inl h0
  · exact .inr ⟨g, cap, cur, rfl, h1, (hs g rfl).trans h2, h3⟩
theorem OB.same {w w' : World} {base : Nat} {v : Value} {l : List UInt8} (h : OB w base v l) (hs : ∀ k, v.ownBlock = some k → w'.heap[k]? = w.heap[k]?) : OB w' base v l := ownsRow_same h hs
theorem OB.lt {w : World} {base : Nat} {v : Value} {l : List UInt8} (h : OB w base v l) (k : Nat) (hk : v.ownBlock = some k) : base ≤ k ∧ k < w.heap.size := World.ownsRow.lt h k hk
theorem wp_one {w : World} {o : Oper} {a : Act} {K : Act → World → Prop} {Q : Exit → Act → World → Prop} (x : Operand)
    (ho : o.op = .buildSlice 23 1 #[(0, x)]) (y : Int) (c : UInt8) (hx : a.eval x = .int .u8 y) (hc : (c.toNat : Int) = y)
    (h : ∀ w', OB w' w.heap.size (.slice (some ⟨w.heap.size, 0, none⟩) 1 1) [c] → Below w.heap.size w w' → w.heap.size < w'.heap.size → K (a.put o.dst (.slice (some ⟨w.heap.size, 0, none⟩) 1 1)) w') : o.wp Try.prog a w K Q := by
  obtain ⟨i0, hi0, hz0, hz1, hz2⟩ := info_parts byte_info
  refine wp_buildSlice 23 5 1 #[(0, x)] ho #[.int .u8 y] i0 (.int .u8 0) Try.underlying23 hi0 hz0 (by rw [hz1]; decide) (by rw [hz1]; decide) ?_ (h _ ?_ ((Below.refl _ _).alloc (Nat.le_refl _) _) (by rw [World.size_alloc]; omega))
  · simp [hx, hz1, Instr.fill]
    exact ⟨⟨rfl, Nat.le_refl 1⟩, by kernel_rfl⟩
  · have h1 := World.ownsRow_lit (e := 5) (size := 1) (base := w.heap.size) w #[.int .u8 y] 1 (Nat.le_refl _) (by unfold maxLen; omega) rfl
    rw [← hc] at h1 ⊢
    exact h1

/-! ### what the document's Put leaves -/
abbrev lineO (cur : Array Value) : Obj := .cells cur 36
/-- cell p of the row g holds v' where it held v; besides it v's own block alone is changed -/
structure RPut (w w' : World) (g p : Nat) (cur : Array Value) (v v' : Value) : Prop where
  row : w'.heap[g]? = some (lineO (cur.setIfInBounds p v'))
  os : w'.os = w.os
  tape : w'.tape = w.tape
  output : w'.output = w.output
  size : w.heap.size ≤ w'.heap.size
  block : ∀ k, k < w.heap.size → k ≠ g → v.ownBlock ≠ some k → w'.heap[k]? = w.heap[k]?
  nw : ∀ k, v'.ownBlock = some k → v.ownBlock = some k ∨ w.heap.size ≤ k
section
variable {w wr w6 w7 : World} {g p : Nat} {cur : Array Value} {v v1 v7 : Value}
theorem RPut.start (hrow : w.heap[g]? = some (lineO cur)) (hv : cur[p]? = some v) : RPut w w g p cur v v := by
  refine ⟨?_, rfl, rfl, rfl, Nat.le_refl _, fun _ _ _ _ => rfl, fun k h => .inl h⟩
  obtain ⟨hp, e⟩ := Array.getElem?_eq_some_iff.1 hv
  have : cur.setIfInBounds p v = cur := by
    refine Array.ext_getElem? fun i => ?_
    rw [Array.getElem?_setIfInBounds]
    by_cases e2 : p = i
    · subst e2; rw [if_pos rfl, if_pos hp, hv]
    · rw [if_neg e2]
  rw [this]; exact hrow
theorem RPut.glt (h : RPut w wr g p cur v v1) : g < wr.heap.size := (Array.getElem?_eq_some_iff.1 h.row).1
theorem RPut.nog (h : RPut w wr g p cur v v1) (hg : g < w.heap.size) (hvg : v.ownBlock ≠ some g) : v1.ownBlock ≠ some g := fun e => (h.nw g e).elim hvg (fun h2 => by omega)
theorem RPut.cell (h : RPut w wr g p cur v v1) (hp : p < cur.size) : wr.cell? ⟨g, p, none⟩ = some v1 := by
  rw [cell_of_row wr g p _ _ _ h.row, Array.getElem?_setIfInBounds, if_pos rfl, if_pos hp]
theorem RPut.fz (h : RPut w wr g p cur v v1) : wr.frozen? ⟨g, p, none⟩ = false := frozen_of_row wr g p _ _ h.row
theorem RPut.below {B : Nat} (h : RPut w wr g p cur v v1) (hB : B ≤ w.heap.size) (hg : B ≤ g) (hv : ∀ k, v.ownBlock = some k → B ≤ k) : Below B w wr :=
  ⟨h.os, h.tape, h.output, h.size, fun k hk => h.block k (by omega) (by omega) (fun e => by have := hv k e; omega)⟩
theorem RPut.step (h : RPut w wr g p cur v v1) (hg : g < w.heap.size) (hvg : v.ownBlock ≠ some g) (b6 : Below wr.heap.size wr w6) (g7 : w6.grownBy w7 v1.ownBlock) (e7 : v7.ownBlock = v1.ownBlock ∨ v7.ownBlock = some w6.heap.size) :
    RPut w (w7.setCell ⟨g, p, none⟩ v7) g p cur v v7 := by
  have hv1g := h.nog hg hvg
  have hsz : (w7.setCell ⟨g, p, none⟩ v7).heap.size = w7.heap.size := by simp [World.setCell]
  have h67 := g7.size
  refine ⟨?_, g7.os.trans (b6.os.trans h.os), g7.tape.trans (b6.tape.trans h.tape), g7.output.trans (b6.output.trans h.output), by have := h.size; have := b6.size; omega, fun k hk h1 h2 => ?_, fun k hk => ?_⟩
  · have hr7 : w7.heap[g]? = some (lineO (cur.setIfInBounds p v1)) := (g7.block g (Nat.lt_of_lt_of_le h.glt b6.size) (fun e => hv1g e.symm)).trans ((b6.block g h.glt).trans h.row)
    rw [heap_setCell_same w7 g p _ _ v7 hr7, Array.setIfInBounds_setIfInBounds]
  · rw [heap_setCell_other _ _ _ _ h1]
    have hkr : k < wr.heap.size := Nat.lt_of_lt_of_le hk h.size
    exact (g7.block k (Nat.lt_of_lt_of_le hkr b6.size) (fun e => (h.nw k e.symm).elim h2 (fun h3 => by omega))).trans ((b6.block k hkr).trans (h.block k hk h1 h2))
  · rcases e7 with e | e
    · exact h.nw k (e.symm.trans hk)
    · have e2 := Option.some.inj (e.symm.trans hk)
      have := h.size; have := b6.size
      exact .inr (by omega)
end

/-! ### the row of the document's lines -/
structure Rl where
  v : Value
  l : List UInt8
abbrev apartL (m m' : Rl) : Prop := ∀ k, m.v.ownBlock = some k → m'.v.ownBlock ≠ some k
/-- one of the row's blocks -/
def LB (v : Value) (ms : List Rl) (k : Nat) : Prop := v.ownBlock = some k ∨ ∃ m ∈ ms, m.v.ownBlock = some k
/-- v is the law's own row of the lines ms, each with bytes of its own -/
structure LR (w : World) (base : Nat) (v : Value) (ms : List Rl) : Prop where
  row : w.ownsRow base 36 1 v ms.length (ms.map Rl.v)
  line : ∀ m ∈ ms, OB w base m.v m.l ∧ ∀ k, m.v.ownBlock = some k → v.ownBlock ≠ some k
  inj : ms.Pairwise apartL
section
variable {w w' : World} {base : Nat} {v : Value} {ms : List Rl}
theorem LR.nil (w : World) (base : Nat) : LR w base (.slice none 0 0) [] := ⟨World.ownsRow_nil _ _ _ _, fun m hm => (by cases hm), List.Pairwise.nil⟩
theorem LR.same (h : LR w base v ms) (hs : ∀ k, LB v ms k → w'.heap[k]? = w.heap[k]?) : LR w' base v ms :=
  ⟨ownsRow_same h.row fun k hk => hs k (.inl hk), fun m hm => ⟨(h.line m hm).1.same fun k hk => hs k (.inr ⟨m, hm, hk⟩), (h.line m hm).2⟩, h.inj⟩
theorem LR.lt (h : LR w base v ms) {k : Nat} (hk : LB v ms k) : base ≤ k ∧ k < w.heap.size := by
  rcases hk with hk | ⟨m, hm, hk⟩
  · exact World.ownsRow.lt h.row k hk
  · exact (h.line m hm).1.lt k hk
theorem LR.belows (h : LR w base v ms) (hb : Below w.heap.size w w') : LR w' base v ms := h.same fun k hk => hb.block k (h.lt hk).2
/-- where the row lies -/
theorem LR.form (h : LR w base v ms) (h0 : 0 < ms.length) (n : Nat) (hn : ms.length = n) : ∃ g cap cur, v = .slice (some ⟨g, 0, none⟩) n cap ∧ n ≤ cap ∧ cap ≤ maxLen ∧ w.heap[g]? = some (lineO cur) ∧ ∀ j (hj : j < ms.length), cur[j]? = some ms[j].v := by
  subst hn
  rcases h.row.2 with ⟨_, hv⟩ | ⟨g, cap, cur, hv, h1, h2, h3, h4, h5, h6⟩
  · omega
  · refine ⟨g, cap, cur, hv, h3, h4, h2, fun j hj => ?_⟩
    have e := congrArg (·[j]?) h6
    simp only [Nat.mul_one, List.getElem?_take, hj, if_true, List.getElem?_map, List.getElem?_eq_getElem hj, Option.map_some] at e
    simpa using e
theorem LR.at (h : LR w base v ms) {A : Option Addr} {n cap : Nat} (hv : v = .slice A n cap) (j : Nat) (m : Rl) (hm : ms[j]? = some m) : ∃ g, A = some ⟨g, 0, none⟩ ∧ w.cell? ⟨g, j, none⟩ = some m.v := by
  have hj := (List.getElem?_eq_some_iff.1 hm).1
  obtain ⟨g, cap', cur, hv', -, -, hr, hc⟩ := h.form (by omega) ms.length rfl
  rw [hv] at hv'
  injection hv' with e1 e2 e3
  refine ⟨g, e1, ?_⟩
  rw [cell_of_row w g j _ _ _ hr, hc j hj, (List.getElem?_eq_some_iff.1 hm).2]
/-- a line put on -/
theorem LR.put {g n cap : Nat} {cur : Array Value} (h : LR w base (.slice (some ⟨g, 0, none⟩) n cap) ms) (hr : w.heap[g]? = some (lineO cur)) (p : Nat) (m : Rl) (hm : ms[p]? = some m) (v' : Value) (l' : List UInt8) (R : RPut w w' g p cur m.v v') (ho : OB w' base v' l') :
    LR w' base (.slice (some ⟨g, 0, none⟩) n cap) (ms.set p ⟨v', l'⟩) := by
  have hp := (List.getElem?_eq_some_iff.1 hm).1
  have hmm := List.mem_of_getElem? hm
  have hml := h.line m hmm
  have hgl : g < w.heap.size := (h.lt (.inl rfl)).2
  have hv'g : v'.ownBlock ≠ some g := R.nog hgl (fun e => hml.2 g e rfl)
  have hmem : ∀ y ∈ ms.set p ⟨v', l'⟩, y = ⟨v', l'⟩ ∨ ∃ j, j ≠ p ∧ ms[j]? = some y := fun y hy => by
    obtain ⟨j, hj⟩ := List.mem_iff_getElem?.1 hy
    rw [List.getElem?_set] at hj
    by_cases e : p = j
    · rw [if_pos e, if_pos hp] at hj
      exact .inl (Option.some.inj hj).symm
    · rw [if_neg e] at hj
      exact .inr ⟨j, fun e2 => e e2.symm, hj⟩
  have hap : ∀ i j, i ≠ j → ∀ a b, ms[i]? = some a → ms[j]? = some b → apartL a b := fun i j hij a b ha hb k hk hk2 => by
    have h1 := (List.getElem?_eq_some_iff.1 ha).1
    have h2 := (List.getElem?_eq_some_iff.1 hb).1
    have hpw := List.pairwise_iff_getElem.1 h.inj
    rcases Nat.lt_or_gt_of_ne hij with e | e
    · have := hpw i j h1 h2 e k
      rw [(List.getElem?_eq_some_iff.1 ha).2, (List.getElem?_eq_some_iff.1 hb).2] at this
      exact this hk hk2
    · have := hpw j i h2 h1 e k
      rw [(List.getElem?_eq_some_iff.1 ha).2, (List.getElem?_eq_some_iff.1 hb).2] at this
      exact this hk2 hk
  refine ⟨?_, fun y hy => ?_, ?_⟩
  · rcases h.row.2 with ⟨hv, _⟩ | ⟨g', cap', cur', hv, h1, h2, h3, h4, h5, h6⟩
    · cases hv
    · injection hv with e1 e2 e3
      injection e1 with e1; injection e1 with e1
      subst e1 e2 e3
      rw [hr] at h2
      have e4 : cur' = cur := by have h7 := Option.some.inj h2; injection h7 with h7 _ _; exact h7.symm
      subst e4
      refine ⟨by rw [List.length_map, Nat.mul_one], .inr ⟨g, cap, cur'.setIfInBounds p v', by rw [List.length_set], h1, R.row, by rw [List.length_set]; exact h3, h4, by simpa using h5, ?_⟩⟩
      rw [List.length_set, Array.toList_setIfInBounds, List.take_set, h6, List.map_set]
  · rcases hmem y hy with rfl | ⟨j, hj, hyj⟩
    · exact ⟨ho, fun k hk e => hv'g (by rw [show g = k from Option.some.inj e]; exact hk)⟩
    · obtain ⟨q0, q1⟩ := h.line y (List.mem_of_getElem? hyj)
      exact ⟨q0.same fun k hk => R.block k (q0.lt k hk).2 (fun e => q1 k hk (by rw [e]; rfl)) (fun e => hap j p hj y m hyj hm k hk e), q1⟩
  · rw [List.pairwise_iff_getElem]
    intro i j hi hj hij k hk
    have hi' : i < ms.length := by simpa using hi
    have hj' : j < ms.length := by simpa using hj
    by_cases ei : i = p
    · subst ei
      rw [List.getElem_set_self] at hk
      rw [List.getElem_set_ne (by omega)]
      intro e
      rcases R.nw k hk with h2 | h2
      · exact hap i j (by omega) m ms[j] hm (List.getElem?_eq_getElem hj') k h2 e
      · have := ((h.line _ (List.getElem_mem hj')).1.lt k e).2; omega
    · rw [List.getElem_set_ne (fun x => ei x.symm)] at hk
      by_cases ej : j = p
      · subst ej
        rw [List.getElem_set_self]
        intro e
        rcases R.nw k e with h2 | h2
        · exact hap i j (by omega) ms[i] m (List.getElem?_eq_getElem hi') hm k hk h2
        · have := ((h.line _ (List.getElem_mem hi')).1.lt k hk).2; omega
      · rw [List.getElem_set_ne (fun x => ej x.symm)]
        exact hap i j (by omega) _ _ (List.getElem?_eq_getElem hi') (List.getElem?_eq_getElem hj') k hk
/-- its blocks then -/
theorem LB.put {g n cap : Nat} {cur : Array Value} {p : Nat} {m : Rl} (hm : ms[p]? = some m) {v' : Value} {l' : List UInt8} (R : RPut w w' g p cur m.v v') {k : Nat} (hk : LB (.slice (some ⟨g, 0, none⟩) n cap) (ms.set p ⟨v', l'⟩) k) : LB (.slice (some ⟨g, 0, none⟩) n cap) ms k ∨ w.heap.size ≤ k := by
  rcases hk with hk | ⟨y, hy, hk⟩
  · exact .inl (.inl hk)
  · obtain ⟨j, hj⟩ := List.mem_iff_getElem?.1 hy
    rw [List.getElem?_set] at hj
    by_cases e : p = j
    · rw [if_pos e] at hj
      split at hj
      · have e2 := (Option.some.inj hj).symm
        subst e2
        exact (R.nw k hk).imp (fun h => .inr ⟨m, List.mem_of_getElem? hm, h⟩) id
      · cases hj
    · rw [if_neg e] at hj
      exact .inl (.inr ⟨y, List.mem_of_getElem? hj, hk⟩)
end
end Go.Proofs.Ytomiligjcpmnjaa
