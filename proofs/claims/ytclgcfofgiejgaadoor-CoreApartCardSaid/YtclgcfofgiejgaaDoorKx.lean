/- MEMORY: a bundle of own blocks as one fact (BU): structs, own rows, each in a block of its own, all apart, all made behind w0. Of every seat. -/
import Derived.Test.YtclgcfofgiejgaaDoorKa
import Derived.Deep.OwnRows
namespace Go.Proofs.YtclgcfofgiejgaaDoor
set_option maxRecDepth 100000
open Go.RowKit
set_option linter.unusedVariables false
set_option linter.unusedSimpArgs false

/-- an entry: its block (none: a nil slice has none), what lies there -/
abbrev Ent := Option Nat × Obj
/-- the blocks of E hold what E says, lie behind w0's end, and are all apart; what lay below is as it was -/
structure BU (w0 w : World) (E : List Ent) : Prop where
  be : Below w0.heap.size w0 w
  get : ∀ (i k : Nat) (o : Obj), E[i]? = some (some k, o) → w0.heap.size ≤ k ∧ w.heap[k]? = some o
  inj : ∀ (i j k : Nat) (o o' : Obj), E[i]? = some (some k, o) → E[j]? = some (some k, o') → i = j
section
variable {w0 w w' : World} {E : List Ent}
theorem BU.nil (w : World) : BU w w [] := ⟨Below.refl _ _, fun i k o h => by simp at h, fun i j k o o' h => by simp at h⟩
theorem BU.lt (h : BU w0 w E) {i k : Nat} {o : Obj} (hi : E[i]? = some (some k, o)) : k < w.heap.size := (Array.getElem?_eq_some_iff.1 (h.get i k o hi).2).1
theorem BU.cell (h : BU w0 w E) {i k : Nat} {cur : Array Value} {t : TypeId} {f : Nat × Nat} (hi : E[i]? = some (some k, .cells cur t f)) {j : Nat} {v : Value} (hj : cur[j]? = some v) : w.cell? ⟨k, j, none⟩ = some v := by
  rw [cell_of_row w k j _ _ _ (h.get i k _ hi).2, hj]
theorem BU.frozen (h : BU w0 w E) {i k : Nat} {cur : Array Value} {t : TypeId} (hi : E[i]? = some (some k, .cells cur t (0, 0))) (j : Nat) : w.frozen? ⟨k, j, none⟩ = false := frozen_of_row w k j _ _ (h.get i k _ hi).2
theorem BU.drew (h : BU w0 w E) : BU w0 w.drew E := ⟨h.be.drew, h.get, h.inj⟩
/-- behind a call that turns nothing that was there -/
theorem BU.belows (h : BU w0 w E) (hb : Below w.heap.size w w') : BU w0 w' E :=
  ⟨h.be.trans (hb.mono h.be.size), fun i k o hi => ⟨(h.get i k o hi).1, (hb.block k (h.lt hi)).trans (h.get i k o hi).2⟩, h.inj⟩
/-- a block more, behind the others -/
theorem BU.push (h : BU w0 w E) (hb : Below w.heap.size w w') (k : Nat) (o : Obj) (hk : w.heap.size ≤ k) (ho : w'.heap[k]? = some o) : BU w0 w' (E ++ [(some k, o)]) := by
  have h2 := h.belows hb
  have hlt : ∀ i a c, E[i]? = some (some a, c) → a ≠ k := fun i a c hi e => by have := h.lt hi; omega
  refine ⟨h2.be, fun i a c hi => ?_, fun i j a c c' hi hj => ?_⟩
  · rw [List.getElem?_append] at hi
    split at hi
    · exact h2.get i a c hi
    · cases e : i - E.length with
      | zero =>
        rw [e] at hi
        have e2 := Option.some.inj hi
        injection e2 with e3 e4
        injection e3 with e3
        subst e3 e4
        exact ⟨Nat.le_trans h.be.size hk, ho⟩
      | succ n => rw [e] at hi; simp at hi
  · rw [List.getElem?_append] at hi hj
    split at hi
    · split at hj
      · exact h.inj i j a c c' hi hj
      · cases e : j - E.length with
        | zero =>
          rw [e] at hj
          have e2 := Option.some.inj hj
          injection e2 with e3 e4
          injection e3 with e3
          exact absurd e3.symm (hlt i a c hi)
        | succ n => rw [e] at hj; simp at hj
    · split at hj
      · cases e : i - E.length with
        | zero =>
          rw [e] at hi
          have e2 := Option.some.inj hi
          injection e2 with e3 e4
          injection e3 with e3
          exact absurd e3.symm (hlt j a c' hj)
        | succ n => rw [e] at hi; simp at hi
      · cases e : i - E.length with
        | zero =>
          cases e2 : j - E.length with
          | zero => omega
          | succ n => rw [e2] at hj; simp at hj
        | succ n => rw [e] at hi; simp at hi
/-- one entry's block written, or gone over into a new one -/
theorem BU.put (h : BU w0 w E) (i : Nat) (r : Option Nat) (o : Obj) (hi : E[i]? = some (r, o)) (g : w.grownBy w' r) (k' : Nat) (o' : Obj) (hk : r = some k' ∨ w.heap.size ≤ k') (ho : w'.heap[k']? = some o') : BU w0 w' (E.set i (some k', o')) := by
  have hil : i < E.length := (List.getElem?_eq_some_iff.1 hi).1
  have hge : w0.heap.size ≤ k' := by
    rcases hk with e | e
    · subst e; exact (h.get i k' o hi).1
    · exact Nat.le_trans h.be.size e
  have hne : ∀ j a c, j ≠ i → E[j]? = some (some a, c) → some a ≠ r ∧ a ≠ k' := fun j a c hji hj => by
    have h1 : some a ≠ r := fun e => by subst e; exact hji (h.inj j i a c o hj hi)
    refine ⟨h1, fun e => ?_⟩
    rcases hk with e2 | e2
    · exact h1 (by rw [e2, e])
    · have := h.lt hj; omega
  refine ⟨h.be.grown g h.be.size (fun k e => by subst e; exact (h.get i k o hi).1), fun j a c hj => ?_, fun j m a c c' hj hm => ?_⟩
  · rw [List.getElem?_set] at hj
    by_cases e : i = j
    · rw [if_pos e, if_pos hil] at hj
      have e2 := Option.some.inj hj
      injection e2 with e3 e4
      injection e3 with e3
      subst e3 e4
      exact ⟨hge, ho⟩
    · rw [if_neg e] at hj
      have hq := hne j a c (fun x => e x.symm) hj
      exact ⟨(h.get j a c hj).1, (g.block a (h.lt hj) hq.1).trans (h.get j a c hj).2⟩
  · rw [List.getElem?_set] at hj hm
    by_cases e : i = j
    · by_cases e2 : i = m
      · omega
      · rw [if_pos e, if_pos hil] at hj
        rw [if_neg e2] at hm
        have e3 := Option.some.inj hj
        injection e3 with e3 e4
        injection e3 with e3
        exact absurd e3.symm (hne m a c' (fun x => e2 x.symm) hm).2
    · by_cases e2 : i = m
      · rw [if_neg e] at hj
        rw [if_pos e2, if_pos hil] at hm
        have e3 := Option.some.inj hm
        injection e3 with e3 e4
        injection e3 with e3
        exact absurd e3.symm (hne j a c (fun x => e x.symm) hj).2
      · rw [if_neg e] at hj
        rw [if_neg e2] at hm
        exact h.inj j m a c c' hj hm
theorem bu_grown (w : World) (k j : Nat) (v : Value) : w.grownBy (w.setCell ⟨k, j, none⟩ v) (some k) := ⟨rfl, rfl, rfl, by simp [World.setCell], fun i _ hne => Below.heap_setCell _ _ _ _ (fun e => hne (by rw [e]))⟩
/-- a store -/
theorem BU.store (h : BU w0 w E) (i k : Nat) (cur : Array Value) (t : TypeId) (hi : E[i]? = some (some k, .cells cur t (0, 0))) (j : Nat) (v : Value) : BU w0 (w.setCell ⟨k, j, none⟩ v) (E.set i (some k, .cells (cur.setIfInBounds j v) t (0, 0))) :=
  h.put i (some k) _ hi (bu_grown w k j v) k _ (.inl rfl) (heap_setCell_same w k j cur t v (h.get i k _ hi).2)
end

/-! ### own rows in a bundle -/
/-- the value v is the row xs (n elements of a size) in the object o: nil, or an own block -/
def RowE (t : TypeId) (size : Nat) (v : Value) (n : Nat) (xs : List Value) (o : Obj) : Prop :=
  xs.length = n * size ∧ ((v = .slice none 0 0 ∧ n = 0) ∨ ∃ b cap cur, v = .slice (some ⟨b, 0, none⟩) n cap ∧ o = .cells cur t (0, 0) ∧ n ≤ cap ∧ cap ≤ maxLen ∧ cur.size = cap * size ∧ cur.toList.take (n * size) = xs)
section
variable {w0 w w' : World} {E : List Ent} {t : TypeId} {size n : Nat} {v : Value} {xs : List Value} {o : Obj}
theorem RowE.nil (t : TypeId) (size : Nat) (o : Obj) : RowE t size (.slice none 0 0) 0 [] o := ⟨by simp, .inl ⟨rfl, rfl⟩⟩
/-- as the library says it -/
theorem BU.owns (h : BU w0 w E) (R : RowE t size v n xs o) {i : Nat} (hi : E[i]? = some (v.ownBlock, o)) : w.ownsRow w0.heap.size t size v n xs := by
  refine ⟨R.1, ?_⟩
  rcases R.2 with h0 | ⟨b, cap, cur, rfl, rfl, h1, h2, h3, h4⟩
  · exact .inl h0
  · obtain ⟨g1, g2⟩ := h.get i b _ hi
    exact .inr ⟨b, cap, cur, rfl, g1, g2, h1, h2, h3, h4⟩
/-- and back -/
theorem owns_row {base : Nat} (h : w.ownsRow base t size v n xs) (k : Nat) (o : Obj) (hv : v.ownBlock = some k) (ho : w.heap[k]? = some o) : RowE t size v n xs o := by
  refine ⟨h.1, ?_⟩
  rcases h.2 with h0 | ⟨g, cap, cur, rfl, h1, h2, h3, h4, h5, h6⟩
  · exact .inl h0
  · have e : g = k := Option.some.inj hv
    subst e
    rw [h2] at ho
    exact .inr ⟨g, cap, cur, rfl, (Option.some.inj ho).symm, h3, h4, h5, h6⟩
/-- where it lies -/
theorem RowE.form (R : RowE t size v n xs o) (h0 : 0 < n) : ∃ b cap cur, v = .slice (some ⟨b, 0, none⟩) n cap ∧ o = .cells cur t (0, 0) ∧ n ≤ cap ∧ cap ≤ maxLen ∧ ∀ (j : Nat) (u : Value), xs[j]? = some u → cur[j]? = some u := by
  rcases R.2 with ⟨_, hn⟩ | ⟨b, cap, cur, rfl, rfl, h1, h2, h3, h4⟩
  · omega
  · refine ⟨b, cap, cur, rfl, rfl, h1, h2, fun j u hj => ?_⟩
    have hl : j < xs.length := (List.getElem?_eq_some_iff.1 hj).1
    have e : (cur.toList.take (n * size))[j]? = some u := by rw [h4]; exact hj
    have := R.1
    rw [List.getElem?_take_of_lt (by omega), Array.getElem?_toList] at e
    exact e
/-- any own row's value -/
theorem RowE.val (R : RowE t size v n xs o) : ∃ A cap, v = .slice A n cap ∧ n ≤ cap ∧ cap ≤ maxLen := by
  rcases R.2 with ⟨rfl, rfl⟩ | ⟨b, cap, cur, rfl, rfl, h1, h2, _⟩
  · exact ⟨none, 0, rfl, Nat.le_refl _, by unfold maxLen; omega⟩
  · exact ⟨_, cap, rfl, h1, h2⟩
/-- a cell of it -/
theorem BU.rowcell (h : BU w0 w E) (R : RowE t size v n xs o) {i : Nat} (hi : E[i]? = some (v.ownBlock, o)) {A : Option Addr} {c : Nat} (hv : v = .slice A n c) (j : Nat) (u : Value) (hj : xs[j]? = some u) : ∃ b, A = some ⟨b, 0, none⟩ ∧ v.ownBlock = some b ∧ w.cell? ⟨b, j, none⟩ = some u ∧ w.frozen? ⟨b, j, none⟩ = false := by
  have hl : j < xs.length := (List.getElem?_eq_some_iff.1 hj).1
  have h0 : 0 < n := by
    rcases Nat.eq_zero_or_pos n with e | e
    · have := R.1; rw [e] at this; omega
    · exact e
  obtain ⟨b, cap, cur, e, e2, _, _, hc⟩ := R.form h0
  subst e2
  have e3 := hv.symm.trans e
  injection e3 with e4 e5 e6
  subst e
  exact ⟨b, e4, rfl, h.cell hi (hc j u hj), h.frozen hi j⟩
/-- a store into it -/
theorem RowE.set {b cap : Nat} {cur : Array Value} (R : RowE t size (.slice (some ⟨b, 0, none⟩) n cap) n xs (.cells cur t (0, 0))) (j : Nat) (u : Value) : RowE t size (.slice (some ⟨b, 0, none⟩) n cap) n (xs.set j u) (.cells (cur.setIfInBounds j u) t (0, 0)) := by
  refine ⟨by rw [List.length_set]; exact R.1, ?_⟩
  rcases R.2 with ⟨e, _⟩ | ⟨b', cap', cur', e1, e2, h1, h2, h3, h4⟩
  · cases e
  · injection e1 with e3 e4 e5
    injection e3 with e3; injection e3 with e3
    injection e2 with e2 _ _
    subst e3 e5 e2
    refine .inr ⟨b, cap, _, rfl, rfl, h1, h2, by simpa using h3, ?_⟩
    rw [Array.toList_setIfInBounds, List.take_set, h4]
/-- an append of elements that lie somewhere -/
theorem wpList_append_bu {P : Program} {ops : Array Oper} {rest : List Oper} {op : Oper} {a : Act} {Q : Exit → Act → World → Prop} (hgd : op.guard = none) (s x : Operand) (ty : TypeId)
    (ho : op.op = .call { callee := .builtin .append, args := #[s, x], argTypes := #[ty, ty] })
    (z : Value) (bytes : Nat) (ht : P.underlying ty = some (.slice t)) (hinfo : ∃ i0, P.info? t = some i0 ∧ i0.zero = some z ∧ i0.size = size ∧ i0.bytes = bytes) (hzs : z.cells.size = size) (hsz : 0 < size)
    (h : BU w0 w E) (R : RowE t size v n xs o) (i : Nat) (hi : E[i]? = some (v.ownBlock, o)) (hs : a.eval s = v)
    (ad : Addr) (m c : Nat) (news : List Value) (hx : a.eval x = .slice (some ad) m c) (hl : news.length = m * size) (hnews : ∀ j u, news[j]? = some u → w.cell? (ad.add j) = some u) (h1 : ∀ u ∈ news, u.oneCell' = true)
    (h63 : n + m ≤ 1000000) (hbytes : (n + m) * bytes ≤ 140737488355328) (hm : 0 < m)
    (hq : ∀ v' w' o' k', RowE t size v' (n + m) (xs ++ news) o' → v'.ownBlock = some k' → BU w0 w' (E.set i (v'.ownBlock, o')) → w.grownBy w' v.ownBlock → wpList P ops Q rest (a.put op.dst v') w') : wpList P ops Q (op :: rest) a w := by
  obtain ⟨i0, hi0, hz0, hz1, hz2⟩ := hinfo
  refine wpList_append_own_at (P := P) w hgd s x ty ho w0.heap.size t i0 z size bytes ht hi0 hz0 hz1 hz2 hzs hsz v n xs hs (h.owns R hi) ad m c news hx hl hnews h1 (by unfold maxLen; omega) hbytes h.be.size ?_
  intro v' w' h2 h3 h4 h5
  have hlt : ∀ k, v'.ownBlock = some k → k < w'.heap.size := fun k hk => (World.ownsRow.lt h2 k hk).2
  have hsome : ∃ k', v'.ownBlock = some k' := by
    rcases h2.2 with ⟨_, h0⟩ | ⟨g, cap, cur, rfl, _⟩
    · omega
    · exact ⟨g, rfl⟩
  obtain ⟨k', hk'⟩ := hsome
  obtain ⟨o', ho'⟩ : ∃ o', w'.heap[k']? = some o' := ⟨_, Array.getElem?_eq_getElem (hlt k' hk')⟩
  refine hq v' w' o' k' (owns_row h2 k' o' hk' ho') hk' ?_ h3
  rw [hk']
  refine h.put i _ o hi h3 k' o' ?_ ho'
  rcases h5 with e | e
  · exact .inl (e.symm.trans hk')
  · exact .inr (by have := Option.some.inj (e.symm.trans hk'); omega)
end
end Go.Proofs.YtclgcfofgiejgaaDoor
