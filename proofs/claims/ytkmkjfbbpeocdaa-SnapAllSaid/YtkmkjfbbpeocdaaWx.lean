/- A row of the law's own that grows, beside the store; forks of forks, plain. -/
import Derived.Test.YtkmkjfbbpeocdaaWv
import Derived.Deep.AppendLies
namespace Go.Proofs.Ytkmkjfbbpeocdaa
set_option maxRecDepth 100000
open Go.RowKit Go.Maps
set_option linter.unusedVariables false
set_option linter.unusedSimpArgs false

/-- v is the row xs (n elements of a size) in the block b, whose object is o -/
def RowO (t : TypeId) (size : Nat) (v : Value) (n : Nat) (xs : List Value) (b : Nat) (o : Obj) : Prop :=
  xs.length = n * size ∧ ∃ cap cur, v = .slice (some ⟨b, 0, none⟩) n cap ∧ o = .cells cur t (0, 0) ∧ n ≤ cap ∧ cap ≤ maxLen ∧ cur.size = cap * size ∧ cur.toList.take (n * size) = xs
theorem RowO.cell {t : TypeId} {size : Nat} {v : Value} {n : Nat} {xs : List Value} {b : Nat} {o : Obj} (h : RowO t size v n xs b o) {w : World} (hb : w.heap[b]? = some o) (j : Nat) (u : Value) (hj : xs[j]? = some u) : w.cell? ⟨b, j, none⟩ = some u := by
  obtain ⟨h1, cap, cur, rfl, rfl, h2, h3, h4, h5⟩ := h
  rw [cell_of_row w b j _ _ _ hb]
  have hl : j < xs.length := (List.getElem?_eq_some_iff.1 hj).1
  have : (cur.toList.take (n * size))[j]? = some u := by rw [h5]; exact hj
  rw [List.getElem?_take_of_lt (by omega), Array.getElem?_toList] at this
  exact this
section
variable {w0 w w' : World} {S P A M : Nat} {Q : List Sh → List Pc → Prop} {O : List (Nat × Obj)}
/-- a block of the call's own gone over into a new one -/
theorem Frm.moved {x : Nat} {o : Obj} (h : Frm w0 w S P A M Q ((x, o) :: O)) (g : w.grownBy w' (some x)) (x' : Nat) (o' : Obj) (hx : w.heap.size ≤ x') (hx2 : w'.heap[x']? = some o') : Frm w0 w' S P A M Q ((x', o') :: O) := by
  obtain ⟨l, L, h1, h2, h3, h4⟩ := h
  have h5 := h1.wrote (x := x) (by simp) g
  have hlt := (Array.getElem?_eq_some_iff.1 hx2).1
  rw [List.map_cons, List.nodup_cons] at h3
  have hmem : ∀ p ∈ O, p.1 ∈ ((x, o) :: O).map (·.1) := fun p hp => List.mem_map_of_mem (List.mem_cons_of_mem _ hp)
  refine ⟨l, L, ⟨h5.1.ls, fun y hy => ?_⟩, h2, ?_, fun p hp => ?_⟩
  · rw [List.map_cons] at hy
    rcases List.mem_cons.1 hy with rfl | hy
    · exact ⟨Nat.le_trans h1.ls.be.size hx, hlt, fun hs => by have := h1.sm.lt hs; omega⟩
    · exact h5.1.far y (by rw [List.map_cons]; exact List.mem_cons_of_mem _ hy)
  · rw [List.map_cons, List.nodup_cons]
    refine ⟨fun hm => ?_, h3.2⟩
    have := (h1.far x' (by rw [List.map_cons]; exact List.mem_cons_of_mem _ hm)).2.1
    simp only at *
    omega
  · rcases List.mem_cons.1 hp with rfl | hp
    · exact hx2
    · rw [h5.2 p.1 (h1.far p.1 (hmem p hp)).2.1 (fun e => h3.1 (by
        have h6 : p.1 ∈ O.map (·.1) := List.mem_map_of_mem hp
        rw [e] at h6; exact h6))]
      exact h4 p (List.mem_cons_of_mem _ hp)
theorem wpList_append_fr {ops : Array Oper} {rest : List Oper} {o : Oper} {a : Act} {Qx : Exit → Act → World → Prop} (hgd : o.guard = none) (s x : Operand) (t : TypeId)
    (ho : o.op = .call { callee := .builtin .append, args := #[s, x], argTypes := #[t, t] })
    (e : TypeId) (z : Value) (size bytes : Nat) (ht : Try.prog.underlying t = some (.slice e)) (hi : (Try.prog.info? e).map (fun i => (i.zero, i.size, i.bytes)) = some (some z, size, bytes))
    (hzs : z.cells.size = size) (hsz : 0 < size) {b : Nat} {ob : Obj} (h : Frm w0 w S P A M Q ((b, ob) :: O)) {v : Value} {n : Nat} {xs : List Value} (hs : a.eval s = v) (R : RowO e size v n xs b ob)
    (ad : Addr) (m c : Nat) (news : List Value) (hx : a.eval x = .slice (some ad) m c) (hl : news.length = m * size) (hnews : ∀ j u, news[j]? = some u → w.cell? (ad.add j) = some u) (h1 : ∀ u ∈ news, u.oneCell' = true)
    (h63 : n + m ≤ maxLen) (hbytes : (n + m) * bytes ≤ 140737488355328) (hm : 0 < m)
    (hq : ∀ v' w' b' o', RowO e size v' (n + m) (xs ++ news) b' o' → Frm w0 w' S P A M Q ((b', o') :: O) → wpList Try.prog ops Qx rest (a.put o.dst v') w') : wpList Try.prog ops Qx (o :: rest) a w := by
  refine wpList_plain hgd fun _ hK => ?_
  obtain ⟨i0, hi0, hz0, hz1, hz2⟩ := info_parts3 hi
  have hR := R
  obtain ⟨r1, cap, cur, rfl, rfl, r2, r3, r4, r5⟩ := R
  have hown : w.ownsRow 0 e size (.slice (some ⟨b, 0, none⟩) n cap) n xs := ⟨r1, .inr ⟨b, cap, cur, rfl, Nat.zero_le _, h.own (m0 _ _), r2, r3, r4, r5⟩⟩
  obtain ⟨v', w', hrun, h2, h3, h6, h5⟩ := run_append_own_at (P := Try.prog) w 0 t o.type e i0 z size bytes ht hi0 hz0 hz1 hz2 hzs hsz _ n _ hown ad m c news hl hnews h1 h63 hbytes (Nat.zero_le _)
  unfold Oper.wp execOp
  simp only [ho, resolve, invoke, builtin, Sem.run_bind, Sem.run_pure, Result.andThen_ok, List.map_toArray, List.map_cons, List.map_nil, hs, hx, hrun]
  rcases h2.2 with ⟨rfl, h0⟩ | ⟨g, cap', cur', rfl, _, hg, k1, k2, k3, k4⟩
  · omega
  · have hrow : RowO e size (.slice (some ⟨g, 0, none⟩) (n + m) cap') (n + m) (xs ++ news) g (.cells cur' e (0, 0)) := ⟨h2.1, cap', cur', rfl, rfl, k1, k2, k3, k4⟩
    refine hK _ _ (hq _ w' g _ hrow ?_)
    rcases h5 with h7 | h7
    · have e1 : g = b := by have := Option.some.inj h7; exact this
      subst e1
      exact h.put h3 _ hg
    · have e1 : g = w.heap.size := by have := Option.some.inj h7; exact this
      exact h.moved h3 g _ (by omega) hg
end
end Go.Proofs.Ytkmkjfbbpeocdaa
