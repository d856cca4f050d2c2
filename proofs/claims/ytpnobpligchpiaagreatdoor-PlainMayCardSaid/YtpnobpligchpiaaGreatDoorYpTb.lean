/- texts of YpTb -/
import Derived.Deep.CutBlock
import Derived.Deep.CutRange
import Derived.Test.YtpnobpligchpiaaGreatDoorYpFc
import Derived.Test.YtpnobpligchpiaaGreatDoorYpK
import Derived.Test.YtpnobpligchpiaaGreatDoorYpTa
import Derived.Test.YtpnobpligchpiaaGreatDoorYpVa
namespace Go.Proofs.YtpnobpligchpiaaGreatDoor
set_option maxRecDepth 100000
open Go.RowKit
set_option linter.unusedVariables false
set_option linter.unusedSimpArgs false
structure YR (w : World) (base : Nat) (v : Value) (ms : List Rl) : Prop where
 row : w.ownsRow base 33 1 v ms.length (ms.map Rl.v)
 line : ∀ m ∈ ms, OB w base m.v m.l ∧ ∀ k, m.v.ownBlock = some k → v.ownBlock ≠ some k
section
variable {w w' : World} {base : Nat} {v : Value} {ms : List Rl}
theorem YR.nil (w : World) (base : Nat) : YR w base (.slice none 0 0) [] := ⟨World.ownsRow_nil _ _ _ _, fun m hm => (by cases hm)⟩
theorem YR.same (h : YR w base v ms) (hs : ∀ k, LB v ms k → w'.heap[k]? = w.heap[k]?) : YR w' base v ms :=
 ⟨ownsRow_same h.row fun k hk => hs k (.inl hk), fun m hm => ⟨(h.line m hm).1.same fun k hk => hs k (.inr ⟨m, hm, hk⟩), (h.line m hm).2⟩⟩
theorem YR.lt (h : YR w base v ms) {k : Nat} (hk : LB v ms k) : base ≤ k ∧ k < w.heap.size := by
 rcases hk with hk | ⟨m, hm, hk⟩
 · exact World.ownsRow.lt h.row k hk
 · exact (h.line m hm).1.lt k hk
theorem YR.belows (h : YR w base v ms) {B : Nat} (hb : Below B w w') (hB : w.heap.size ≤ B) : YR w' base v ms := h.same fun k hk => hb.block k (Nat.lt_of_lt_of_le (h.lt hk).2 hB)
theorem YR.mono (h : YR w base v ms) {b' : Nat} (hb : b' ≤ base) : YR w b' v ms := by
 refine ⟨⟨h.row.1, ?_⟩, fun m hm => ⟨(h.line m hm).1.less hb, (h.line m hm).2⟩⟩
 rcases h.row.2 with h0 | ⟨g, cap, cur, hv, hg, h2⟩
 · exact .inl h0
 · exact .inr ⟨g, cap, cur, hv, by omega, h2⟩
theorem YR.snoc {w4 : World} {v2 : Value} (h : YR w base v ms) (m : Rl) (ho : OB w base m.v m.l) (hne : ∀ k, m.v.ownBlock = some k → v.ownBlock ≠ some k) (g : w.grownBy w4 v.ownBlock)
 (hr : w4.ownsRow base 33 1 v2 (ms.length + 1) (ms.map Rl.v ++ [m.v])) (e : v2.ownBlock = v.ownBlock ∨ v2.ownBlock = some w.heap.size) : YR w4 base v2 (ms ++ [m]) := by
 have hone : ∀ y ∈ ms ++ [m], OB w base y.v y.l ∧ ∀ k, y.v.ownBlock = some k → v.ownBlock ≠ some k := fun y hy => by
  rcases List.mem_append.1 hy with hy | hy
  · exact h.line y hy
  · obtain rfl := List.mem_singleton.1 hy
    exact ⟨ho, hne⟩
 refine ⟨by rw [List.length_append, List.map_append]; exact hr, fun y hy => ?_⟩
 obtain ⟨q0, q1⟩ := hone y hy
 refine ⟨q0.same fun k hk => g.block k (q0.lt k hk).2 (fun e => q1 k hk e.symm), fun k hk e3 => ?_⟩
 rcases e with e | e
 · exact q1 k hk (e.symm.trans e3)
 · have := Option.some.inj (e.symm.trans e3); have := (q0.lt k hk).2; omega
theorem YR.reads (h : YR w base v ms) (n : Nat) (hn : ms.length = n) : ∃ A c, v = .slice A n c ∧ RR w w.heap.size A (ms.map Rl.l) := by
 subst hn
 rcases h.row.2 with ⟨hv, h0⟩ | ⟨g, cap, cur, hv, h1, h2, h3, h4, h5, h6⟩
 · have h00 : ms.length = 0 := h0
   obtain rfl : ms = [] := List.eq_nil_of_length_eq_zero h00
   exact ⟨none, 0, hv, RR.nil _ _ _⟩
 · refine ⟨some ⟨g, 0, none⟩, cap, hv, fun j l hj => ?_⟩
   have hj2 : j < ms.length := by have := (List.getElem?_eq_some_iff.1 hj).1; simpa using this
   obtain ⟨A, c, hmv, hx1, hx2, hrb⟩ := (h.line ms[j] (List.getElem_mem hj2)).1.form_n ms[j].l.length rfl
   have hl : ms[j].l = l := by
    rw [List.getElem?_map, List.getElem?_eq_getElem hj2] at hj
    exact Option.some.inj hj
   rw [hl] at hmv hrb hx1
   refine ⟨g, A, c, rfl, (Array.getElem?_eq_some_iff.1 h2).1, ?_, hrb, hx1, hx2⟩
   rw [cell_of_row w g j _ _ _ h2]
   have e := congrArg (·[j]?) h6
   simp only [Nat.mul_one, List.getElem?_take, hj2, if_true, List.getElem?_map, List.getElem?_eq_getElem hj2, Option.map_some] at e
   rw [← hmv]
   simpa using e
end
def sOne (u : Value) : Obj := .cells #[u] 33
theorem wpList_append_rows {w : World} {ops : Array Oper} {rest : List Oper} {o : Oper} {a : Act} {Q : Exit → Act → World → Prop} (hgd : o.guard = none) (s x : Operand)
 (ho : o.op = .call { callee := .builtin .append, args := #[s, x], argTypes := #[73, 73] })
 (base : Nat) (v : Value) (us : List Value) (u : Value) (hs : a.eval s = v) (hown : (w.alloc (sOne u)).ownsRow base 33 1 v us.length us) (h1 : u.oneCell' = true) (P : Nat) (hP : w.heap.size = P) (hx : a.eval x = .slice (some ⟨P, 0, none⟩) 1 1) (hlen : us.length ≤ 2000) (hbase : base ≤ w.heap.size)
 (h : ∀ v' w', w'.ownsRow base 33 1 v' (us.length + 1) (us ++ [u]) → (w.alloc (sOne u)).grownBy w' v.ownBlock → (v'.ownBlock = v.ownBlock ∨ v'.ownBlock = some (w.heap.size + 1)) → wpList Tryz.prog ops Q rest (a.put o.dst v') w') : wpList Tryz.prog ops Q (o :: rest) a (w.alloc (sOne u)) := by
 subst hP
 obtain ⟨i0, hi0, hz0, hz1, hz2⟩ := info_parts bs_info
 refine wpList_append_own_at (P := Tryz.prog) (w.alloc (sOne u)) hgd s x 73 ho base 33 i0 (.slice none 0 0) 1 24 Tryz.underlying73 hi0 hz0 hz1 hz2 rfl (by decide) v us.length _ hs hown ⟨w.heap.size, 0, none⟩ 1 1 [u] hx rfl (cell_one_new _ _ _) (by simp [h1]) (by unfold maxLen; omega) (by omega) (by rw [World.size_alloc]; omega) ?_
 intro v' w' h1 h2 _ h4
 exact h v' w' h1 h2 (by rw [World.size_alloc] at h4; exact h4)
theorem YR.push {W w4 : World} {base : Nat} {v v2 : Value} {ms : List Rl} (h : YR W base v ms) (u : Value) (l : List UInt8) (M : Nat) (hM : W.heap.size = M) (X : World) (hb : Below M W X) (ho : OB X M u l)
 (g : (X.alloc (sOne u)).grownBy w4 v.ownBlock) (hr : w4.ownsRow base 33 1 v2 ((ms.map Rl.v).length + 1) (ms.map Rl.v ++ [u])) (e : v2.ownBlock = v.ownBlock ∨ v2.ownBlock = some (X.heap.size + 1)) (hB : base ≤ M) : YR w4 base v2 (ms ++ [⟨u, l⟩]) ∧ Below M W X := by
 have hb2 : Below M W (X.alloc (sOne u)) := hb.alloc (by rw [← hM]; exact hb.size) _
 have h2 : YR (X.alloc (sOne u)) base v ms := h.belows hb2 (by rw [hM]; exact nl _)
 refine ⟨h2.snoc ⟨u, l⟩ ((ho.below ((bR _ _).alloc (nl _) _) (nl _)).less hB) (fun k hk e2 => ?_) g (by rw [List.length_map] at hr; exact hr) (by rw [World.size_alloc]; exact e), hb⟩
 have := (ho.lt k hk).1
 have := (h.lt (.inl e2)).2
 omega
open Go.RowKit Go.Maps
open Go.RowKit Go.Maps
open Go.RowKit Go.Maps
end Go.Proofs.YtpnobpligchpiaaGreatDoor
