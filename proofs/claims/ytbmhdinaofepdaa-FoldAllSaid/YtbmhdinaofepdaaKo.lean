/- OWN OPERATIONS, programs' blocks, the laws' Cut under new names. (Taken out of XOp, XOq, XOr: of every seat that has api.Prog and lacks their laws.) -/
import Derived.Test.YtbmhdinaofepdaaOo
namespace Go.Proofs.Ytbmhdinaofepdaa
set_option maxRecDepth 100000
open Go.RowKit
set_option linter.unusedVariables false
attribute [local go_sem ↓] Go.wp_at_zero Go.wp_at_succ

theorem OO.form_n {w : World} {base : Nat} {v : Value} {os : List O4} (h : OO w base v os) (n : Nat) (hn : os.length = n) : ∃ A cap, v = .slice A n cap := by
  obtain ⟨A, cap, e, _⟩ := h.form
  rw [hn] at e
  exact ⟨A, cap, e⟩
theorem ret_bool {a b : Bool} (h : a = b) : Ending.returned (.bool a) = .returned (.bool b) := by rw [h]
theorem oObj_reads (w : World) (o : O4) : RO (w.alloc (oObj o)) (w.heap.size + 1) (some ⟨w.heap.size, 0, none⟩) [o] := fun _ => by
  have r : (w.alloc (oObj o)).rowIs w.heap.size 46 4 (opF o) := World.rowIs_alloc w _ _ _ (fun i hi => by
    have hi : i < 4 := hi
    obtain rfl | rfl | rfl | rfl : i = 0 ∨ i = 1 ∨ i = 2 ∨ i = 3 := by omega
    all_goals rfl)
  refine ⟨_, _, rfl, Nat.lt_succ_self _, fun j hj => ?_⟩
  have hj : j < 1 := hj
  obtain rfl : j = 0 := by omega
  exact ⟨r.cell (show 0 < 4 by omega), r.cell (show 1 < 4 by omega), r.cell (show 2 < 4 by omega), r.cell (show 3 < 4 by omega)⟩
def pF (t : ByteArray) (v : Value) (i : Nat) : Value := if i = 0 then .string t else v
theorem pRow (w : World) (t : ByteArray) (v : Value) : (w.alloc (.cells #[.string t, v] 24)).rowIs w.heap.size 24 2 (pF t v) := World.rowIs_alloc w _ _ _ (fun i hi => by
  have hi : i < 2 := hi
  obtain rfl | rfl : i = 0 ∨ i = 1 := by omega
  all_goals rfl)
/-- two stores into a program's block -/
theorem stored2 {w : World} {G : Nat} {u v u' v' : Value} (h0 : w.cell? ⟨G, 0, none⟩ = some u') (h1 : w.cell? ⟨G, 1, none⟩ = some v') (B : Nat) (hB : B ≤ G) :
    ((w.setCell ⟨G, 0, none⟩ u).setCell ⟨G, 1, none⟩ v).cell? ⟨G, 0, none⟩ = some u ∧ ((w.setCell ⟨G, 0, none⟩ u).setCell ⟨G, 1, none⟩ v).cell? ⟨G, 1, none⟩ = some v ∧
    Below B w ((w.setCell ⟨G, 0, none⟩ u).setCell ⟨G, 1, none⟩ v) ∧ ((w.setCell ⟨G, 0, none⟩ u).setCell ⟨G, 1, none⟩ v).heap.size = w.heap.size := by
  refine ⟨?_, ?_, ((Below.refl _ _).setCell hB _).setCell hB _, by simp⟩
  · go_simp
  · go_simp
theorem lcut_named (t : ByteArray) (A : Option Addr) (os : List O4) (cap k : Nat) (n : Int) (hn : Hid (n = k)) (w : World) (n0 : 0 ≤ n) (n1 : n ≤ 1000) (hc : os.length ≤ cap) (hm : cap ≤ maxLen) :
    Calls Try.prog 8 #[.agg #[.string t, .slice A os.length cap], .int .i64 n] w fun e w' => ∃ u os', Hid (u = cutT t) ∧ Hid (os' = os.take k) ∧ e = .returned (.agg #[.string u, .slice A os'.length cap]) ∧ Below w.heap.size w w' :=
  (lcut_any t A os cap k n hn w n0 n1 hc hm).mono fun e w' ⟨he, hw⟩ => ⟨_, _, rfl, rfl, he, hw⟩
/-- what is owned reads so -/
theorem OO.reads {w : World} {base : Nat} {A : Option Addr} {n c : Nat} {os : List O4} (h : OO w base (.slice A n c) os) : os.length = n ∧ n ≤ c ∧ c ≤ maxLen ∧ RO w w.heap.size A os := by
  obtain ⟨A', c', e, h1, h2, h3⟩ := h.form
  injection e with e1 e2 e3
  subst e1 e2 e3
  exact ⟨rfl, h1, h2, h3⟩
theorem OO.below {w w' : World} {base B : Nat} {v : Value} {l : List O4} (h : OO w base v l) (hb : Below B w w') (hB : w.heap.size ≤ B) : OO w' base v l := by
  have hg : w.grownBy w' none := ⟨hb.os, hb.tape, hb.output, hb.size, fun i hi _ => hb.block i (by omega)⟩
  refine World.ownsRow.kept h hg ?_
  cases hv : v.ownBlock with
  | none => exact .inl rfl
  | some k => exact .inr (by simp)
theorem OO.ge {w : World} {base : Nat} {v : Value} {l : List O4} (h : OO w base v l) : ∀ k, v.ownBlock = some k → base ≤ k := fun k hk => (World.ownsRow.lt h k hk).1
theorem OO.lo {w : World} {base : Nat} {v : Value} {l : List O4} (h : OO w base v l) : ∀ k, v.ownBlock = some k → k < w.heap.size := fun k hk => (World.ownsRow.lt h k hk).2
/-- a slice of one operation, just made -/
theorem OO.lit (w : World) (o : O4) (base : Nat) (hb : base ≤ w.heap.size) : OO (w.alloc (oObj o)) base (.slice (some ⟨w.heap.size, 0, none⟩) 1 1) [o] :=
  ⟨by simp [opsL, opL], .inr ⟨w.heap.size, 1, _, rfl, hb, heap_alloc_new w _, Nat.le_refl _, by unfold maxLen; omega, by rfl, by rfl⟩⟩
theorem opsL_append (os ps : List O4) : opsL (os ++ ps) = opsL os ++ opsL ps := by
  induction os with
  | nil => rfl
  | cons o r ih => rw [List.cons_append, opsL, opsL, ih, List.append_assoc]
theorem opsL_plain {os : List O4} {u : Value} (h : u ∈ opsL os) : ∃ z, u = .int .i64 z := by
  induction os with
  | nil => cases h
  | cons o r ih =>
    rw [opsL, List.mem_append] at h
    rcases h with h | h
    · simp only [opL, List.mem_cons, List.not_mem_nil, or_false] at h
      rcases h with rfl | rfl | rfl | rfl <;> exact ⟨_, rfl⟩
    · exact ih h
theorem run_append_ops (w : World) (base : Nat) (ty : TypeId) (v : Value) (os ps : List O4) (hown : OO w base v os)
    (B : Nat) (A : Option Addr) (c : Nat) (hr : RO w B A ps) (hlen : os.length + ps.length ≤ 1000000) (hbase : base ≤ w.heap.size) :
    ∃ v' w', (Builtin.append_ #[22, 22] ty #[v, .slice A ps.length c]).run Try.prog w = .ok v' w' ∧ OO w' base v' (os ++ ps) ∧ w.grownBy w' v.ownBlock ∧
      (v'.ownBlock = v.ownBlock ∨ v'.ownBlock = some w.heap.size) := by
  obtain ⟨i0, hi0, hz0, hz1, hz2⟩ := info_parts op_info
  cases A with
  | none =>
    obtain rfl : ps = [] := by
      rcases Nat.eq_zero_or_pos ps.length with h0 | h0
      · exact List.eq_nil_of_length_eq_zero h0
      · obtain ⟨b, off, e, _⟩ := hr h0
        cases e
    refine ⟨v, w, ?_, by rw [List.append_nil]; exact hown, ⟨rfl, rfl, rfl, Nat.le_refl _, fun _ _ _ => rfl⟩, .inl rfl⟩
    rcases hown.2 with ⟨rfl, h0⟩ | ⟨g, cap, cur, rfl, _, _, hnc, _⟩
    · simp [Builtin.append_, run_underlying Try.underlying22, sizeOf, typeInfo, hi0, Builtin.lenOf, Builtin.firstCells]
    · simp [Builtin.append_, run_underlying Try.underlying22, sizeOf, typeInfo, hi0, Builtin.lenOf, Builtin.firstCells, hnc, storeCells]
  | some ad =>
    obtain ⟨v', w', hrun, h2, h3, _, h5⟩ := run_append_own_at (P := Try.prog) w base 22 ty 46 i0 (opV zeroO) 4 32 Try.underlying22 hi0 hz0 hz1 hz2 rfl (by decide) v os.length _ hown ad ps.length c (opsL ps) (opsL_len ps)
        (fun j u hj => by
          have hjl : j / 4 < ps.length := by
            have h1 : j < (opsL ps).length := by
              rcases Nat.lt_or_ge j (opsL ps).length with h | h
              · exact h
              · rw [List.getElem?_eq_none h] at hj; cases hj
            rw [opsL_len] at h1
            omega
          obtain ⟨b, off, e, _, hcell⟩ := hr (by omega)
          have e := Option.some.inj e
          subst e
          have e2 : j = j / 4 * 4 + j % 4 := by omega
          rw [e2, opsL_at ps (j / 4) (j % 4) hjl (by omega)] at hj
          injection hj with hj
          rw [Addr.add_lit, ← hj]
          obtain ⟨c0, c1, c2, c3⟩ := hcell (j / 4) hjl
          generalize hq : j / 4 = q at *
          obtain h | h | h | h : j % 4 = 0 ∨ j % 4 = 1 ∨ j % 4 = 2 ∨ j % 4 = 3 := by omega
          · rw [h, show off + j = off + q * 4 by omega]; exact c0
          · rw [h, show off + j = off + q * 4 + 1 by omega]; exact c1
          · rw [h, show off + j = off + q * 4 + 2 by omega]; exact c2
          · rw [h, show off + j = off + q * 4 + 3 by omega]; exact c3)
        (fun u hu => by
          obtain ⟨x, rfl⟩ := opsL_plain hu
          rfl) (by unfold maxLen; omega) (by omega) hbase
    exact ⟨v', w', hrun, by unfold OO; rw [List.length_append, opsL_append]; exact h2, h3, h5⟩
theorem wpList_append_ops {w : World} {ops : Array Oper} {rest : List Oper} {o : Oper} {a : Act} {Q : Exit → Act → World → Prop} (hgd : o.guard = none) (s x : Operand)
    (ho : o.op = .call { callee := .builtin .append, args := #[s, x], argTypes := #[22, 22] })
    (base : Nat) (v : Value) (os ps : List O4) (hs : a.eval s = v) (hown : OO w base v os)
    (B : Nat) (A : Option Addr) (c : Nat) (hx : a.eval x = .slice A ps.length c) (hr : RO w B A ps) (hlen : os.length + ps.length ≤ 1000000) (hbase : base ≤ w.heap.size)
    (h : ∀ v' w', OO w' base v' (os ++ ps) → w.grownBy w' v.ownBlock → (v'.ownBlock = v.ownBlock ∨ v'.ownBlock = some w.heap.size) → wpList Try.prog ops Q rest (a.put o.dst v') w') : wpList Try.prog ops Q (o :: rest) a w := by
  refine wpList_plain hgd fun _ hK => ?_
  obtain ⟨v', w', hrun, h2, h3, h4⟩ := run_append_ops w base o.type v os ps hown B A c hr hlen hbase
  unfold Oper.wp execOp
  simp only [ho, resolve, invoke, builtin, Sem.run_bind, Sem.run_pure, Result.andThen_ok, List.map_toArray, List.map_cons, List.map_nil, hs, hx, hrun]
  exact hK _ _ (h v' w' h2 h3 h4)
theorem step_append_ops {w : World} {ops : Array Oper} {o : Oper} {a : Act} {K : Act → World → Prop} {Q : Exit → Act → World → Prop} {E : Prop} (hgd : o.guard = none) (s x : Operand)
    (ho : o.op = .call { callee := .builtin .append, args := #[s, x], argTypes := #[22, 22] })
    (base : Nat) (v : Value) (os ps : List O4) (hs : a.eval s = v) (hown : OO w base v os)
    (B : Nat) (A : Option Addr) (c : Nat) (hx : a.eval x = .slice A ps.length c) (hr : RO w B A ps) (hlen : os.length + ps.length ≤ 1000000) (hbase : base ≤ w.heap.size)
    (h : ∀ v' w', OO w' base v' (os ++ ps) → w.grownBy w' v.ownBlock → (v'.ownBlock = v.ownBlock ∨ v'.ownBlock = some w.heap.size) → K (a.put o.dst v') w') :
    if Region.wanted o (yielded ops a.tmps) = true then Oper.wp Try.prog o a w K Q else E := by
  have hw : Region.wanted o (yielded ops a.tmps) = true := by simp [Region.wanted, hgd]
  rw [if_pos hw]
  obtain ⟨v', w', hrun, h2, h3, h4⟩ := run_append_ops w base o.type v os ps hown B A c hr hlen hbase
  unfold Oper.wp execOp
  simp only [ho, resolve, invoke, builtin, Sem.run_bind, Sem.run_pure, Result.andThen_ok, List.map_toArray, List.map_cons, List.map_nil, hs, hx, hrun]
  exact h v' w' h2 h3 h4
end Go.Proofs.Ytbmhdinaofepdaa
