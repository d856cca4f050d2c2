/- NetAll: an operation in its block; eq; Short; the law's own row of mails. -/
import Derived.Test.YtolnafpicfemnaaHh
import Derived.Test.YtolnafpicfemnaaHn
namespace Go.Proofs.Ytolnafpicfemnaa
set_option maxRecDepth 100000
open Go.RowKit
set_option linter.unusedVariables false
set_option linter.unusedSimpArgs false

abbrev opV (k i p x f t : Int) (A : Option Addr) (n c : Nat) : Value := .agg #[.int .i64 k, .int .i64 i, .int .i64 p, .int .u8 x, .int .i64 f, .int .i64 t, .slice A n c]
abbrev opO (k i p x f t : Int) (A : Option Addr) (n c : Nat) : Obj := .cells #[.int .i64 k, .int .i64 i, .int .i64 p, .int .u8 x, .int .i64 f, .int .i64 t, .slice A n c] 31
/-- an operation lies at block P -/
def OpM (w : World) (P : Nat) (k i p x f t : Int) (A : Option Addr) (n c : Nat) : Prop := w.heap[P]? = some (opO k i p x f t A n c)
section
variable {w w' : World} {P : Nat} {k i p x f t : Int} {A : Option Addr} {n cp : Nat}
theorem OpM.c (h : OpM w P k i p x f t A n cp) : w.cell? ⟨P, 0, none⟩ = some (.int .i64 k) ∧ w.cell? ⟨P, 1, none⟩ = some (.int .i64 i) ∧ w.cell? ⟨P, 2, none⟩ = some (.int .i64 p) ∧ w.cell? ⟨P, 3, none⟩ = some (.int .u8 x) ∧ w.cell? ⟨P, 4, none⟩ = some (.int .i64 f) ∧ w.cell? ⟨P, 5, none⟩ = some (.int .i64 t) ∧ w.cell? ⟨P, 6, none⟩ = some (.slice A n cp) := by
  refine ⟨?_, ?_, ?_, ?_, ?_, ?_, ?_⟩ <;> (rw [cell_of_row _ _ _ _ _ _ h]; rfl)
theorem OpM.lt (h : OpM w P k i p x f t A n cp) : P < w.heap.size := cell_lt h.c.1
theorem OpM.below {B : Nat} (h : OpM w P k i p x f t A n cp) (hb : Below B w w') (hB : P < B) : OpM w' P k i p x f t A n cp := (hb.block P hB).trans h
theorem OpM.then_ (h : OpM w P k i p x f t A n cp) (hb : Below w.heap.size w w') : OpM w' P k i p x f t A n cp := h.below hb h.lt
theorem OpM.kept {g : Nat} (h : OpM w P k i p x f t A n cp) (hg : w.grownBy w' (some g)) (hne : P ≠ g) : OpM w' P k i p x f t A n cp := (hg.block P h.lt (fun e => hne (Option.some.inj e))).trans h
theorem OpM.gr {row : Option Nat} (h : OpM w P k i p x f t A n cp) (hg : w.grownBy w' row) (hne : row ≠ some P) : OpM w' P k i p x f t A n cp := (hg.block P h.lt (fun e => hne e.symm)).trans h
theorem OpM.same {O : Nat → Prop} (h : OpM w P k i p x f t A n cp) (S : Same O w w') (hO : O P) : OpM w' P k i p x f t A n cp := (S P hO).trans h
end
theorem op7_size : (Try.prog.info? 31).map (·.size) = some 7 := by kernel_rfl
theorem wpList_store_op {w : World} {ops : Array Oper} {rest : List Oper} {o : Oper} {a : Act} {Q : Exit → Act → World → Prop} (hgd : o.guard = none) (y z : Operand) (ho : o.op = .store 31 y z)
    (b : Nat) (hx : a.eval y = .pointer (some ⟨b, 0, none⟩)) {k i p x f t : Int} {A : Option Addr} {n c : Nat} (h : OpM w b k i p x f t A n c)
    {k2 i2 p2 x2 f2 t2 : Int} {A2 : Option Addr} {n2 c2 : Nat} (hy : a.eval z = opV k2 i2 p2 x2 f2 t2 A2 n2 c2)
    (hk : ∀ w', OpM w' b k2 i2 p2 x2 f2 t2 A2 n2 c2 → w.grownBy w' (some b) → wpList Try.prog ops Q rest (a.put o.dst undef) w') : wpList Try.prog ops Q (o :: rest) a w := by
  refine wpList_plain hgd fun K hK => ?_
  have hrun := run_storeVar_row (P := Try.prog) w b 31 31 _ #[.int .i64 k2, .int .i64 i2, .int .i64 p2, .int .u8 x2, .int .i64 f2, .int .i64 t2, .slice A2 n2 c2] h (by rw [op7_size]; rfl) rfl (by simp [Value.oneCell'])
  unfold Oper.wp execOp
  simp only [ho, hx, hy, opV, Instr.storeAt, Instr.sureAddr, Sem.run_bind, Sem.run_pure, Result.andThen_ok, hrun]
  exact hK _ _ (hk _ (setRow_heap w b _ _ _ _ h) ⟨rfl, rfl, rfl, by simp [World.setRow], fun k hk hne => setRow_other w b k _ (fun e => hne (by rw [e]))⟩)
theorem OpM.new (w : World) (k i p x f t : Int) (A : Option Addr) (n c : Nat) : OpM (w.alloc (opO k i p x f t A n c)) w.heap.size k i p x f t A n c := heap_alloc_new w _
/-- an operation loaded out of a row -/
theorem run_load_op (w : World) (g o : Nat) {q : O7} (h : at7 w g o q) :
    (loadVar 31 ⟨g, o, none⟩).run Try.prog w = .ok (opV q.k q.i q.p q.x q.f q.t q.a q.l.length q.cap) w := by
  obtain ⟨c0, c1, c2, c3, c4, c5, c6⟩ := h
  have hl : (loadCells ⟨g, o, none⟩ 7).run Try.prog w = .ok #[.int .i64 q.k, .int .i64 q.i, .int .i64 q.p, .int .u8 q.x, .int .i64 q.f, .int .i64 q.t, .slice q.a q.l.length q.cap] w :=
    run_loadCells_list (P := Try.prog) w ⟨g, o, none⟩ [.int .i64 q.k, .int .i64 q.i, .int .i64 q.p, .int .u8 q.x, .int .i64 q.f, .int .i64 q.t, .slice q.a q.l.length q.cap] (fun j v hv => by
      have hj : j < 7 := (List.getElem?_eq_some_iff.1 hv).1
      rw [Addr.add_lit]
      obtain rfl | rfl | rfl | rfl | rfl | rfl | rfl : j = 0 ∨ j = 1 ∨ j = 2 ∨ j = 3 ∨ j = 4 ∨ j = 5 ∨ j = 6 := by omega
      · rw [Nat.add_zero, c0]; exact hv
      · rw [c1]; exact hv
      · rw [c2]; exact hv
      · rw [c3]; exact hv
      · rw [c4]; exact hv
      · rw [c5]; exact hv
      · rw [c6]; exact hv)
  have hq := op7_size
  cases hi : Try.prog.info? 31 with
  | none => rw [hi] at hq; simp at hq
  | some i =>
    have hs : i.size = 7 := by rw [hi] at hq; simpa using hq
    have hagg : (isAgg 31).run Try.prog w = .ok true w := by
      unfold isAgg
      rw [Sem.run_bind, run_underlying Try.underlying31 w]
      rfl
    simp [loadVar, Sem.run_bind, hagg, sizeOf, typeInfo, hi, hs, hl]
theorem wpList_load_op {w : World} {ops : Array Oper} {rest : List Oper} {o : Oper} {a : Act} {Q : Exit → Act → World → Prop} (hgd : o.guard = none) (x : Operand) (ho : o.op = .load 31 x)
    (g off : Nat) (hx : a.eval x = .pointer (some ⟨g, off, none⟩)) {q : O7} (h : at7 w g off q)
    (hk : wpList Try.prog ops Q rest (a.put o.dst (opV q.k q.i q.p q.x q.f q.t q.a q.l.length q.cap)) w) : wpList Try.prog ops Q (o :: rest) a w := by
  refine wpList_plain hgd fun K hK => ?_
  have hrun := run_load_op w g off h
  unfold Oper.wp execOp
  simp only [ho, hx, Instr.loadAt, Instr.sureAddr, Sem.run_bind, Sem.run_pure, Result.andThen_ok, hrun]
  exact hK _ _ hk

/-! ### eq, Short -/
set_option maxHeartbeats 1000000 in
theorem eq_same (w : World) (f t : Int) (A1 A2 : Option Addr) (n c1 c2 : Nat) (l : List UInt8) (h1 : RB w w.heap.size A1 l) (h2 : RB w w.heap.size A2 l) (hn : l.length = n) :
    Calls Try.prog 14 #[mlV f t A1 n c1, mlV f t A2 n c2] w fun e w' => e = .returned (.bool true) ∧ Below w.heap.size w w' := by
  obtain ⟨W1, hW1⟩ : ∃ W1, W1 = (w.alloc (mlO f t A1 n c1)).alloc (mlO f t A2 n c2) := ⟨_, rfl⟩
  have B1 : Below w.heap.size w W1 := by rw [hW1]; exact ((Below.refl _ _).alloc (Nat.le_refl _) _).alloc (by simp) _
  have M1 : MlM W1 w.heap.size f t A1 n c1 := by rw [hW1]; exact (Below.heap_alloc _ _ _ (by simp)).trans (heap_alloc_new w _)
  have M2 : MlM W1 (w.heap.size + 1) f t A2 n c2 := by
    rw [hW1]
    have h := MlM.new (w.alloc (mlO f t A1 n c1)) f t A2 n c2
    rw [show (w.alloc (mlO f t A1 n c1)).heap.size = w.heap.size + 1 by simp] at h
    exact h
  obtain ⟨s, hs⟩ : ∃ s, str l = s := ⟨_, rfl⟩
  have q1 : (convert 27 9 (.slice A1 n c1)).run Try.prog W1 = .ok (.string s) W1 := by rw [← hs]; exact conv_rb (h1.below B1) n c1 hn
  have q2 : (convert 27 9 (.slice A2 n c2)).run Try.prog W1 = .ok (.string s) W1 := by rw [← hs]; exact conv_rb (h2.below B1) n c2 hn
  obtain ⟨x0, x1, x2⟩ := M1.c
  obtain ⟨y0, y1, y2⟩ := M2.c
  have BB := Lib.hid B1
  rw [hW1] at q1 q2 x0 x1 x2 y0 y1 y2 BB
  clear h1 h2 hn hs B1 M1 M2 hW1
  go_enter Try.func14, Try.ntmps14
  go_wp2
  go_ret
  exact ⟨rfl, BB.out⟩
theorem short_any (A : Option Addr) (l : List UInt8) (cap k : Nat) (w : World) (hk : k ≤ 1000) (hc : l.length ≤ cap) (hc2 : cap ≤ maxLen) :
    Calls Try.prog 10 #[.slice A l.length cap, .int .i64 k] w fun e w' => e = .returned (.slice A (l.take k).length cap) ∧ w = w' := by
  rw [List.length_take]
  unfold maxLen at hc2
  by_cases h : k < l.length
  · have h' : (k : Int) < (l.length : Int) := by omega
    have hkc : k ≤ cap := by omega
    rw [Nat.min_eq_left (by omega)]
    go_enter Try.func10, Try.ntmps10
    go_wp2
    go_ret
    exact ⟨by simp, rfl⟩
  · have h' : ¬ (k : Int) < (l.length : Int) := by omega
    rw [Nat.min_eq_right (by omega)]
    go_enter Try.func10, Try.ntmps10
    go_wp2
    go_ret
    exact ⟨rfl, rfl⟩

/-! ### the law's own row of mails -/
structure LW (w : World) (O : Nat → Prop) (v : Value) (ls : List Ml) (ps : List Pm) : Prop where
  row : WR w v ls
  ro : ∀ k, v.ownBlock = some k → O k
  mp : ls.map Ml.p = ps
  mail : ∀ m ∈ ls, OB w 0 m.v m.l ∧ ∀ k, m.v.ownBlock = some k → O k ∧ v.ownBlock ≠ some k
section
variable {w w' : World} {O O' : Nat → Prop} {v v' : Value} {ls : List Ml} {ps : List Pm}
theorem LW.nil (w : World) (O : Nat → Prop) : LW w O (.slice none 0 0) [] [] := ⟨WR.nil w, fun k hk => (by cases hk), rfl, fun m hm => (by cases hm)⟩
theorem LW.same (h : LW w O v ls ps) (S : Same O w w') : LW w' O v ls ps :=
  ⟨h.row.same fun k hk => S k (h.ro k hk), h.ro, h.mp, fun m hm => ⟨(h.mail m hm).1.same fun k hk => S k ((h.mail m hm).2 k hk).1, (h.mail m hm).2⟩⟩
theorem LW.more (h : LW w O v ls ps) (ho : ∀ k, O k → O' k) : LW w O' v ls ps :=
  ⟨h.row, fun k hk => ho k (h.ro k hk), h.mp, fun m hm => ⟨(h.mail m hm).1, fun k hk => ⟨ho k ((h.mail m hm).2 k hk).1, ((h.mail m hm).2 k hk).2⟩⟩⟩
theorem LW.len (h : LW w O v ls ps) : ls.length = ps.length := by rw [← h.mp, List.length_map]
theorem LW.forms (h : LW w O v ls ps) : ∀ m ∈ ls, ∃ A n c, m.v = .slice A n c := fun m hm => by
  obtain ⟨A, c, e, _⟩ := (h.mail m hm).1.form_n _ rfl
  exact ⟨A, _, c, e⟩
/-- a mail of it -/
theorem LW.at (h : LW w O v ls ps) {A : Option Addr} {n cap : Nat} (hv : v = .slice A n cap) (j : Nat) (p : Pm) (hp : ps[j]? = some p) (m : Nat) (hm : p.l.length = m) :
    ∃ (g : Nat) (B : Option Addr) (c : Nat) (hj : j < ls.length), A = some ⟨g, 0, none⟩ ∧ ls[j] = ⟨p.f, p.t, .slice B m c, p.l⟩ ∧ w.cell? ⟨g, j * 3, none⟩ = some (.int .i64 p.f) ∧ w.cell? ⟨g, j * 3 + 1, none⟩ = some (.int .i64 p.t) ∧ w.cell? ⟨g, j * 3 + 2, none⟩ = some (.slice B m c) ∧ m ≤ c ∧ c ≤ maxLen ∧ RB w w.heap.size B p.l := by
  subst hv
  obtain ⟨hj, e⟩ := nf_at h.mp hp
  obtain ⟨g, rfl, c0, c1, c2⟩ := h.row.at j hj
  have hob := (h.mail _ (List.getElem_mem hj)).1
  subst e
  obtain ⟨B, c, e2, h1, h2, h3⟩ := hob.form_n m hm
  refine ⟨g, B, c, hj, rfl, ?_, c0, c1, by rw [c2, e2], h1, h2, h3⟩
  rw [← e2]; rfl
end
/-- what the law made in between is its own -/
def Grab (O : Nat → Prop) (w w' : World) (k : Nat) : Prop := O k ∨ (w.heap.size ≤ k ∧ k < w'.heap.size)
section
variable {w0 w w' : World} {b : Nat} {ps : List Pm} {O : Nat → Prop}
theorem NF.grab (h : NF w0 w b ps O) (hb : Below w.heap.size w w') : NF w0 w' b ps (Grab O w w') := h.add hb fun _ hk => hk
theorem NF.lt (h : NF w0 w b ps O) {k : Nat} (hk : O k) : k < w.heap.size := by obtain ⟨v, ms, _, _, _, _, h5⟩ := h; exact (h5 k hk).2
theorem LW.grab {v : Value} {ls : List Ml} (h : LW w O v ls ps) (F : NF w0 w b ps O) (hb : Below w.heap.size w w') : LW w' (Grab O w w') v ls ps := (h.same (F.same hb)).more fun _ hk => .inl hk
/-- a mail more, appended to the row -/
theorem LW.snoc {v v' : Value} {ls : List Ml} (h : LW w O v ls ps) (g : w.grownBy w' v.ownBlock) (m : Ml) (hr : WR w' v' (ls ++ [m])) (hv : ∀ k, v'.ownBlock = some k → v.ownBlock = some k ∨ w.heap.size ≤ k)
    (hm : OB w 0 m.v m.l) (hmo : ∀ k, m.v.ownBlock = some k → O k ∧ v.ownBlock ≠ some k) : LW w' (Grab O w w') v' (ls ++ [m]) (ps ++ [m.p]) := by
  have hone : ∀ m1 ∈ ls ++ [m], OB w 0 m1.v m1.l ∧ ∀ k, m1.v.ownBlock = some k → O k ∧ v.ownBlock ≠ some k := fun m1 h1 => by
    rcases List.mem_append.1 h1 with h1 | h1
    · exact h.mail m1 h1
    · obtain rfl := List.mem_singleton.1 h1; exact ⟨hm, hmo⟩
  refine ⟨hr, fun k hk => ?_, by rw [List.map_append, h.mp]; rfl, fun m1 h1 => ?_⟩
  · rcases hv k hk with h2 | h2
    · exact .inl (h.ro k h2)
    · exact .inr ⟨h2, hr.lt k hk⟩
  · obtain ⟨h2, h3⟩ := hone m1 h1
    refine ⟨h2.same fun k hk => g.block k (h2.lt k hk).2 (fun e => (h3 k hk).2 e.symm), fun k hk => ⟨.inl (h3 k hk).1, fun e => ?_⟩⟩
    rcases hv k e with h4 | h4
    · exact (h3 k hk).2 h4
    · have := (h2.lt k hk).2; omega
/-- a mail gone: the row's head and its tail, appended to one another -/
theorem LW.erased {v v' : Value} {ls : List Ml} (h : LW w O v ls ps) (j : Nat) (g : w.grownBy w' v.ownBlock) (hr : WR w' v' (ls.take j ++ ls.drop (j + 1))) (hv : ∀ k, v'.ownBlock = some k → v.ownBlock = some k ∨ w.heap.size ≤ k) :
    LW w' (Grab O w w') v' (ls.eraseIdx j) (ps.eraseIdx j) := by
  rw [← List.eraseIdx_eq_take_drop_succ] at hr
  refine ⟨hr, fun k hk => ?_, by rw [map_erase, h.mp], fun m1 h1 => ?_⟩
  · rcases hv k hk with h2 | h2
    · exact .inl (h.ro k h2)
    · exact .inr ⟨h2, hr.lt k hk⟩
  · obtain ⟨h2, h3⟩ := h.mail m1 ((List.eraseIdx_sublist ls j).subset h1)
    refine ⟨h2.same fun k hk => g.block k (h2.lt k hk).2 (fun e => (h3 k hk).2 e.symm), fun k hk => ⟨.inl (h3 k hk).1, fun e => ?_⟩⟩
    rcases hv k e with h4 | h4
    · exact (h3 k hk).2 h4
    · have := (h2.lt k hk).2; omega
theorem mlsL_set (ls : List Ml) (j : Nat) (h : j < ls.length) (u : Value) (l : List UInt8) : (mlsL ls).set (j * 3 + 2) u = mlsL (ls.set j ⟨ls[j].f, ls[j].t, u, l⟩) := by
  have e := List.take_append_drop j ls
  have e1 : mlsL ls = mlsL (ls.take j) ++ (mlL ls[j] ++ mlsL (ls.drop (j + 1))) := by
    conv => lhs; rw [← e, List.drop_eq_getElem_cons h]
    rw [mlsL_append]; rfl
  have e2 : ls.set j ⟨ls[j].f, ls[j].t, u, l⟩ = ls.take j ++ ⟨ls[j].f, ls[j].t, u, l⟩ :: ls.drop (j + 1) := List.set_eq_take_append_cons_drop .. |>.trans (if_pos h)
  rw [e1, e2, mlsL_append]
  have hl : (mlsL (ls.take j)).length = j * 3 := by rw [mlsL_len, List.length_take]; congr 1; omega
  rw [List.set_append_right _ _ (by rw [hl]; omega), hl, show j * 3 + 2 - j * 3 = 2 by omega]
  rfl
/-- a mail's bytes put in their place -/
theorem LW.put {g n cap : Nat} {ls : List Ml} (h : LW w O (.slice (some ⟨g, 0, none⟩) n cap) ls ps) (j : Nat) (p : Pm) (hp : ps[j]? = some p) (A : Option Addr) (m c : Nat) (l' : List UInt8) (ho : OB w 0 (.slice A m c) l') (hoo : ∀ k, (Value.slice A m c).ownBlock = some k → O k ∧ k ≠ g) :
    ∃ ls', LW (w.setCell ⟨g, j * 3 + 2, none⟩ (.slice A m c)) O (.slice (some ⟨g, 0, none⟩) n cap) ls' (ps.set j ⟨p.f, p.t, l'⟩) := by
  obtain ⟨hj, e⟩ := nf_at h.mp hp
  have hoth : ∀ k, k ≠ g → (w.setCell ⟨g, j * 3 + 2, none⟩ (.slice A m c)).heap[k]? = w.heap[k]? := fun k hk => heap_setCell_other _ _ _ _ hk
  refine ⟨ls.set j ⟨ls[j].f, ls[j].t, .slice A m c, l'⟩, ?_, h.ro, ?_, fun m1 h1 => ?_⟩
  · rcases h.row with ⟨hv, _⟩ | ⟨g', cap', cur, hv, hh, h2, h3, h4, h5⟩
    · cases hv
    · injection hv with e1 e2 e3
      injection e1 with e1; injection e1 with e1
      subst e1 e2 e3
      refine .inr ⟨g, cap, cur.setIfInBounds (j * 3 + 2) (.slice A m c), by rw [List.length_set], heap_setCell_same w g _ _ _ _ hh, by rw [List.length_set]; exact h2, h3, by simpa using h4, ?_⟩
      rw [List.length_set, ← mlsL_set ls j hj, ← h5, Array.toList_setIfInBounds, List.take_set]
  · rw [List.map_set, h.mp]
    subst e
    rfl
  · obtain ⟨i, hi, rfl⟩ := List.mem_iff_getElem.1 h1
    rw [List.length_set] at hi
    by_cases ei : i = j
    · subst ei
      rw [List.getElem_set_self]
      exact ⟨ho.same fun k hk => hoth k (hoo k hk).2, fun k hk => ⟨(hoo k hk).1, fun e => (hoo k hk).2 (Option.some.inj e).symm⟩⟩
    · rw [List.getElem_set_ne (fun x => ei x.symm)]
      obtain ⟨q0, q1⟩ := h.mail _ (List.getElem_mem hi)
      exact ⟨q0.same fun k hk => hoth k (fun e2 => (q1 k hk).2 (by rw [e2]; rfl)), q1⟩
end
/-- what is wanted to cut a mail out of the law's row -/
theorem LW.cuts {w : World} {O : Nat → Prop} {g n cap : Nat} {ls : List Ml} {ps : List Pm} (h : LW w O (.slice (some ⟨g, 0, none⟩) n cap) ls ps) (j : Nat) (hj : j < n) :
    ∃ D : Addr, (if cap = j + 1 then some ⟨g, 0, none⟩ else some ⟨g, (j + 1) * 3, none⟩ : Option Addr) = some D ∧ Hid (WR w (.slice (some ⟨g, 0, none⟩) j j) (ls.take j)) ∧ Hid (SR w (some D) (ls.drop (j + 1))) ∧ Hid ((ls.drop (j + 1)).length = n - (j + 1)) ∧ Hid (∀ m ∈ ls.drop (j + 1), ∃ A n c, m.v = .slice A n c) ∧ Hid ((ls.take j ++ ls.drop (j + 1)).length = n - 1) := by
  have hl := h.len
  have hf := h.forms
  have hr := h.row
  rcases hr with ⟨hv, _⟩ | ⟨g', cap', cur, hv, hh, h2, h3, h4, h5⟩
  · cases hv
  · injection hv with e1 e2 e3
    injection e1 with e1; injection e1 with e1
    subst e1 e2 e3
    have hr : WR w (.slice (some ⟨g, 0, none⟩) ls.length cap) ls := .inr ⟨g, cap, cur, rfl, hh, h2, h3, h4, h5⟩
    have ht : SR w (if cap = j + 1 then some ⟨g, 0, none⟩ else some ⟨g, (j + 1) * 3, none⟩) (ls.drop (j + 1)) := fun h0 => by
      rw [List.length_drop] at h0
      rw [if_neg (by omega)]
      refine ⟨g, (j + 1) * 3, rfl, fun i u hu => ?_⟩
      refine hr.cell ((j + 1) * 3 + i) u ?_
      rw [← mlsL_drop, List.getElem?_drop] at hu
      exact hu
    obtain ⟨D, hD⟩ : ∃ D : Addr, (if cap = j + 1 then some ⟨g, 0, none⟩ else some ⟨g, (j + 1) * 3, none⟩ : Option Addr) = some D := by
      by_cases e : cap = j + 1
      · exact ⟨_, if_pos e⟩
      · exact ⟨_, if_neg e⟩
    rw [hD] at ht
    refine ⟨D, hD, Lib.hid (hr.cut j j (by omega) (Nat.le_refl _) (by omega)), Lib.hid ht, ?_, fun m hm => hf m (List.mem_of_mem_drop hm), ?_⟩
    · show _ = _; rw [List.length_drop]
    · show _ = _; rw [List.length_append, List.length_take, List.length_drop]; omega
end Go.Proofs.Ytolnafpicfemnaa
