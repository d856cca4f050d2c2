/- WALKS over package net: Look, Spoil. -/
import Derived.Test.YtolnafpicfemnaaHc
namespace Go.Proofs.Ytolnafpicfemnaa
set_option maxRecDepth 100000
open Go.RowKit
set_option linter.unusedVariables false
set_option linter.unusedSimpArgs false

/-- a mail loaded out of a row -/
theorem run_load_at (w : World) (g o : Nat) {f t : Int} {A : Option Addr} {n c : Nat} (c0 : w.cell? ⟨g, o, none⟩ = some (.int .i64 f)) (c1 : w.cell? ⟨g, o + 1, none⟩ = some (.int .i64 t)) (c2 : w.cell? ⟨g, o + 2, none⟩ = some (.slice A n c)) :
    (loadVar 29 ⟨g, o, none⟩).run Try.prog w = .ok (mlV f t A n c) w := by
  have hl : (loadCells ⟨g, o, none⟩ 3).run Try.prog w = .ok #[.int .i64 f, .int .i64 t, .slice A n c] w :=
    run_loadCells_list (P := Try.prog) w ⟨g, o, none⟩ [.int .i64 f, .int .i64 t, .slice A n c] (fun j v hv => by
      have hj : j < 3 := (List.getElem?_eq_some_iff.1 hv).1
      rw [Addr.add_lit]
      obtain rfl | rfl | rfl : j = 0 ∨ j = 1 ∨ j = 2 := by omega
      · rw [Nat.add_zero, c0]; exact hv
      · rw [c1]; exact hv
      · rw [c2]; exact hv)
  have hq := ml_size
  cases hi : Try.prog.info? 29 with
  | none => rw [hi] at hq; simp at hq
  | some i =>
    have hs : i.size = 3 := by rw [hi] at hq; simpa using hq
    have hagg : (isAgg 29).run Try.prog w = .ok true w := by
      unfold isAgg
      rw [Sem.run_bind, run_underlying Try.underlying29 w]
      rfl
    simp [loadVar, Sem.run_bind, hagg, sizeOf, typeInfo, hi, hs, hl]
theorem exec_load_at {S : World → Prop} {op : Oper} {a : Act} (x : Operand) (ho : op.op = .load 29 x) (g o : Nat) (hx : a.eval x = .pointer (some ⟨g, o, none⟩)) {f t : Int} {A : Option Addr} {n c : Nat}
    (hS : ∀ w, S w → w.cell? ⟨g, o, none⟩ = some (.int .i64 f) ∧ w.cell? ⟨g, o + 1, none⟩ = some (.int .i64 t) ∧ w.cell? ⟨g, o + 2, none⟩ = some (.slice A n c)) (w : World) (hw : S w) :
    (execOp a.eval op).run Try.prog w = .ok (.value (mlV f t A n c)) w := by
  obtain ⟨h0, h1, h2⟩ := hS w hw
  have := run_load_at w g o h0 h1 h2
  unfold execOp
  simp only [ho, hx, Instr.loadAt, Instr.sureAddr, Sem.run_bind, Sem.run_pure, Result.andThen_ok, this]
theorem wpList_load_at {w : World} {ops : Array Oper} {rest : List Oper} {o : Oper} {a : Act} {Q : Exit → Act → World → Prop} (hgd : o.guard = none) (x : Operand) (ho : o.op = .load 29 x)
    (g off : Nat) (hx : a.eval x = .pointer (some ⟨g, off, none⟩)) {f t : Int} {A : Option Addr} {n c : Nat} (c0 : w.cell? ⟨g, off, none⟩ = some (.int .i64 f)) (c1 : w.cell? ⟨g, off + 1, none⟩ = some (.int .i64 t)) (c2 : w.cell? ⟨g, off + 2, none⟩ = some (.slice A n c))
    (hk : wpList Try.prog ops Q rest (a.put o.dst (mlV f t A n c)) w) : wpList Try.prog ops Q (o :: rest) a w := by
  refine wpList_plain hgd fun K hK => ?_
  have hrun := run_load_at w g off c0 c1 c2
  unfold Oper.wp execOp
  simp only [ho, hx, Instr.loadAt, Instr.sureAddr, Sem.run_bind, Sem.run_pure, Result.andThen_ok, hrun]
  exact hK _ _ hk
set_option maxHeartbeats 1000000 in
/-- Look, where there is none -/
theorem look_no (w : World) (p : Value) (i : Int) (hh : ∀ W : World, Below w.heap.size w W → Calls Try.prog 19 #[p, .int .i64 i] W fun e w' => e = .returned (.bool false) ∧ W = w') :
    Calls Try.prog 12 #[p, .int .i64 i] w fun e w' => e = .returned (.tuple #[mlV 0 0 none 0 0, .bool false]) ∧ Below w.heap.size w w' := by
  obtain ⟨W1, hW1⟩ : ∃ W1, W1 = w.alloc (mlO 0 0 none 0 0) := ⟨_, rfl⟩
  have B1 : Hid (Below w.heap.size w W1) := by rw [hW1]; exact (Below.refl _ _).alloc (Nat.le_refl _) _
  have M1 : Hid (MlM W1 w.heap.size 0 0 none 0 0) := by rw [hW1]; exact MlM.new w _ _ _ _ _
  have HH := Lib.hid (hh W1 B1.out)
  have HW1 := Lib.hid hW1
  clear hh hW1
  go_enter Try.func12, Try.ntmps12
  go_wp2_with fail
  rw [← HW1.out]
  (with_reducible refine HH.out.mono ?_)
  rintro e w2 ⟨rfl, rfl⟩
  go_wp2_with (first
    | (refine wpList_store_ml rfl (.tmp 4) (.tmp 10) rfl w.heap.size (by rfl) M1.out (by rfl) ?_; intro w5 p5 s5 g5))
  obtain ⟨r0, r1, r2⟩ := p5.c
  refine bodyPost_ret (v := .tuple #[mlV 0 0 none 0 0, .bool false]) (by simp [results, Try.results12, go_sem, r0, r1, r2]) rfl ⟨rfl, below_own B1.out g5 (Nat.le_refl _)⟩
set_option maxHeartbeats 1000000 in
theorem look_in (w : World) (b : Nat) (v : Value) (ms : List Ml) (h : NM w b v ms) (hl : ms.length ≤ 1000) (i : Int) (j : Nat) (hi : i = j) (hj : j < ms.length) (n : Nat) (hn : ms[j].l.length = n) :
    Calls Try.prog 12 #[pB b, .int .i64 i] w fun e w' => ∃ A c, e = .returned (.tuple #[mlV ms[j].f ms[j].t A n c, .bool true]) ∧ OB w' w.heap.size (.slice A n c) ms[j].l ∧ Below w.heap.size w w' := by
  subst hi
  obtain ⟨W1, hW1⟩ : ∃ W1, W1 = w.alloc (mlO 0 0 none 0 0) := ⟨_, rfl⟩
  have B1 : Hid (Below w.heap.size w W1) := by rw [hW1]; exact (Below.refl _ _).alloc (Nat.le_refl _) _
  have S1 : Hid (W1.heap.size = w.heap.size + 1) := by show _ = _; rw [hW1]; simp
  have M1 : Hid (MlM W1 w.heap.size 0 0 none 0 0) := by rw [hW1]; exact MlM.new w _ _ _ _ _
  have N1 := h.belows B1.out
  have HH := Lib.hid (has_any W1 b v ms N1 ms.length rfl (j : Int) true (by simp; omega))
  obtain ⟨N, hN⟩ : ∃ N, ms.length = N := ⟨_, rfl⟩
  obtain ⟨A0, cap0, rfl, hc0, hm0⟩ := N1.own.form N hN
  obtain ⟨g, rfl, k0, k1, k2⟩ := N1.own.at j hj
  have k := N1.c0
  obtain ⟨A1, c1, e1, hc1, hm1, hr1⟩ := (N1.ob j hj).form_n n hn
  rw [e1] at k2
  have hn1000 : n ≤ 1000 := by have := N1.mlen j hj; omega
  have HO := Lib.hid (own_any W1 ms[j].f ms[j].t A1 n c1 W1.heap.size ms[j].l hr1 hn (Nat.le_refl _) hn1000)
  have hjN : j < N := by omega
  have zj : (j : Int) < N := by omega
  have hNl : N ≤ 1000 := by omega
  have HW1 := Lib.hid hW1
  generalize ms[j].f = f at *
  generalize ms[j].t = t at *
  generalize ms[j].l = x at *
  clear h N1 hN hj hl hn e1 hW1 hr1
  go_enter Try.func12, Try.ntmps12
  go_wp2_with fail
  rw [← HW1.out]
  (with_reducible refine HH.out.mono ?_)
  rintro e w2 ⟨rfl, rfl⟩
  go_wp2_with (first
    | (refine wpList_load_at rfl (.tmp 16) rfl g (j * 3) (by rfl) k0 k1 k2 ?_)
    | (go_at_call 18; with_reducible refine HO.out.mono ?_; rintro e w3 ⟨A3, c3, rfl, o3, b3⟩; have M3 := Lib.hid (M1.out.then_ b3); have O3 := Lib.hid o3; have B3 := Lib.hid b3; clear o3 b3)
    | (refine wpList_store_ml rfl (.tmp 4) (.tmp 18) rfl w.heap.size (by rfl) M3.out (by rfl) ?_; intro w5 p5 s5 g5))
  obtain ⟨r0, r1, r2⟩ := p5.c
  refine bodyPost_ret (v := .tuple #[mlV f t A3 n c3, .bool true]) (by simp [results, Try.results12, go_sem, r0, r1, r2]) rfl ⟨A3, c3, rfl, ?_, below_own (B1.out.trans (B3.out.mono B1.out.size)) g5 (Nat.le_refl _)⟩
  exact (O3.out.less (by have := S1.out; omega)).same fun k hk => g5.block k (O3.out.lt k hk).2 (fun e => by have := (O3.out.lt k hk).1; have := S1.out; have := Option.some.inj e; omega)
/-- a mail's bytes turned -/
theorem NM.spoilt {w w' : World} {b : Nat} {v : Value} {ms : List Ml} (h : NM w b v ms) (j : Nat) (hj : j < ms.length) (g : Nat) (hg : ms[j].v.ownBlock = some g) (gr : w.grownBy w' (some g)) (l' : List UInt8) (hl : l'.length = ms[j].l.length) (ho : OB w' 0 ms[j].v l') :
    NU w w' b v ms v (ms.set j ⟨ms[j].f, ms[j].t, ms[j].v, l'⟩) := by
  obtain ⟨-, h1, h2, h3⟩ := h.mail _ (List.getElem_mem hj)
  have hv : (ms.set j ⟨ms[j].f, ms[j].t, ms[j].v, l'⟩).map (·.v) = ms.map (·.v) := by
    rw [List.map_set]
    apply List.ext_getElem?
    intro i
    by_cases e : i = j
    · subst e; rw [List.getElem?_set_self (by simpa using hj), List.getElem?_map, List.getElem?_eq_getElem hj]; rfl
    · rw [List.getElem?_set_ne (fun x => e x.symm)]
  have hL : mlsL (ms.set j ⟨ms[j].f, ms[j].t, ms[j].v, l'⟩) = mlsL ms := by
    have : ∀ (a c : List Ml), a.map (fun m => (m.f, m.t, m.v)) = c.map (fun m => (m.f, m.t, m.v)) → mlsL a = mlsL c := by
      intro a
      induction a with
      | nil => intro c hc; cases c with | nil => rfl | cons => simp at hc
      | cons m r ih =>
        intro c hc
        cases c with
        | nil => simp at hc
        | cons m2 r2 =>
          simp only [List.map_cons, List.cons.injEq, Prod.mk.injEq] at hc
          rw [mlsL, mlsL, ih r2 hc.2, mlL, mlL, hc.1.1, hc.1.2.1, hc.1.2.2]
    refine this _ _ ?_
    rw [List.map_set]
    apply List.ext_getElem?
    intro i
    by_cases e : i = j
    · subst e; rw [List.getElem?_set_self (by simpa using hj), List.getElem?_map, List.getElem?_eq_getElem hj]; rfl
    · rw [List.getElem?_set_ne (fun x => e x.symm)]
  have hb : ∀ k, k < w.heap.size → k ≠ g → w'.heap[k]? = w.heap[k]? := fun k hk hn => gr.block k hk (fun e => hn (Option.some.inj e))
  have hsub : ∀ m ∈ ms.set j ⟨ms[j].f, ms[j].t, ms[j].v, l'⟩, ∃ m' ∈ ms, m.v = m'.v := fun m hm => by
    have : m.v ∈ (ms.set j ⟨ms[j].f, ms[j].t, ms[j].v, l'⟩).map (·.v) := List.mem_map_of_mem hm
    rw [hv] at this
    obtain ⟨m', hm', e⟩ := List.mem_map.1 this
    exact ⟨m', hm', e.symm⟩
  refine ⟨⟨?_, ?_, h.ne, fun m hm => ?_, ?_⟩, gr.os, gr.tape, gr.output, gr.size, fun k hk hn => hb k hk (fun e => hn (.inr (.inr ⟨_, List.getElem_mem hj, e ▸ hg⟩))), fun k hk => .inl ?_⟩
  · exact (hb b (h.lt (.inl rfl)) (fun e => h2 (e ▸ hg))).trans h.row
  · have hw := h.own.same (w' := w') fun k hk => hb k (h.own.lt k hk) (fun e => h3 g hg (e ▸ hk))
    rcases hw with ⟨e1, e2⟩ | ⟨g', cap, cur, e1, r1, r2, r3, r4, r5⟩
    · subst e2; simp at hj
    · exact .inr ⟨g', cap, cur, by rw [List.length_set]; exact e1, r1, by rw [List.length_set]; exact r2, r3, r4, by rw [List.length_set, hL]; exact r5⟩
  · obtain ⟨i, hi, rfl⟩ := List.mem_iff_getElem.1 hm
    rw [List.length_set] at hi
    by_cases e : i = j
    · subst e
      rw [List.getElem_set_self]
      exact ⟨ho, by show l'.length ≤ 1000; omega, h2, h3⟩
    · rw [List.getElem_set_ne (fun x => e x.symm)]
      obtain ⟨q0, q1, q2, q3⟩ := h.mail _ (List.getElem_mem hi)
      refine ⟨q0.same fun k hk => hb k (q0.lt k hk).2 (fun e2 => ?_), q1, q2, q3⟩
      subst e2
      have hp := List.pairwise_iff_getElem.1 h.inj
      rcases Nat.lt_or_gt_of_ne e with hlt | hlt
      · exact hp i j hi hj hlt k hk hg
      · exact hp j i hj hi hlt k hg hk
  · have hi := h.inj
    have e : ∀ l : List Ml, l.Pairwise apartM ↔ (l.map (·.v)).Pairwise (fun x y => ∀ k, x.ownBlock = some k → y.ownBlock ≠ some k) := fun l => by rw [List.pairwise_map]
    rw [e] at hi ⊢
    rw [hv]
    exact hi
  · rcases hk with hk | hk | ⟨m, hm, hk⟩
    · exact .inl hk
    · exact .inr (.inl hk)
    · obtain ⟨m', hm', e⟩ := hsub m hm
      exact .inr (.inr ⟨m', hm', e ▸ hk⟩)
set_option maxHeartbeats 1000000 in
theorem spoil_none (w : World) (p : Value) (i k : Int) (x : Int) (hh : Calls Try.prog 19 #[p, .int .i64 i] w fun e w' => e = .returned (.bool false) ∧ w = w') :
    Calls Try.prog 16 #[p, .int .i64 i, .int .i64 k, .int .u8 x] w fun e w' => e = .returned (.bool false) ∧ w = w' := by
  have HH := Lib.hid hh
  clear hh
  go_enter Try.func16, Try.ntmps16
  go_wp2_with (go_at_call 19; with_reducible refine HH.out.mono ?_; rintro e w2 ⟨rfl, rfl⟩)
  go_ret
  exact ⟨rfl, rfl⟩
set_option maxHeartbeats 1000000 in
theorem spoil_off (w : World) (b : Nat) (v : Value) (ms : List Ml) (h : NM w b v ms) (hl : ms.length ≤ 1000) (i : Int) (j : Nat) (hi : i = j) (hj : j < ms.length) (k : Int) (hk : ¬ (0 ≤ k ∧ k < (ms[j].l.length : Int))) (x : Int) :
    Calls Try.prog 16 #[pB b, .int .i64 i, .int .i64 k, .int .u8 x] w fun e w' => e = .returned (.bool false) ∧ w = w' := by
  subst hi
  have HH := Lib.hid (has_any w b v ms h ms.length rfl (j : Int) true (by simp; omega))
  obtain ⟨N, hN⟩ : ∃ N, ms.length = N := ⟨_, rfl⟩
  obtain ⟨A0, cap0, rfl, hc0, hm0⟩ := h.own.form N hN
  obtain ⟨g, rfl, k0, k1, k2⟩ := h.own.at j hj
  have q := h.c0
  obtain ⟨n, hn⟩ : ∃ n, ms[j].l.length = n := ⟨_, rfl⟩
  obtain ⟨A1, c1, e1, hc1, hm1, hr1⟩ := (h.ob j hj).form_n n hn
  rw [e1] at k2
  rw [hn] at hk
  have hjN : j < N := by omega
  have zj : (j : Int) < N := by omega
  have hNl : N ≤ 1000 := by omega
  clear h hN hj hl hn e1 hr1 k0 k1
  by_cases h0 : k < 0
  · clear hk
    go_enter Try.func16, Try.ntmps16
    go_wp2_with (go_at_call 19; with_reducible refine HH.out.mono ?_; rintro e w2 ⟨rfl, rfl⟩)
    go_ret
    exact ⟨rfl, rfl⟩
  · have h1 : (n : Int) ≤ k := by omega
    clear hk
    go_enter Try.func16, Try.ntmps16
    go_wp2_with (go_at_call 19; with_reducible refine HH.out.mono ?_; rintro e w2 ⟨rfl, rfl⟩)
    go_ret
    exact ⟨rfl, rfl⟩
set_option maxHeartbeats 1000000 in
theorem spoil_in (w : World) (b : Nat) (v : Value) (ms : List Ml) (h : NM w b v ms) (hl : ms.length ≤ 1000) (i : Int) (j : Nat) (hi : i = j) (hj : j < ms.length) (K : Int) (k : Nat) (hK : K = k) (hk : k < ms[j].l.length) (x : UInt8) (X : Int) (hX : X = (x.toNat : Int)) :
    Calls Try.prog 16 #[pB b, .int .i64 i, .int .i64 K, .int .u8 X] w fun e w' => e = .returned (.bool true) ∧ NU w w' b v ms v (ms.set j ⟨ms[j].f, ms[j].t, ms[j].v, ms[j].l.set k (ms[j].l[k] ^^^ x)⟩) := by
  subst hi hK hX
  have HH := Lib.hid (has_any w b v ms h ms.length rfl (j : Int) true (by simp; omega))
  obtain ⟨N, hN⟩ : ∃ N, ms.length = N := ⟨_, rfl⟩
  obtain ⟨n, hn⟩ : ∃ n, ms[j].l.length = n := ⟨_, rfl⟩
  have hob := h.ob j hj
  obtain ⟨g1, c1, e1, -, hc1, hm1⟩ := hob.some_ (by omega)
  rw [hn] at e1 hc1
  have hob' := hob
  rw [e1] at hob'
  have p0 := hob'.cell_at hn k hk
  have p1 := hob'.frozen_at hn k
  have HS := Lib.hid (h.spoilt (w' := w.setCell ⟨g1, k, none⟩ (vb (ms[j].l[k] ^^^ x))) j hj g1 (by rw [e1]; rfl) ⟨rfl, rfl, rfl, by simp [World.setCell], fun q _ hq => heap_setCell_other _ _ _ _ (fun e => hq (by rw [e]))⟩ (ms[j].l.set k (ms[j].l[k] ^^^ x)) (by rw [List.length_set]) (by rw [e1]; exact hob'.set hn k _))
  obtain ⟨A0, cap0, rfl, hc0, hm0⟩ := h.own.form N hN
  obtain ⟨g, rfl, k0, k1, k2⟩ := h.own.at j hj
  have q := h.c0
  rw [e1] at k2
  have hjN : j < N := by omega
  have zj : (j : Int) < N := by omega
  have hNl : N ≤ 1000 := by omega
  have hn1 : n ≤ 1000 := by have := h.mlen j hj; omega
  have hkn : k < n := by omega
  have zk : (k : Int) < n := by omega
  have hx := b8_xor ms[j].l[k] x
  unfold vb at p0
  unfold vb at HS
  generalize ms[j].l[k] = y at *
  generalize y ^^^ x = z at *
  have HN := Lib.hid hn
  clear h hN hl hn e1 k0 k1 hob hob'
  go_enter Try.func16, Try.ntmps16
  go_wp2_with (go_at_call 19; with_reducible refine HH.out.mono ?_; rintro e w2 ⟨rfl, rfl⟩)
  go_ret
  exact ⟨rfl, by first | exact HS.out | (simpa [hx] using HS.out)⟩
end Go.Proofs.Ytolnafpicfemnaa
