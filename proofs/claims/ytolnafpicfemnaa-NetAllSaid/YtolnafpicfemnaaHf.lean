/- WALKS over package net: Drop, Send, Take. -/
import Derived.Test.YtolnafpicfemnaaHd
import Derived.Test.YtolnafpicfemnaaHe
import Derived.Test.YtolnafpicfemnaaYk
namespace Go.Proofs.Ytolnafpicfemnaa
set_option maxRecDepth 100000
open Go.RowKit
set_option linter.unusedVariables false
set_option linter.unusedSimpArgs false

theorem NM.forms {w : World} {b : Nat} {v : Value} {ms : List Ml} (h : NM w b v ms) : ∀ m ∈ ms, ∃ A n c, m.v = .slice A n c := fun m hm => by
  obtain ⟨A, c, e, _⟩ := (h.mail m hm).1.form_n _ rfl
  exact ⟨A, _, c, e⟩
/-- the net's slot set, a mail gone -/
theorem NM.dropped {w w' : World} {b : Nat} {v v' : Value} {ms : List Ml} (h : NM w b v ms) (j : Nat) (g : Nat) (hg : v.ownBlock = some g) (hg' : v'.ownBlock = some g) (gr : w.grownBy w' (some g)) (hr : WR w' v' (ms.eraseIdx j)) :
    NU w (w'.setCell ⟨b, 0, none⟩ v') b v ms v' (ms.eraseIdx j) := by
  have hgb : g ≠ b := fun e => h.ne (e ▸ hg)
  have hb : ∀ k, k < w.heap.size → k ≠ g → k ≠ b → (w'.setCell ⟨b, 0, none⟩ v').heap[k]? = w.heap[k]? := fun k hk h1 h2 => (heap_setCell_other _ _ _ _ h2).trans (gr.block k hk (fun e => h1 (Option.some.inj e)))
  have hsub : ∀ m ∈ ms.eraseIdx j, m ∈ ms := fun m hm => (List.eraseIdx_sublist ms j).subset hm
  have hrow : w'.heap[b]? = some (.cells #[v] 46 (0, 0)) := (gr.block b (h.lt (.inl rfl)) (fun e => hgb (Option.some.inj e).symm)).trans h.row
  refine ⟨⟨?_, hr.same fun k hk => heap_setCell_other _ _ _ _ (fun e => ?_), fun e => ?_, fun m hm => ?_, h.inj.sublist (List.eraseIdx_sublist ms j)⟩, gr.os, gr.tape, gr.output, by simpa [World.setCell] using gr.size, fun k hk hn => hb k hk (fun e => hn (.inr (.inl (e ▸ hg)))) (fun e => hn (.inl e)), fun k hk => .inl ?_⟩
  · rw [heap_setCell_same w' b 0 _ _ v' hrow]; rfl
  · rw [hg'] at hk; exact hgb ((Option.some.inj hk).trans e)
  · rw [hg'] at e; exact hgb (Option.some.inj e)
  · obtain ⟨q0, q1, q2, q3⟩ := h.mail m (hsub m hm)
    exact ⟨q0.same fun k hk => hb k (q0.lt k hk).2 (fun e => q3 k hk (e ▸ hg)) (fun e => q2 (e ▸ hk)), q1, q2, fun k hk e => q3 k hk (hg.trans (hg'.symm.trans e))⟩
  · rcases hk with hk | hk | ⟨m, hm, hk⟩
    · exact .inl hk
    · exact .inr (.inl (hg.trans (hg'.symm.trans hk)))
    · exact .inr (.inr ⟨m, hsub m hm, hk⟩)
set_option maxHeartbeats 1000000 in
theorem drop_none (w : World) (p : Value) (i : Int) (hh : Calls Try.prog 19 #[p, .int .i64 i] w fun e w' => e = .returned (.bool false) ∧ w = w') :
    Calls Try.prog 15 #[p, .int .i64 i] w fun e w' => e = .returned (.bool false) ∧ w = w' := by
  have HH := Lib.hid hh
  clear hh
  go_enter Try.func15, Try.ntmps15
  go_wp2_with (go_at_call 19; with_reducible refine HH.out.mono ?_; rintro e w2 ⟨rfl, rfl⟩)
  go_ret
  exact ⟨rfl, rfl⟩
set_option maxHeartbeats 1000000 in
theorem drop_in (w : World) (b : Nat) (v : Value) (ms : List Ml) (h : NM w b v ms) (hl : ms.length ≤ 1000) (i : Int) (j : Nat) (hi : i = j) (hj : j < ms.length) :
    Calls Try.prog 15 #[pB b, .int .i64 i] w fun e w' => e = .returned (.bool true) ∧ ∃ v', NU w w' b v ms v' (ms.eraseIdx j) := by
  subst hi
  have HH := Lib.hid (has_any w b v ms h ms.length rfl (j : Int) true (by simp; omega))
  obtain ⟨N, hN⟩ : ∃ N, ms.length = N := ⟨_, rfl⟩
  obtain ⟨A0, cap0, rfl, hc0, hm0⟩ := h.own.form N hN
  obtain ⟨g, rfl, -, -, -⟩ := h.own.at j hj
  have q := h.c0
  have f0 := h.f0
  have HF := Lib.hid h.forms
  have hjN : j < N := by omega
  have zj : (j : Int) < N := by omega
  have hNl : N ≤ 1000 := by omega
  have HD := Lib.hid (delete_any w g N cap0 ms h.own j hjN hNl h.forms ((j : Int) + 1) (by omega))
  have HX := Lib.hid (fun w' gr hr => h.dropped (w' := w') (v' := .slice (some ⟨g, 0, none⟩) (N - 1) cap0) j g rfl rfl gr hr)
  have HBG : Hid (b ≠ g) := fun e => h.ne (by rw [e]; rfl)
  clear h hN hl hj
  go_enter Try.func15, Try.ntmps15
  go_wp2_with (go_at_call 19; with_reducible refine HH.out.mono ?_; rintro e w2 ⟨rfl, rfl⟩)
  (with_reducible refine HD.out.mono ?_)
  rintro e w3 ⟨rfl, r3, g3⟩
  have q3 := g3.cell q (fun e => HBG.out (Option.some.inj e))
  have f3 : w3.frozen? ⟨b, 0, none⟩ = false := (World.frozen?_of_block (a := ⟨b, 0, none⟩) (g3.block b (cell_lt q) (fun e => HBG.out (Option.some.inj e)))).trans f0
  have HU := Lib.hid (HX.out w3 g3 r3)
  clear g3 r3 HX HD HF HH q f0
  go_wp2
  go_ret
  exact ⟨rfl, _, HU.out⟩
/-- a mail sent -/
theorem NM.sent {w w2 w4 : World} {b : Nat} {v v4 : Value} {ms : List Ml} (h : NM w b v ms) (hb : Below w.heap.size w w2) (f t : Int) (u : Value) (l : List UInt8) (hl : l.length ≤ 1000) (hu : OB w2 w.heap.size u l) (g4 : w2.grownBy w4 v.ownBlock) (h4 : WR w4 v4 (ms ++ [⟨f, t, u, l⟩]))
    (hv : ∀ k, v4.ownBlock = some k → v.ownBlock = some k ∨ w2.heap.size ≤ k) : NU w (w4.setCell ⟨b, 0, none⟩ v4) b v ms v4 (ms ++ [⟨f, t, u, l⟩]) := by
  have hbw : b < w.heap.size := h.lt (.inl rfl)
  have hk : ∀ k, k < w2.heap.size → v.ownBlock ≠ some k → k ≠ b → (w4.setCell ⟨b, 0, none⟩ v4).heap[k]? = w2.heap[k]? := fun k hk h1 h2 => (heap_setCell_other _ _ _ _ h2).trans (g4.block k hk (fun e => h1 e.symm))
  have hk2 : ∀ k, k < w.heap.size → v.ownBlock ≠ some k → k ≠ b → (w4.setCell ⟨b, 0, none⟩ v4).heap[k]? = w.heap[k]? := fun k h0 h1 h2 => (hk k (Nat.lt_of_lt_of_le h0 hb.size) h1 h2).trans (hb.block k h0)
  have hrow : w4.heap[b]? = some (.cells #[v] 46 (0, 0)) := (g4.block b (Nat.lt_of_lt_of_le hbw hb.size) (fun e => h.ne e.symm)).trans ((hb.block b hbw).trans h.row)
  have h4b : v4.ownBlock ≠ some b := fun e => (hv b e).elim h.ne (fun h5 => by have := hb.size; omega)
  have hvl : ∀ k, v.ownBlock = some k → k < w.heap.size := fun k hk => h.own.lt k hk
  refine ⟨⟨?_, h4.same fun k hk => heap_setCell_other _ _ _ _ (fun e => h4b (by have e : k = b := e; rw [← e]; exact hk)), h4b, fun m hm => ?_, ?_⟩, g4.os.trans hb.os, g4.tape.trans hb.tape, g4.output.trans hb.output, by have h1 := hb.size; have h2 := g4.size; simp [World.setCell]; omega, fun k hk hn => hk2 k hk (fun e => hn (.inr (.inl e))) (fun e => hn (.inl e)), fun k hk => ?_⟩
  · rw [heap_setCell_same w4 b 0 _ _ v4 hrow]; rfl
  · rcases List.mem_append.1 hm with hm | hm
    · obtain ⟨q0, q1, q2, q3⟩ := h.mail m hm
      refine ⟨q0.same fun k hk => hk2 k (q0.lt k hk).2 (q3 k hk) (fun e => q2 (e ▸ hk)), q1, q2, fun k hk e => (hv k e).elim (q3 k hk) (fun h5 => ?_)⟩
      have := (q0.lt k hk).2
      have := hb.size
      omega
    · obtain rfl := List.mem_singleton.1 hm
      refine ⟨(hu.less (Nat.zero_le _)).same fun k hk0 => hk k (hu.lt k hk0).2 (fun e => ?_) (fun e => ?_), hl, fun e => ?_, fun k hk0 e => ?_⟩
      · have := hvl k e; have := (hu.lt k hk0).1; omega
      · have := (hu.lt k hk0).1; omega
      · have := (hu.lt b e).1; omega
      · rcases hv k e with h5 | h5
        · have := hvl k h5; have := (hu.lt k hk0).1; omega
        · have := (hu.lt k hk0).2; omega
  · rw [List.pairwise_append]
    refine ⟨h.inj, List.pairwise_singleton .., fun m hm m2 hm2 k hk e => ?_⟩
    obtain rfl := List.mem_singleton.1 hm2
    have h5 := ((h.mail m hm).1.lt k hk).2
    have h6 := (hu.lt k e).1
    omega
  · rcases hk with hk | hk | ⟨m, hm, hk⟩
    · exact .inl (.inl hk)
    · exact (hv k hk).imp (fun h5 => .inr (.inl h5)) (fun h5 => Nat.le_trans hb.size h5)
    · rcases List.mem_append.1 hm with hm | hm
      · exact .inl (.inr (.inr ⟨m, hm, hk⟩))
      · obtain rfl := List.mem_singleton.1 hm
        exact .inr (hu.lt k hk).1
theorem send_nil (w : World) (f t : Int) (A : Option Addr) (n c : Nat) :
    Calls Try.prog 11 #[.pointer none, mlV f t A n c] w fun e w' => e = .returned (.bool false) ∧ Below w.heap.size w w' := by
  go_enter Try.func11, Try.ntmps11
  go_wp2
  go_ret
  exact ⟨rfl, (Below.refl _ _).alloc (Nat.le_refl _) _⟩
set_option maxHeartbeats 1000000 in
theorem send_no (w : World) (b : Nat) (v : Value) (ms : List Ml) (h : NM w b v ms) (f t : Int) (A : Option Addr) (n c : Nat) (hn : 300 ≤ ms.length ∨ 1000 < n) (hc : n ≤ c) (hm : c ≤ maxLen) :
    Calls Try.prog 11 #[pB b, mlV f t A n c] w fun e w' => e = .returned (.bool false) ∧ Below w.heap.size w w' := by
  obtain ⟨N, hN⟩ : ∃ N, ms.length = N := ⟨_, rfl⟩
  obtain ⟨A0, cap0, rfl, hc0, hm0⟩ := h.own.form N hN
  have b1 : Below w.heap.size w (w.alloc (mlO f t A n c)) := (Below.refl _ _).alloc (Nat.le_refl _) _
  have q := (h.belows b1).c0
  rw [hN] at hn
  have BB := Lib.hid b1
  clear h hN b1
  unfold maxLen at hm
  by_cases h3 : 300 ≤ N
  · clear hn
    have z3 : (300 : Int) ≤ N := by omega
    go_enter Try.func11, Try.ntmps11
    go_wp2
    go_ret
    exact ⟨rfl, BB.out⟩
  · have h4 : 1000 < n := by omega
    clear hn
    have z3 : ¬ (300 : Int) ≤ N := by omega
    have z4 : (1000 : Int) < n := by omega
    go_enter Try.func11, Try.ntmps11
    go_wp2
    go_ret
    exact ⟨rfl, BB.out⟩
theorem keep_be {w w' : World} {b P : Nat} {x : Value} {f t : Int} {A : Option Addr} {n c : Nat} (h : w.cell? ⟨b, 0, none⟩ = some x ∧ MlM w P f t A n c ∧ w.frozen? ⟨b, 0, none⟩ = false) (hb : Below w.heap.size w w') : w'.cell? ⟨b, 0, none⟩ = some x ∧ MlM w' P f t A n c ∧ w'.frozen? ⟨b, 0, none⟩ = false :=
  ⟨(hb.cell (p := ⟨b, 0, none⟩) (cell_lt h.1)).trans h.1, h.2.1.then_ hb, (hb.frozen (p := ⟨b, 0, none⟩) (cell_lt h.1)).trans h.2.2⟩
theorem keep_gr {w w' : World} {b P : Nat} {x : Value} {f t : Int} {A : Option Addr} {n c : Nat} {row : Option Nat} (h : w.cell? ⟨b, 0, none⟩ = some x ∧ MlM w P f t A n c ∧ w.frozen? ⟨b, 0, none⟩ = false) (g : w.grownBy w' row) (h1 : row ≠ some b) (h2 : row ≠ some P) : w'.cell? ⟨b, 0, none⟩ = some x ∧ MlM w' P f t A n c ∧ w'.frozen? ⟨b, 0, none⟩ = false :=
  ⟨g.cell h.1 (fun e => h1 e.symm), (g.block P h.2.1.lt (fun e => h2 e.symm)).trans h.2.1, (World.frozen?_of_block (a := ⟨b, 0, none⟩) (g.block b (cell_lt h.1) (fun e => h1 e.symm))).trans h.2.2⟩
set_option maxHeartbeats 2000000 in
theorem send_yes (w : World) (b : Nat) (v : Value) (ms : List Ml) (h : NM w b v ms) (f t : Int) (A : Option Addr) (n c : Nat) (l : List UInt8) (hr : RB w w.heap.size A l) (hln : l.length = n) (hn : ms.length < 300) (hn1 : n ≤ 1000) :
    Calls Try.prog 11 #[pB b, mlV f t A n c] w fun e w' => e = .returned (.bool true) ∧ ∃ v' u, NU w w' b v ms v' (ms ++ [⟨f, t, u, l⟩]) := by
  obtain ⟨N, hN⟩ : ∃ N, ms.length = N := ⟨_, rfl⟩
  obtain ⟨W1, hW1⟩ : ∃ W1, W1 = w.alloc (mlO f t A n c) := ⟨_, rfl⟩
  have B1 : Hid (Below w.heap.size w W1) := by rw [hW1]; exact (Below.refl _ _).alloc (Nat.le_refl _) _
  have M1 : Hid (MlM W1 w.heap.size f t A n c) := by rw [hW1]; exact MlM.new w _ _ _ _ _
  have N1 := Lib.hid (h.belows B1.out)
  have HFm := Lib.hid h.forms
  have hbw : Hid (b < w.heap.size) := h.lt (.inl rfl)
  have HVO := Lib.hid (fun k (hk : v.ownBlock = some k) => h.own.lt k hk)
  have HO := Lib.hid (own_any W1.drew f t A n c W1.drew.heap.size l ((hr.below B1.out).more B1.out.size) hln (Nat.le_refl _) hn1)
  have HS := Lib.hid (fun w2 w4 v4 u hb hu g4 h4 hv => NM.sent (w2 := w2) (w4 := w4) (v4 := v4) h hb f t u l (by omega) hu g4 h4 hv)
  obtain ⟨A0, cap0, rfl, hc0, hm0⟩ := h.own.form N hN
  have q := N1.out.c0
  obtain ⟨k0, k1, k2⟩ := M1.out.c
  have z3 : ¬ (300 : Int) ≤ N := by omega
  have z4 : ¬ (1000 : Int) < n := by omega
  have HN := Lib.hid hN
  have HLN := Lib.hid hln
  have HN3 : Hid (N < 300) := by show _ < _; omega
  have HW1 := Lib.hid hW1
  clear h hr hln hn hN
  rw [hW1] at q k0 k1 k2
  clear hW1
  go_enter Try.func11, Try.ntmps11
  go_wp2_with fail
  rw [← HW1.out] at q k0 k1 k2 ⊢
  refine wp_region_J (s := 11) (S := (fun w' => w'.cell? ⟨b, 0, none⟩ = some (.slice A0 N cap0) ∧ MlM w' w.heap.size f t A n c ∧ w'.frozen? ⟨b, 0, none⟩ = false)) (by kernel_rfl) (⟨q, M1.out, N1.out.f0⟩) (fun hHeld => ?_)
  refine j_take (i := 0) (v := ?_) rfl (by kernel_rfl) (by kernel_rfl) (by kernel_rfl) (by kernel_rfl) (fun _ _ _ h => h) (by rfl) hHeld ?_ ?_
  rotate_left 1
  · (intro w hSw; (try dsimp only at hSw); go_simp; try (with_reducible rfl))
  try simp only [Act.put, List.setIfInBounds_toArray, List.set_cons_zero, List.set_cons_succ]
  refine j_take (i := 1) (v := ?_) rfl (by kernel_rfl) (by kernel_rfl) (by kernel_rfl) (by kernel_rfl) (fun _ _ _ h => h) (by rfl) hHeld ?_ ?_
  rotate_left 1
  · (intro w hSw; (try dsimp only at hSw); go_simp; try (with_reducible rfl))
  try simp only [Act.put, List.setIfInBounds_toArray, List.set_cons_zero, List.set_cons_succ]
  refine j_take (i := 2) (v := ?_) rfl (by kernel_rfl) (by kernel_rfl) (by kernel_rfl) (by kernel_rfl) (fun _ _ _ h => h) (by rfl) hHeld ?_ ?_
  rotate_left 1
  · (intro w hSw; (try dsimp only at hSw); go_simp; try (with_reducible rfl))
  try simp only [Act.put, List.setIfInBounds_toArray, List.set_cons_zero, List.set_cons_succ]
  refine j_take (i := 3) (v := ?_) rfl (by kernel_rfl) (by kernel_rfl) (by kernel_rfl) (by kernel_rfl) (fun _ _ _ h => h) (by rfl) hHeld ?_ ?_
  rotate_left 1
  · (intro w hSw; (try dsimp only at hSw); go_simp; try (with_reducible rfl))
  try simp only [Act.put, List.setIfInBounds_toArray, List.set_cons_zero, List.set_cons_succ]
  refine j_take (i := 4) (v := ?_) rfl (by kernel_rfl) (by kernel_rfl) (by kernel_rfl) (by kernel_rfl) (fun _ _ _ h => h) (by rfl) hHeld ?_ ?_
  rotate_left 1
  · (intro w hSw; (try dsimp only at hSw); go_simp; try (with_reducible rfl))
  try simp only [Act.put, List.setIfInBounds_toArray, List.set_cons_zero, List.set_cons_succ]
  refine j_take (i := 5) (v := mlV f t A n c) rfl (by kernel_rfl) (by kernel_rfl) (by kernel_rfl) (by kernel_rfl) (fun _ _ _ h => h) (by rfl) hHeld (exec_load_ml _ rfl w.heap.size (by rfl) (fun W hW => hW.2.1)) ?_
  try simp only [Act.put, List.setIfInBounds_toArray, List.set_cons_zero, List.set_cons_succ]
  refine j_one (i := 6) rfl (by kernel_rfl) (by rfl) (fun K hK => ?_)
  go_simp
  with_reducible refine HO.out.mono ?_
  rintro e w2 ⟨A2, c2, rfl, o2, b2⟩
  refine hK.out _ _ (keep_be hHeld b2) (fun hHeld2 => ?_)
  clear hK K hHeld; have hHeld := hHeld2; clear hHeld2
  try simp only [Act.put, List.setIfInBounds_toArray, List.set_cons_zero, List.set_cons_succ]
  refine j_one (i := 7) rfl (by kernel_rfl) (by rfl) (fun K hK => ?_)
  go_simp
  refine hK.out _ _ (keep_be hHeld ((Below.refl w2.heap.size w2).alloc (Nat.le_refl _) _)) (fun hHeld2 => ?_)
  clear hK K hHeld; have hHeld := hHeld2; clear hHeld2
  try simp only [Act.put, List.setIfInBounds_toArray, List.set_cons_zero, List.set_cons_succ]
  obtain ⟨w3, hw3⟩ : ∃ w3, w3 = w2.alloc (mlO f t A2 n c2) := ⟨_, rfl⟩
  have b3 : Below w2.heap.size w2 w3 := by rw [hw3]; exact (Below.refl w2.heap.size w2).alloc (Nat.le_refl _) _
  have bb : Hid (Below w.heap.size w w3) := B1.out.drew.trans ((b2.trans (b3.mono b2.size)).mono B1.out.size)
  have SR3 : Hid (SR w3 (some ⟨w2.heap.size, 0, none⟩) [⟨f, t, .slice A2 n c2, l⟩]) := by rw [hw3]; exact SR.one (MlM.new w2 f t A2 n c2) l
  have O3 : Hid (OB w3 w.heap.size (.slice A2 n c2) l) := (o2.below b3 (Nat.le_refl _)).less B1.out.size
  have WR3 : Hid (WR w3 (.slice A0 N cap0) ms) := (N1.out.drew.belows (b2.trans (b3.mono b2.size))).own
  rw [← hw3] at hHeld ⊢
  clear b2 b3 o2 hw3
  refine j_one (i := 8) rfl (by kernel_rfl) (by rfl) (fun K hK => ?_)
  refine wp_append_wr (.tmp 25) (.tmp 28) (by rfl) (.slice A0 N cap0) ms [⟨f, t, .slice A2 n c2, l⟩] (by rfl) WR3.out (some ⟨w2.heap.size, 0, none⟩) 1 1 (by rfl) rfl SR3.out (fun m hm => by obtain rfl := List.mem_singleton.1 hm; exact ⟨_, _, _, rfl⟩) (by rw [HN.out]; have := HN3.out; simp; omega) ?_
  intro v4 w4 r4 g4 h4
  refine hK.out _ _ (keep_gr hHeld g4 N1.out.ne (fun e => absurd (HVO.out _ e) (Nat.lt_irrefl _))) (fun hHeld2 => ?_)
  clear hK K hHeld; have hHeld := hHeld2; clear hHeld2
  try simp only [Act.put, List.setIfInBounds_toArray, List.set_cons_zero, List.set_cons_succ]
  obtain ⟨A4, c4, rfl, hc4, hm4⟩ := r4.form (N + 1) (by rw [List.length_append, HN.out]; rfl)
  have HU := Lib.hid (HS.out w3 w4 _ _ bb.out O3.out g4 r4 h4)
  clear r4 g4 h4
  refine j_one (i := 9) rfl (by kernel_rfl) (by rfl) (fun K hK => ?_)
  go_simp
  refine hK.out _ _ (hHeld) (fun hHeld2 => ?_)
  clear hK K hHeld; have hHeld := hHeld2; clear hHeld2
  try simp only [Act.put, List.setIfInBounds_toArray, List.set_cons_zero, List.set_cons_succ]
  refine j_one (i := 10) rfl (by kernel_rfl) (by rfl) (fun K hK => ?_)
  go_simp
  refine hK.out _ _ (hHeld) (fun hHeld2 => ?_)
  clear hK K hHeld; have hHeld := hHeld2; clear hHeld2
  try simp only [Act.put, List.setIfInBounds_toArray, List.set_cons_zero, List.set_cons_succ]
  have q4 := hHeld.1
  have f4 := hHeld.2.2
  refine j_last rfl (by kernel_rfl) (by simp) (by kernel_rfl) (by rfl) (fun K hK => ?_)
  go_simp
  refine hK.out _ _ ?_
  go_wp2
  go_ret
  exact ⟨rfl, _, _, HU.out⟩
set_option maxHeartbeats 1000000 in
/-- Take, where there is none -/
theorem take_no (w : World) (p : Value) (i : Int) (hh : ∀ W : World, Below w.heap.size w W → Calls Try.prog 19 #[p, .int .i64 i] W fun e w' => e = .returned (.bool false) ∧ W = w') :
    Calls Try.prog 13 #[p, .int .i64 i] w fun e w' => e = .returned (.tuple #[mlV 0 0 none 0 0, .bool false]) ∧ Below w.heap.size w w' := by
  obtain ⟨W1, hW1⟩ : ∃ W1, W1 = w.alloc (mlO 0 0 none 0 0) := ⟨_, rfl⟩
  have B1 : Hid (Below w.heap.size w W1) := by rw [hW1]; exact (Below.refl _ _).alloc (Nat.le_refl _) _
  have M1 : Hid (MlM W1 w.heap.size 0 0 none 0 0) := by rw [hW1]; exact MlM.new w _ _ _ _ _
  have HL := Lib.hid (look_no W1 p i (fun W hW => hh W (B1.out.trans (hW.mono B1.out.size))))
  have HD := Lib.hid (fun (W : World) (hW : Below w.heap.size w W) => drop_none W p i (hh W hW))
  have HW1 := Lib.hid hW1
  clear hh hW1
  go_enter Try.func13, Try.ntmps13
  go_wp2_with fail
  rw [← HW1.out]
  (with_reducible refine HL.out.mono ?_)
  rintro e w2 ⟨rfl, b2⟩
  have M2 := Lib.hid (M1.out.then_ b2)
  have S2 : Hid (w.heap.size < w2.heap.size) := M2.out.lt
  have B2 := Lib.hid (B1.out.trans (b2.mono B1.out.size))
  clear b2
  go_wp2_with (first
    | (refine wpList_store_ml rfl (.tmp 6) (.tmp 12) rfl w2.heap.size (by rfl) (MlM.new w2 0 0 none 0 0) (by rfl) ?_; intro w4 p4 s4 g4; have P4 := Lib.hid p4; have G4 := Lib.hid (below_own (B2.out.alloc B2.out.size (mlO 0 0 none 0 0)) g4 B2.out.size); have M4 : Hid (MlM w4 w.heap.size 0 0 none 0 0) := (M2.out.then_ ((Below.refl w2.heap.size w2).alloc (Nat.le_refl _) (mlO 0 0 none 0 0))).kept g4 (Nat.ne_of_lt S2.out); clear p4 s4 g4)
    | (go_at_call 15; with_reducible refine (HD.out _ G4.out).mono ?_; rintro e w5 ⟨rfl, rfl⟩)
    | (refine wpList_load_ml rfl (.tmp 6) rfl w2.heap.size (by rfl) P4.out ?_)
    | (refine wpList_store_ml rfl (.tmp 4) (.tmp 17) rfl w.heap.size (by rfl) M4.out (by rfl) ?_; intro w6 p6 s6 g6))
  obtain ⟨r0, r1, r2⟩ := p6.c
  refine bodyPost_ret (v := .tuple #[mlV 0 0 none 0 0, .bool false]) (by simp [results, Try.results13, go_sem, r0, r1, r2]) rfl ⟨rfl, below_own G4.out g6 (Nat.le_refl _)⟩
set_option maxHeartbeats 1000000 in
theorem take_in (w : World) (b : Nat) (v : Value) (ms : List Ml) (h : NM w b v ms) (hl : ms.length ≤ 1000) (i : Int) (j : Nat) (hi : i = j) (hj : j < ms.length) (n : Nat) (hn : ms[j].l.length = n) :
    Calls Try.prog 13 #[pB b, .int .i64 i] w fun e w' => ∃ v' A c, e = .returned (.tuple #[mlV ms[j].f ms[j].t A n c, .bool true]) ∧ OB w' w.heap.size (.slice A n c) ms[j].l ∧ NU w w' b v ms v' (ms.eraseIdx j) ∧ ∀ k, (Value.slice A n c).ownBlock = some k → ¬ NB b v' (ms.eraseIdx j) k := by
  subst hi
  obtain ⟨W1, hW1⟩ : ∃ W1, W1 = w.alloc (mlO 0 0 none 0 0) := ⟨_, rfl⟩
  have B1 : Hid (Below w.heap.size w W1) := by rw [hW1]; exact (Below.refl _ _).alloc (Nat.le_refl _) _
  have S1 : Hid (W1.heap.size = w.heap.size + 1) := by show _ = _; rw [hW1]; simp
  have M1 : Hid (MlM W1 w.heap.size 0 0 none 0 0) := by rw [hW1]; exact MlM.new w _ _ _ _ _
  have N1 := h.belows B1.out
  have HL := Lib.hid (look_in W1 b v ms N1 hl (j : Int) j rfl hj n hn)
  have HD := Lib.hid (fun (W : World) (hW : Below w.heap.size w W) => drop_in W b v ms (h.belows hW) hl (j : Int) j rfl hj)
  have HB := Lib.hid (fun k (hk : NB b v ms k) => h.lt hk)
  have HW1 := Lib.hid hW1
  generalize ms[j].f = f at *
  generalize ms[j].t = t at *
  generalize ms[j].l = x at *
  generalize ms.eraseIdx j = ms' at *
  clear h N1 hj hl hn hW1
  go_enter Try.func13, Try.ntmps13
  go_wp2_with fail
  rw [← HW1.out]
  (with_reducible refine HL.out.mono ?_)
  rintro e w2 ⟨A2, c2, rfl, o2, b2⟩
  have M2 := Lib.hid (M1.out.then_ b2)
  have S2 : Hid (w.heap.size < w2.heap.size) := M2.out.lt
  have B2 := Lib.hid (B1.out.trans (b2.mono B1.out.size))
  have O2 := Lib.hid o2
  clear b2 o2
  go_wp2_with (first
    | (refine wpList_store_ml rfl (.tmp 6) (.tmp 12) rfl w2.heap.size (by rfl) (MlM.new w2 0 0 none 0 0) (by rfl) ?_; intro w4 p4 s4 g4))
  have P4 := Lib.hid p4
  have G4 := Lib.hid (below_own (B2.out.alloc B2.out.size (mlO 0 0 none 0 0)) g4 B2.out.size)
  have b4 : Below w2.heap.size w2 w4 := below_own ((Below.refl w2.heap.size w2).alloc (Nat.le_refl _) (mlO 0 0 none 0 0)) g4 (Nat.le_refl _)
  have M4 := Lib.hid (M2.out.then_ b4)
  have O4 := Lib.hid (O2.out.below b4 (Nat.le_refl _))
  have S4 := Lib.hid b4.size
  clear p4 s4 g4 b4
  go_wp2_with fail
  (with_reducible refine (HD.out _ G4.out).mono ?_)
  rintro e w5 ⟨rfl, v', U⟩
  have nb : ∀ k, w.heap.size ≤ k → ¬ NB b v ms k := fun k hk hb => by have := HB.out k hb; omega
  have nb' : ∀ k, w.heap.size ≤ k → k < w4.heap.size → ¬ NB b v' ms' k := fun k hk h4 hb => (U.nw k hb).elim (nb k hk) (fun h5 => by omega)
  have P5 : Hid (MlM w5 w2.heap.size f t A2 n c2) := (U.block _ P4.out.lt (nb _ B2.out.size)).trans P4.out
  have M5 : Hid (MlM w5 w.heap.size 0 0 none 0 0) := (U.block _ M4.out.lt (nb _ (Nat.le_refl _))).trans M4.out
  have O5 : Hid (OB w5 (w.heap.size + 1) (.slice A2 n c2) x) := (O4.out.less (by rw [S1.out]; exact Nat.le_refl _)).same fun k hk => U.block k (O4.out.lt k hk).2 (nb k (by have := (O4.out.lt k hk).1; have := S1.out; omega))
  have HN : Hid (∀ k, (Value.slice A2 n c2).ownBlock = some k → ¬ NB b v' ms' k) := fun k hk => nb' k (by have := (O4.out.lt k hk).1; have := S1.out; omega) (O4.out.lt k hk).2
  have HN0 := Lib.hid (nb' w.heap.size (Nat.le_refl _) M4.out.lt)
  have HU := Lib.hid (NU.after G4.out U)
  clear U nb nb'
  go_wp2_with (first
    | (refine wpList_load_ml rfl (.tmp 6) rfl w2.heap.size (by rfl) P5.out ?_)
    | (refine wpList_store_ml rfl (.tmp 4) (.tmp 17) rfl w.heap.size (by rfl) M5.out (by rfl) ?_; intro w6 p6 s6 g6))
  obtain ⟨r0, r1, r2⟩ := p6.c
  refine bodyPost_ret (v := .tuple #[mlV f t A2 n c2, .bool true]) (by simp [results, Try.results13, go_sem, r0, r1, r2]) rfl ⟨v', A2, c2, rfl, ?_, HU.out.wrote g6 (Nat.le_refl _) HN0.out, HN.out⟩
  exact (O5.out.less (by omega)).same fun k hk => g6.block k (O5.out.lt k hk).2 (fun e => by have := (O5.out.lt k hk).1; have := Option.some.inj e; omega)
end Go.Proofs.Ytolnafpicfemnaa
