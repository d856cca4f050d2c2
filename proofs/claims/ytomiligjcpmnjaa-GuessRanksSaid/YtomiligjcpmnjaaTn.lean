/- WALK of the law GuessRanks. -/
import Derived.Test.YtomiligjcpmnjaaTm
import Derived.Test.YtomiligjcpmnjaaXm
namespace Go.Proofs.Ytomiligjcpmnjaa
set_option maxRecDepth 100000
open Go.RowKit Go.Maps
set_option linter.unusedVariables false
set_option linter.unusedSimpArgs false

theorem rkA_apart (b : Kd) (r s : Nat) (l : List UInt8) (h : r ≠ s) (h1 : r ≤ 255) (h2 : s ≤ 255) : rkA b r l ≠ rkA b s l := fun e => by
  unfold rkA at e
  rcases Nat.lt_or_gt_of_ne h with c | c
  · have := rk_get_ah (sc b l) (r % 256) (s % 256) (by omega) (by omega)
    rw [e] at this
    exact ah_irr this
  · have := rk_get_ah (sc b l) (s % 256) (r % 256) (by omega) (by omega)
    rw [e] at this
    exact ah_irr this
theorem cel_at (b : Kd) (r t : Nat) {ls : List (List UInt8)} {F p0 : Nat} (h : First ls F p0) : celP b r t ls F p0 0 p0 = rkA b r (ls.getD p0 []) := by
  unfold celP
  rw [decide_eq_true rfl]
  unfold fullP
  rw [begP_t]
  have hl := h.2.1
  generalize ls.getD p0 [] = l at hl ⊢
  simp only [List.getD]
  rw [List.getElem?_append_left (by rw [List.length_append, hl]; simp), List.getElem?_append_right (by omega)]
  simp [hl]
/-- unlike ranks, unlike rows -/
theorem row_apart (b : Kd) (r s t : Nat) {ls : List (List UInt8)} {F p0 : Nat} (h : First ls F p0) (hrs : r ≠ s) (h1 : r ≤ 255) (h2 : s ≤ 255) : rowP b r t ls F p0 0 ≠ rowP b s t ls F p0 0 := fun e => by
  have e1 := rowP_get b r t ls F p0 0 p0 h.1
  rw [e, rowP_get b s t ls F p0 0 p0 h.1, cel_at b r t h, cel_at b s t h] at e1
  exact rkA_apart b r s _ hrs h1 h2 (Option.some.inj e1).symm
set_option maxHeartbeats 4000000 in
theorem ranks_law (n : Int) (A0 : Option Addr) (os : List O4) (cap0 : Nat) (rk sk : Int) (w : World) (h0 : RO4 w w.heap.size A0 os) (k0 : os.length ≤ cap0) (m0 : cap0 ≤ maxLen) (hos : ∀ o ∈ os, InO4 w o)
    (n1 : -9223372036854775808 ≤ n) (n2 : n ≤ 9223372036854775807) :
    Calls Try.prog 5 #[.int .i64 n, .slice A0 os.length cap0, .int .i64 rk, .int .i64 sk] w fun e w' => e = .returned (.bool true) ∧ Below w.heap.size w w' := by
  have HG := Lib.hid (begun19_any w)
  obtain ⟨Q, hQ⟩ : ∃ Q, os.length = Q := ⟨_, rfl⟩
  rw [hQ] at k0 ⊢
  have H0 := Lib.hid h0; have HQ := Lib.hid hQ; have HOS := Lib.hid hos
  obtain ⟨N, hN⟩ : ∃ N : Nat, (N : Int) = min (max n 2) 8 := ⟨(min (max n 2) 8).toNat, by omega⟩
  obtain ⟨a8, ha8⟩ : ∃ a : Int, min n 8 = a := ⟨_, rfl⟩
  have ha2 : max 2 a8 = (N : Int) := by omega
  have hN2 : 2 ≤ N := by omega
  have hN8 : N ≤ 8 := by omega
  clear h0 hQ hos hN k0 m0 n1 n2
  go_enter Try.func5, Try.ntmps5
  go_wp2_with fail
  (with_reducible refine HG.out.mono ?_)
  rintro e w2 ⟨rfl, hb2⟩
  have HB2 := Lib.hid hb2
  clear hb2 HG
  by_cases g1 : rk < 0
  · go_wp2_with fail
    go_ret
    exact ⟨rfl, HB2.out⟩
  by_cases g2 : 255 < rk
  · go_wp2_with fail
    go_ret
    exact ⟨rfl, HB2.out⟩
  by_cases g3 : sk < 0
  · go_wp2_with fail
    go_ret
    exact ⟨rfl, HB2.out⟩
  by_cases g4 : 255 < sk
  · go_wp2_with fail
    go_ret
    exact ⟨rfl, HB2.out⟩
  obtain ⟨R, rfl⟩ : ∃ R : Nat, rk = R := ⟨rk.toNat, by omega⟩
  obtain ⟨D, rfl⟩ : ∃ R : Nat, sk = R := ⟨sk.toNat, by omega⟩
  have HNEW := Lib.hid (qf_new w w2 HB2.out noB (no_noB _ _) N 0 N 0 (by omega) (by omega))
  have hd1 : decide ((R : Int) < 0) = false := by simp
  have hd2 : decide ((255 : Int) < (R : Int)) = false := decide_eq_false g2
  have hd3 : decide ((D : Int) < 0) = false := by simp
  have hd4 : decide ((255 : Int) < (D : Int)) = false := decide_eq_false g4
  go_wp2_with fail
  (with_reducible refine HNEW.out.mono ?_)
  rintro e w4 ⟨q, r, xs, rfl, F4, hmp, -⟩
  have hln := lines_any w4 N 0 hN8 (by omega)
  rw [show ((0 : Nat) : Int) = 0 from rfl] at hln
  have HLN := Lib.hid hln
  clear hln
  have HF4 := Lib.hid F4; have HMP := Lib.hid hmp
  clear HNEW F4 hmp
  go_wp2_with fail
  (with_reducible refine HLN.out.mono ?_)
  rintro e w5 ⟨V, ms, rfl, l5, hmm, b5⟩
  have hmn : ms.length = N := by have := congrArg List.length hmm; rw [List.length_map, List.length_replicate] at this; exact this
  have F5 : QF w w5 q r xs (LB V ms) := HF4.out.add b5 fun k hk => .inr ⟨(l5.lt hk).1, (l5.lt hk).2⟩
  have hxn : xs.length = N := by have := congrArg List.length HMP.out; rw [List.length_map, List.length_replicate] at this; exact this
  obtain ⟨g, c0, cur, rfl, -, -, -, -⟩ := l5.form (by omega) N hmn
  have HB5 : Hid (Bth w w5 q r N (.slice (some ⟨g, 0, none⟩) N c0) xs ms) := ⟨F5, l5.less HF4.out.be.size, hxn, by rw [hmm, HMP.out]⟩
  have HM5 : Hid (∀ x ∈ xs, x.l.length ≤ 12 * 0) := fun x hx => by
    have h1 : x.l ∈ xs.map Ln.l := List.mem_map_of_mem hx
    rw [HMP.out] at h1
    have h2 := (List.mem_replicate.1 h1).2
    rw [h2]
    simp [zB]
  clear HLN HF4 HMP l5 hmm b5 hmn F5 hxn ha8 ha2
  go_wp2_with fail
  clear hd1 hd2 hd3 hd4
  go_loopw [12] (fun ii wr => ∃ (i : Nat) (xs : List Ln) (ms : List Rl), ii = .int .i64 (i : Int) ∧ i ≤ 12 ∧ Hid (Bth w wr q r N (.slice (some ⟨g, 0, none⟩) N c0) xs ms) ∧ Hid (∀ x ∈ xs, x.l.length ≤ 12 * i)) (fun ii _ => 12 - (intOf ii).toNat)
  case atStart => exact ⟨0, xs, ms, rfl, by omega, HB5, HM5⟩
  case round =>
    obtain ⟨i, xs, ms, rfl, hi, HB, HM⟩ := hrel
    clear HB5 HM5
    obtain ⟨gb, hgb⟩ : ∃ gb : Bool, decide (i < Q ∧ i < 12) = gb := ⟨_, rfl⟩
    have HGB := Lib.hid hgb
    clear hgb
    go_upto_region 10 with fail
    go_cut [48] (fun s48 wx => s48 = .bool gb ∧ wx = wr)
    case first =>
      by_cases i0 : i < Q
      · have z1 : (i : Int) < (Q : Int) := by omega
        by_cases i1 : i < 12
        · have z2 : (i : Int) < 12 := by omega
          have i2 : Hid (gb = true) := by show _ = _; rw [← HGB.out]; exact decide_eq_true ⟨i0, i1⟩
          go_wp2
          go_meet
          exact ⟨by rw [i2.out], rfl⟩
        · have z2 : ¬ (i : Int) < 12 := by omega
          have z3 : decide ((i : Int) < 12) = false := decide_eq_false z2
          have i2 : Hid (gb = false) := by show _ = _; rw [← HGB.out]; exact decide_eq_false (fun h => i1 h.2)
          go_wp2
          go_meet
          exact ⟨by rw [i2.out], rfl⟩
      · have z1 : ¬ (i : Int) < (Q : Int) := by omega
        have z3 : decide ((i : Int) < (Q : Int)) = false := decide_eq_false z1
        have i2 : Hid (gb = false) := by show _ = _; rw [← HGB.out]; exact decide_eq_false (fun h => i0 h.1)
        go_wp2
        go_meet
        exact ⟨by rw [i2.out], rfl⟩
    case rest =>
      obtain ⟨rfl, hw⟩ := hcut
      subst wc
      cases gb with
      | true =>
        obtain ⟨hiq, hi50⟩ := of_decide_eq_true HGB.out
        have z1 : (i : Int) < (Q : Int) := by omega
        obtain ⟨b, off, rfl, hbw, hat⟩ := H0.out (by have := HQ.out; omega)
        obtain ⟨o, ho⟩ : ∃ o, os[i]'(by have := HQ.out; omega) = o := ⟨_, rfl⟩
        have hin := HOS.out o (by rw [← ho]; exact List.getElem_mem _)
        have hat4 : Hid (at4 wr b (off + i * 4) o) := by
          have h1 := hat i (by have := HQ.out; omega)
          rw [ho] at h1
          obtain ⟨x0, x1, x2, x3⟩ := h1
          have hb := HB.out.1.be
          exact ⟨(hb.cell (p := ⟨b, _, none⟩) hbw).trans x0, (hb.cell (p := ⟨b, _, none⟩) hbw).trans x1, (hb.cell (p := ⟨b, _, none⟩) hbw).trans x2, (hb.cell (p := ⟨b, _, none⟩) hbw).trans x3⟩
        have HDO := Lib.hid (do_grow w wr q r xs g N c0 ms HB.out hN8 o.k o.p o.f o.a o.l o.l.length o.cap rfl hin.le hin.cm hin.rb)
        clear hat ho hin
        go_wp2_with (refine wpList_load_op rfl (.tmp 55) rfl b (off + i * 4) (by rfl) hat4.out ?_)
        (with_reducible refine HDO.out.mono ?_)
        rintro e w6 ⟨rfl, xs6, ms6, B6, G6⟩
        have HB6 := Lib.hid B6
        have HM6 : Hid (∀ x ∈ xs6, x.l.length ≤ 12 * (i + 1)) := fun x hx => by have := G6 _ HM.out x hx; omega
        have hi2 : Hid (i + 1 ≤ 12) := by show _ ≤ _; omega
        have hms : Hid (12 - (i + 1) < 12 - i) := by show _ < _; omega
        clear HDO HB HM hat4 B6 G6
        go_wp2_with fail
        exact ⟨⟨i + 1, xs6, ms6, by go_num, hi2.out, HB6, HM6⟩, by simp [intOf]; have := hms.out; omega⟩
      | false =>
        have hx0 : 0 < xs.length := by have := HB.out.2.2.1; omega
        obtain ⟨F, hF⟩ : ∃ F, frontN xs = F := ⟨_, rfl⟩
        have hF1 : F ≤ 200 := by
          have h1 := frontN_mem xs xs[0] (List.getElem_mem hx0)
          have h2 := HM.out xs[0] (List.getElem_mem hx0)
          rw [hF] at h1
          omega
        obtain ⟨p0, hp0⟩ := first_lines xs F hF
        obtain ⟨ls, hls⟩ : ∃ ls, xs.map Ln.l = ls := ⟨_, rfl⟩
        rw [hls] at hp0
        have HP0 := Lib.hid (hp0 (by omega))
        obtain ⟨w6, hw6⟩ : ∃ w6, wr.alloc (.cells #[.int .i64 2, .int .i64 1, .slice none 0 0] 39) = w6 := ⟨_, rfl⟩
        have b6 : Below wr.heap.size wr w6 := by rw [← hw6]; exact (Below.refl _ _).alloc (Nat.le_refl _) _
        have s6 : w6.heap.size = wr.heap.size + 1 := by rw [← hw6]; simp
        have BX6 : Hid (Box3 w6 wr.heap.size 2 1 none 0 0) := by rw [← hw6]; exact by_box wr 2 1 none 0 0
        have F6 := Lib.hid (HB.out.1.belows b6)
        have hxN : Hid (xs.length = N) := HB.out.2.2.1
        have HFr := Lib.hid (front_any w6 q r xs F6.out.qm hx0 (by rw [hxN.out]; omega) F hF)
        obtain ⟨T, hT⟩ : ∃ T : Int, (F : Int) + 1 = T := ⟨_, rfl⟩
        have hAG : ∀ (m : Nat), ∀ wx, Below w6.heap.size w6 wx → Calls Try.prog 13 #[pB q, .agg #[.int .i64 2, .int .i64 1, .slice none 0 0], .int .i64 (m : Int), .int .i64 T] wx fun e w' => ∃ A' c', e = .returned (.slice A' 1 c') ∧ RR w' w'.heap.size A' (rowsP kM1 m (F + 1) ls F p0) ∧ Below wx.heap.size wx w' := fun m wx hx => by
          have := ahead_gen wx q r xs (F6.out.belows hx).qm N hxN.out (by omega) hN8 F hF 2 1 none 0 0 [] (pm_none wx) m T p0 (by rw [hls]; exact hp0) true (by decide) _ rfl
          rw [hls, aheadG_in (by omega) (by omega) (by omega), show (m : Int).toNat = m by omega, show T.toNat = F + 1 by omega, rowsP_len, show F + 1 - F = 1 by omega] at this
          exact this
        have HA1 := Lib.hid (hAG R)
        have HA2 := Lib.hid (hAG D)
        have hwr : IntKind.i64.wrap ((F : Int) + 1) = T := by rw [IntKind.wrap_i64]; omega
        have S6 := Lib.hid s6
        have HW6 := Lib.hid hw6
        have HLN : Hid (ls.length = N) := by show _ = _; rw [← hls, List.length_map]; exact hxN.out
        rw [← hw6] at HFr
        clear hAG hT s6 hw6 b6 hF hp0 hls hx0 HB HM
        go_wp2_with (go_at_call 18; with_reducible refine HFr.out.mono ?_; rintro e w7 ⟨rfl, rfl⟩)
        rw [HW6.out]
        have FX : Hid (∀ wx, Below w6.heap.size w6 wx → wx.cell? ⟨wr.heap.size, 0, none⟩ = some (.int .i64 2) ∧ wx.cell? ⟨wr.heap.size, 1, none⟩ = some (.int .i64 1) ∧ wx.cell? ⟨wr.heap.size, 2, none⟩ = some (.slice none 0 0)) := fun wx hx => BX6.out wx (by rw [← S6.out]; exact hx)
        have hbc : Below w6.heap.size w6 w6.drew := (Below.refl _ _).drew
        obtain ⟨q0, q1, q2⟩ := FX.out _ hbc
        clear BX6 HFr
        refine wp_region_held_drew (S := (fun w' => w'.cell? ⟨wr.heap.size, 0, none⟩ = some (.int .i64 2) ∧ w'.cell? ⟨wr.heap.size, 1, none⟩ = some (.int .i64 1) ∧ w'.cell? ⟨wr.heap.size, 2, none⟩ = some (.slice none 0 0))) (by kernel_rfl) (⟨q0, q1, q2⟩) (fun hHeld => ?_)
        refine held_take (i := 0) (v := ?_) rfl (by kernel_rfl) (by kernel_rfl) (by kernel_rfl) (fun _ _ _ h => h) (by rfl) hHeld ?_ ?_
        rotate_left 1
        · (intro w hSw; (try dsimp only at hSw); go_simp; try (with_reducible rfl))
        try simp only [Act.put, List.setIfInBounds_toArray, List.set_cons_zero, List.set_cons_succ]
        refine held_take (i := 1) (v := ?_) rfl (by kernel_rfl) (by kernel_rfl) (by kernel_rfl) (fun _ _ _ h => h) (by rfl) hHeld ?_ ?_
        rotate_left 1
        · (intro w hSw; (try dsimp only at hSw); go_simp; try (with_reducible rfl))
        try simp only [Act.put, List.setIfInBounds_toArray, List.set_cons_zero, List.set_cons_succ]
        refine held_take (i := 2) (v := ?_) rfl (by kernel_rfl) (by kernel_rfl) (by kernel_rfl) (fun _ _ _ h => h) (by rfl) hHeld ?_ ?_
        rotate_left 1
        · (intro w hSw; (try dsimp only at hSw); go_simp; try (with_reducible rfl))
        try simp only [Act.put, List.setIfInBounds_toArray, List.set_cons_zero, List.set_cons_succ]
        refine held_take (i := 3) (v := ?_) rfl (by kernel_rfl) (by kernel_rfl) (by kernel_rfl) (fun _ _ _ h => h) (by rfl) hHeld ?_ ?_
        rotate_left 1
        · (intro w hSw; (try dsimp only at hSw); go_simp; try (with_reducible rfl))
        try simp only [Act.put, List.setIfInBounds_toArray, List.set_cons_zero, List.set_cons_succ]
        refine held_take (i := 4) (v := ?_) rfl (by kernel_rfl) (by kernel_rfl) (by kernel_rfl) (fun _ _ _ h => h) (by rfl) hHeld ?_ ?_
        rotate_left 1
        · (intro w hSw; (try dsimp only at hSw); go_simp; try (with_reducible rfl))
        try simp only [Act.put, List.setIfInBounds_toArray, List.set_cons_zero, List.set_cons_succ]
        refine held_take (i := 6) (v := ?_) rfl (by kernel_rfl) (by kernel_rfl) (by kernel_rfl) (fun _ _ _ h => h) (by rfl) hHeld ?_ ?_
        rotate_left 1
        · (intro w hSw; (try dsimp only at hSw); go_simp; try (with_reducible rfl))
        try simp only [Act.put, List.setIfInBounds_toArray, List.set_cons_zero, List.set_cons_succ]
        refine held_take (i := 7) (v := ?_) rfl (by kernel_rfl) (by kernel_rfl) (by kernel_rfl) (fun _ _ _ h => h) (by rfl) hHeld ?_ ?_
        rotate_left 1
        · (intro w hSw; (try dsimp only at hSw); go_simp; try (with_reducible rfl))
        try simp only [Act.put, List.setIfInBounds_toArray, List.set_cons_zero, List.set_cons_succ]
        refine held_take (i := 8) (v := ?_) rfl (by kernel_rfl) (by kernel_rfl) (by kernel_rfl) (fun _ _ _ h => h) (by rfl) hHeld ?_ ?_
        rotate_left 1
        · (intro w hSw; (try dsimp only at hSw); go_simp; try (with_reducible rfl))
        try simp only [Act.put, List.setIfInBounds_toArray, List.set_cons_zero, List.set_cons_succ]
        refine held_take (i := 9) (v := ?_) rfl (by kernel_rfl) (by kernel_rfl) (by kernel_rfl) (fun _ _ _ h => h) (by rfl) hHeld ?_ ?_
        rotate_left 1
        · (intro w hSw; (try dsimp only at hSw); go_simp; try (with_reducible rfl))
        try simp only [Act.put, List.setIfInBounds_toArray, List.set_cons_zero, List.set_cons_succ]
        refine held_take (i := 10) (v := ?_) rfl (by kernel_rfl) (by kernel_rfl) (by kernel_rfl) (fun _ _ _ h => h) (by rfl) hHeld ?_ ?_
        rotate_left 1
        · (intro w hSw; (try dsimp only at hSw); go_simp; try (with_reducible rfl))
        try simp only [Act.put, List.setIfInBounds_toArray, List.set_cons_zero, List.set_cons_succ]
        refine held_one (i := 5) rfl (by kernel_rfl) (by rfl) (fun K hK => ?_)
        go_simp
        (with_reducible refine (HA1.out _ hbc).mono ?_)
        rintro e wa ⟨A3, k3, rfl, rr3, b5⟩
        have hbw3 := b5
        replace hbc := hbc.trans (b5.mono hbc.size)
        clear q0 q1 q2 b5
        obtain ⟨q0, q1, q2⟩ := FX.out _ hbc
        refine hK.out _ _ (⟨q0, q1, q2⟩) (fun hHeld2 => ?_)
        clear hK K hHeld; have hHeld := hHeld2; clear hHeld2
        try simp only [Act.put, List.setIfInBounds_toArray, List.set_cons_zero, List.set_cons_succ]
        refine held_one (i := 11) rfl (by kernel_rfl) (by rfl) (fun K hK => ?_)
        go_simp
        (with_reducible refine (HA2.out _ hbc).mono ?_)
        rintro e wb ⟨A4, k4, rfl, rr4, b5⟩
        have hbw4 := b5
        replace hbc := hbc.trans (b5.mono hbc.size)
        clear q0 q1 q2 b5
        obtain ⟨q0, q1, q2⟩ := FX.out _ hbc
        refine hK.out _ _ (⟨q0, q1, q2⟩) (fun hHeld2 => ?_)
        clear hK K hHeld; have hHeld := hHeld2; clear hHeld2
        try simp only [Act.put, List.setIfInBounds_toArray, List.set_cons_zero, List.set_cons_succ]
        refine held_take (i := 12) (v := ?_) rfl (by kernel_rfl) (by kernel_rfl) (by kernel_rfl) (fun _ _ _ h => h) (by rfl) hHeld ?_ ?_
        rotate_left 1
        · (intro w hSw; (try dsimp only at hSw); go_simp; try (with_reducible rfl))
        try simp only [Act.put, List.setIfInBounds_toArray, List.set_cons_zero, List.set_cons_succ]
        refine held_take (i := 13) (v := ?_) rfl (by kernel_rfl) (by kernel_rfl) (by kernel_rfl) (fun _ _ _ h => h) (by rfl) hHeld ?_ ?_
        rotate_left 1
        · (intro w hSw; (try dsimp only at hSw); go_simp; try (with_reducible rfl))
        try simp only [Act.put, List.setIfInBounds_toArray, List.set_cons_zero, List.set_cons_succ]
        refine wpAnyH_done (by kernel_rfl) ?_ _
        have HBE : Hid (Below w.heap.size w wb.drew) := (F6.out.be.trans (hbc.mono F6.out.be.size)).drew
        have HBd : Below wb.heap.size wb wb.drew := (Below.refl _ _).drew
        obtain ⟨x1, hx1⟩ : ∃ x, rowP kM1 R (F + 1) ls F p0 0 = x := ⟨_, rfl⟩
        obtain ⟨x2, hx2⟩ : ∃ x, rowP kM1 D (F + 1) ls F p0 0 = x := ⟨_, rfl⟩
        have l1 : x1.length = N := by rw [← hx1]; exact (rowP_len ..).trans HLN.out
        have l2 : x2.length = N := by rw [← hx2]; exact (rowP_len ..).trans HLN.out
        have e1 : (rowsP kM1 R (F + 1) ls F p0)[0]? = some x1 := by rw [rowsP_get _ _ _ _ _ _ _ (by omega), hx1]
        have e2 : (rowsP kM1 D (F + 1) ls F p0)[0]? = some x2 := by rw [rowsP_get _ _ _ _ _ _ _ (by omega), hx2]
        obtain ⟨g1, a1, m1, rfl, y1, z1⟩ := ((rr3.then_ (Nat.le_refl _) hbw4).then_ (Nat.le_refl _) HBd).at 0 x1 e1 N l1
        obtain ⟨g2, a2, m2, rfl, y2, z2⟩ := (rr4.then_ (Nat.le_refl _) HBd).at 0 x2 e2 N l2
        have i1 : wb.cell? ⟨g1, 0, none⟩ = some (.slice a1 N m1) := y1
        have i2 : wb.cell? ⟨g2, 0, none⟩ = some (.slice a2 N m2) := y2
        have v1 : (convert 23 9 (.slice a1 N m1)).run Try.prog wb.drew = .ok (.string (str x1)) wb.drew := conv_rb z1 N m1 l1
        have v2 : (convert 23 9 (.slice a2 N m2)).run Try.prog wb.drew = .ok (.string (str x2)) wb.drew := conv_rb z2 N m2 l2
        obtain ⟨t1, ht1⟩ : ∃ t, str x1 = t := ⟨_, rfl⟩
        obtain ⟨t2, ht2⟩ : ∃ t, str x2 = t := ⟨_, rfl⟩
        rw [ht1] at v1
        rw [ht2] at v2
        by_cases hrs : R = D
        · subst hrs
          have hts : t2 = t1 := by rw [← ht1, ← ht2, ← hx1, ← hx2]
          have hee : ((R : Int) == (R : Int)) = true := by simp
          subst hts
          clear y1 y2 z1 z2 rr3 rr4 hbw3 hbw4 hbc HBd e1 e2 hx1 hx2 ht1 ht2 l1 l2 q0 q1 q2 hwr HA1 HA2 FX
          go_wp2_with fail
          go_big_region
          all_goals go_wp2_with fail
          all_goals go_ret
          all_goals exact ⟨by first | rfl | simp, HBE.out⟩
        · have hne : x1 ≠ x2 := by rw [← hx1, ← hx2]; exact row_apart kM1 R D (F + 1) HP0.out hrs (by omega) (by omega)
          have hs : t1 ≠ t2 := by rw [← ht1, ← ht2]; exact str_ne hne
          have hs3 : (t1.toList == t2.toList) = false := by rw [← ht1, ← ht2, str_toList, str_toList]; simpa using hne
          have hee : ((R : Int) == (D : Int)) = false := by simp; omega
          clear y1 y2 z1 z2 rr3 rr4 hbw3 hbw4 hbc HBd e1 e2 hx1 hx2 ht1 ht2 l1 l2 hne q0 q1 q2 hwr HA1 HA2 FX
          go_wp2_with fail
          go_big_region
          all_goals go_wp2_with fail
          all_goals go_ret
          all_goals exact ⟨by first | rfl | simp, HBE.out⟩
end Go.Proofs.Ytomiligjcpmnjaa
