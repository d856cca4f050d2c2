/- texts of YcCh -/
import Derived.Deep.CutBlock
import Derived.Test.YtpnobpligchpiaaGreatDoorYcCg
namespace Go.Proofs.YtpnobpligchpiaaGreatDoor
set_option maxRecDepth 100000
open Go.RowKit
set_option linter.unusedVariables false
set_option linter.unusedSimpArgs false
set_option maxHeartbeats 16000000 in
theorem all_yes (C : Cf) (hm : C.may) (A0 : Option Addr) (qs : List O21) (cap0 : Nat) (w : World) (hT : TabW w) (h0 : RO21 w w.heap.size A0 qs) (k0 : qs.length ≤ cap0) (m0 : cap0 ≤ maxLen) (hq : ∀ o ∈ qs, InO21 w o) :
    Calls Tryz.prog 3 #[C.v, .slice A0 qs.length cap0] w fun e w' => e = .returned (.bool true) ∧ Below w.heap.size w w' := by
  obtain ⟨P, hP⟩ : ∃ P, w.heap.size = P := ⟨_, rfl⟩
  obtain ⟨W1, hW1⟩ : ∃ W1, W1 = w.alloc (cfO C.n C.me C.id C.dl C.wi C.g C.o C.br C.wk C.ro) := ⟨_, rfl⟩
  obtain ⟨Q, hQ⟩ : ∃ Q, qs.length = Q := ⟨_, rfl⟩
  have b1 : Below w.heap.size w W1 := by rw [hW1]; exact (Below.refl _ _).alloc (Nat.le_refl _) _
  have r1 : W1.rangeAt P 0 (cfZ C.n C.me C.id C.dl C.wi C.g C.o C.br C.wk C.ro) := by rw [hW1, ← hP]; exact cz_range (heap_alloc_new w _)
  have p1 : P < W1.heap.size := by rw [hW1, ← hP]; simp
  have HT1 := Lib.hid (hT.below b1 hT.lt)
  have HR : Hid (∀ W, Below W1.heap.size W1 W → W.rangeAt P 0 (cfZ C.n C.me C.id C.dl C.wi C.g C.o C.br C.wk C.ro)) := fun W hb => cz_below r1 hb p1
  have HBG := Lib.hid (begun21_any W1 HT1.out)
  have HNW := Lib.hid (fun (W : World) (hb : Below W1.heap.size W1 W) => at_new (w0 := W1) (O := (fun _ => False)) hb (fun k hk => hk.elim) C hm)
  have HDN := Lib.hid (fun (W : World) (c q : Nat) (s : Pl) (hW : At W1 W C c q s (fun _ => False)) => duo_new hm hW)
  have HM1 := Lib.hid (fun W => core_may C.n C.me C.id C.dl C.wi C.g C.o C.br C.wk C.ro true ⟨fun _ => hm, fun _ => rfl⟩ W)
  have HM2 := Lib.hid (fun W => ref_may C.n C.me C.id C.dl C.wi C.g C.o C.br C.wk C.ro true ⟨fun _ => hm, fun _ => rfl⟩ W)
  have HF := Lib.hid (may_fit hm)
  have HOK0 : Hid (Ok C 0 (newP C)) := Ok.new C (by unfold Cf.may MayC at hm; omega)
  have HB1 := Lib.hid b1; have HW1 := Lib.hid hW1; have HPP := Lib.hid hP; have HQ := Lib.hid hQ; have H0 := Lib.hid h0; have HOS := Lib.hid hq
  rw [hQ]
  unfold Cf.v cfV
  clear hm hT b1 r1 p1 hW1 hP h0 hq hQ k0 m0
  go_enter Tryz.func3, Tryz.ntmps3
  go_upto_region 1 with fail
  rw [← HW1.out]
  try rw [HPP.out]
  go_wp2_with (first
    | (go_at_call 11; (refine (HBG.out).mono ?_); rintro en w1 ⟨rfl, hb⟩; have HB2 := Lib.hid hb; clear hb)
    | (refine wpList_load_cz rfl (.tmp 2) rfl P (by rfl) (cfZ C.n C.me C.id C.dl C.wi C.g C.o C.br C.wk C.ro) rfl (HR.out _ HB2.out) ?_)
    | (go_at_call 12; (refine (HNW.out _ HB2.out).mono ?_); rintro en w2 ⟨c, q, rfl, ha, -⟩; have HA2 := Lib.hid ha; clear ha))
  have HB4 : Hid (Below W1.heap.size W1 w2.drew) := HA2.out.be.drew
  have HN4 : Hid (Below w2.heap.size w2 w2.drew) := (Below.refl _ _).drew
  refine wp_region_held_drew (S := (fun w' => w'.rangeAt P 0 (cfZ C.n C.me C.id C.dl C.wi C.g C.o C.br C.wk C.ro))) (by kernel_rfl) (HR.out _ HB4.out) (fun hHeld => ?_)
  refine held_take (i := 0) (v := (.agg (cfZ C.n C.me C.id C.dl C.wi C.g C.o C.br C.wk C.ro).toArray)) rfl (by kernel_rfl) (by kernel_rfl) (by kernel_rfl) (fun _ _ _ h => h) (by rfl) hHeld (fun w hw => exec_load_cz (S := fun _ => True) (.tmp 2) rfl P (by rfl) (cfZ C.n C.me C.id C.dl C.wi C.g C.o C.br C.wk C.ro) rfl w hw) ?_
  try simp only [Act.put, nB, nC, nD]
  refine held_take (i := 2) (v := (.agg (cfZ C.n C.me C.id C.dl C.wi C.g C.o C.br C.wk C.ro).toArray)) rfl (by kernel_rfl) (by kernel_rfl) (by kernel_rfl) (fun _ _ _ h => h) (by rfl) hHeld (fun w hw => exec_load_cz (S := fun _ => True) (.tmp 2) rfl P (by rfl) (cfZ C.n C.me C.id C.dl C.wi C.g C.o C.br C.wk C.ro) rfl w hw) ?_
  try simp only [Act.put, nB, nC, nD]
  refine held_one (i := 1) rfl (by kernel_rfl) (by rfl) (fun K hK => ?_)
  go_simp
  refine (HM1.out _).mono ?_
  rintro en w5 ⟨rfl, hb⟩
  have HB5 := Lib.hid (HB4.out.trans (hb.mono HB4.out.size))
  have HN5 := Lib.hid (HN4.out.trans (hb.mono HN4.out.size))
  clear hb
  refine hK.out _ _ (HR.out _ HB5.out) (fun hHeld2 => ?_)
  clear hK K hHeld; have hHeld := hHeld2; clear hHeld2
  try simp only [Act.put, nB, nC, nD]
  refine held_one (i := 3) rfl (by kernel_rfl) (by rfl) (fun K hK => ?_)
  go_simp
  refine (HM2.out _).mono ?_
  rintro en w6 ⟨rfl, hb⟩
  have HB6 := Lib.hid (HB5.out.trans (hb.mono HB5.out.size))
  have HN6 := Lib.hid (HN5.out.trans (hb.mono HN5.out.size))
  clear hb
  refine hK.out _ _ (HR.out _ HB6.out) (fun hHeld2 => ?_)
  clear hK K hHeld; have hHeld := hHeld2; clear hHeld2
  try simp only [Act.put, nB, nC, nD]
  refine held_take (i := 4) (v := ?_) rfl (by kernel_rfl) (by kernel_rfl) (by kernel_rfl) (fun _ _ _ h => h) (by rfl) hHeld ?_ ?_
  rotate_left 1
  · (intro w hSw; (try dsimp only at hSw); go_simp; try (with_reducible rfl))
  try simp only [Act.put, nB, nC, nD]
  refine held_take (i := 5) (v := ?_) rfl (by kernel_rfl) (by kernel_rfl) (by kernel_rfl) (fun _ _ _ h => h) (by rfl) hHeld ?_ ?_
  rotate_left 1
  · (intro w hSw; (try dsimp only at hSw); go_simp; try (with_reducible rfl))
  try simp only [Act.put, nB, nC, nD]
  refine held_take (i := 6) (v := ?_) rfl (by kernel_rfl) (by kernel_rfl) (by kernel_rfl) (fun _ _ _ h => h) (by rfl) hHeld ?_ ?_
  rotate_left 1
  · (intro w hSw; (try dsimp only at hSw); go_simp; try (with_reducible rfl))
  try simp only [Act.put, nB, nC, nD]
  refine held_take (i := 7) (v := ?_) rfl (by kernel_rfl) (by kernel_rfl) (by kernel_rfl) (fun _ _ _ h => h) (by rfl) hHeld ?_ ?_
  rotate_left 1
  · (intro w hSw; (try dsimp only at hSw); go_simp; try (with_reducible rfl))
  try simp only [Act.put, nB, nC, nD]
  refine held_take (i := 8) (v := (.agg (cfZ C.n C.me C.id C.dl C.wi C.g C.o C.br C.wk C.ro).toArray)) rfl (by kernel_rfl) (by kernel_rfl) (by kernel_rfl) (fun _ _ _ h => h) (by rfl) hHeld (fun w hw => exec_load_cz (S := fun _ => True) (.tmp 2) rfl P (by rfl) (cfZ C.n C.me C.id C.dl C.wi C.g C.o C.br C.wk C.ro) rfl w hw) ?_
  try simp only [Act.put, nB, nC, nD]
  refine held_one (i := 9) rfl (by kernel_rfl) (by rfl) (fun K hK => ?_)
  go_simp
  refine (HM2.out _).mono ?_
  rintro en w7 ⟨rfl, hb⟩
  have HB7 := Lib.hid (HB6.out.trans (hb.mono HB6.out.size))
  have HN7 := Lib.hid (HN6.out.trans (hb.mono HN6.out.size))
  clear hb
  refine hK.out _ _ (HR.out _ HB7.out) (fun hHeld2 => ?_)
  clear hK K hHeld; have hHeld := hHeld2; clear hHeld2
  try simp only [Act.put, nB, nC, nD]
  refine held_take (i := 10) (v := ?_) rfl (by kernel_rfl) (by kernel_rfl) (by kernel_rfl) (fun _ _ _ h => h) (by rfl) hHeld ?_ ?_
  rotate_left 1
  · (intro w hSw; (try dsimp only at hSw); go_simp; try (with_reducible rfl))
  try simp only [Act.put, nB, nC, nD]
  refine held_take (i := 11) (v := ?_) rfl (by kernel_rfl) (by kernel_rfl) (by kernel_rfl) (fun _ _ _ h => h) (by rfl) hHeld ?_ ?_
  rotate_left 1
  · (intro w hSw; (try dsimp only at hSw); go_simp; try (with_reducible rfl))
  try simp only [Act.put, nB, nC, nD]
  refine wpAnyH_done (by kernel_rfl) ?_ _
  clear hHeld
  have HA7 := Lib.hid (HA2.out.belows HN7.out)
  have HR7 : Hid (w7.rangeAt P 0 (cfZ C.n C.me C.id C.dl C.wi C.g C.o C.br C.wk C.ro)) := HR.out _ HB7.out
  skip
  go_wp2_with (first
    | (refine wpList_load_cz rfl (.tmp 2) rfl P (by rfl) (cfZ C.n C.me C.id C.dl C.wi C.g C.o C.br C.wk C.ro) rfl HR7.out ?_)
    | (go_at_call 15; (refine (HDN.out _ _ _ _ HA7.out).mono ?_); rintro en w8 ⟨d, rfl, dd, -⟩; have HD8 := Lib.hid dd; clear dd))
  clear HNW HDN HM1 HM2 HB2 HB4 HN4 HB5 HN5 HB6 HN6 HB7 HN7 HA2 HA7 HR7 HBG
  go_loopw [9, 10, 11, 12, 13, 14, 15] (fun ii s10 s11 s12 s13 s14 s15 wr => ∃ (i : Nat) (s : Pl), ii = .int .i64 (i : Int) ∧ i ≤ 80 ∧ Hid (Ok C i s) ∧ Hid (s.ms.length ≤ i) ∧ Hid (Duo W1 wr C c q d s s (fun _ => False))) (fun ii _ _ _ _ _ _ _ => 80 - (intOf ii).toNat)
  case atStart => exact ⟨0, newP C, rfl, by omega, HOK0, Nat.le_refl 0, HD8⟩
  case round =>
    clear HD8 HOK0
    obtain ⟨i, s, rfl, hi, HOK, HMS, HD⟩ := hrel
    by_cases hgo : i < Q ∧ i < 80
    · obtain ⟨hiq, hi80⟩ := hgo
      have z1 : (i : Int) < (Q : Int) := by omega
      have z2 : (i : Int) < 80 := by omega
      obtain ⟨b, off, rfl, hbw, hat⟩ := H0.out (by have := HQ.out; omega)
      obtain ⟨o, ho⟩ : ∃ o, qs[i]'(by have := HQ.out; omega) = o := ⟨_, rfl⟩
      have hin := HOS.out o (by rw [← ho]; exact List.getElem_mem _)
      have hr := hat i (by have := HQ.out; omega)
      rw [ho] at hr
      obtain ⟨kd, bA, bl, bc, k, f, t, id, fi, A, l, cc, ac, fr, su, ft, sm⟩ := o
      obtain ⟨rb, be, bm, rl, le, lm, hsu, hsm⟩ := hin
      dsimp only at rb be bm rl le lm hsu hsm
      obtain ⟨bn, hbn⟩ : ∃ m, bl.length = m := ⟨_, rfl⟩
      obtain ⟨n, hn⟩ : ∃ m, l.length = m := ⟨_, rfl⟩
      have hr2 : ∀ j v, (opL21 kd bA bl.length bc k f t id fi A l.length cc ac fr su ft sm)[j]? = some v → w.cell? ⟨b, off + i * 13 + j, none⟩ = some v := hr
      rw [hbn, hn] at hr2
      have HBR : Hid (Below w.heap.size w wr) := HB1.out.trans (HD.out.be.mono HB1.out.size)
      have HRW : Hid (wr.rangeAt b (off + i * 13) (opL21 kd bA bn bc k f t id fi A n cc ac fr su ft sm)) := fun j v hj => (HBR.out.cell (p := ⟨b, _, none⟩) hbw).trans (hr2 j v hj)
      have HRB := Lib.hid rb; have HBE := Lib.hid be; have HBM := Lib.hid bm; have HRL := Lib.hid rl; have HLE := Lib.hid le; have HLM := Lib.hid lm; have HSU := Lib.hid hsu; have HSM := Lib.hid hsm; have HBN := Lib.hid hbn; have HN := Lib.hid hn
      clear rb be bm rl le lm hsu hsm hbn hn hr hr2 hat ho
      go_upto_block 2 with (first
        | (refine wpList_load_op21 rfl (.tmp 58) rfl b (off + i * 13) (by rfl) HRW.out ?_)
        | (refine wpList_store_op21 rfl (.tmp 10) (.tmp 59) rfl wr.heap.size (by rfl) (heap_alloc_new wr _) (by rfl) ?_; intro wa pa za ga; have HOPa := Lib.hid pa; have HBA : Hid (Below wr.heap.size wr wa) := below_own ((Below.refl _ _).alloc (Nat.le_refl _) _) ga (Nat.le_refl _); obtain ⟨q0, q1, q2⟩ := pa.cells; clear pa za ga))
      have HDa : Hid (Duo W1 wa C c q d s s (fun k => k = wr.heap.size)) := (HD.out.grab HBA.out).less (fun k hk => .inr ⟨by rw [hk]; exact Nat.le_refl _, by rw [hk]; exact HOPa.out.lt⟩)
      have HBW : Hid (Below w.heap.size w wa) := HBR.out.trans (HBA.out.mono HBR.out.size)
      clear HD HRW HBR HBA
      go_cut [11, 12, 13, 14, 15] (fun s11 s12 s13 s14 s15 wx => ∃ (a : Int) (s2 : Pl), s11 = .int .i64 a ∧ s12 = .int .i64 a ∧ Hid (Ok C (i + 1) s2) ∧ Hid (s2.ms.length ≤ i + 1) ∧ Hid (Duo W1 wx C c q d s2 s2 (fun _ => False)))
      case first =>
        by_cases k0 : kd = 0
        · subst k0
          as_aux_lemma =>
            obtain ⟨vv, hvv⟩ : ∃ vv : UInt8, vv = bl.headD 0 := ⟨_, rfl⟩
            obtain ⟨⟨a, s2⟩, hp⟩ : ∃ x, pressP C s vv = x := ⟨_, rfl⟩
            have HOK2 : Hid (Ok C (i + 1) s2) := by have := (HOK.out.press vv).more (Nat.le_succ i); rw [hp] at this; exact this
            have HMS2 : Hid (s2.ms.length ≤ i + 1) := by have := press_ms C s vv; rw [hp] at this; show _ ≤ _; rw [this]; have := HMS.out; omega
            by_cases hz : bn = 0
            · have hbl : bl = [] := List.length_eq_zero_iff.1 (HBN.out.trans hz)
              subst hz
              have hv0 : vv = 0 := by rw [hvv, hbl]; rfl
              subst hv0
              have HP1 : Hid (Calls Tryz.prog 16 #[pB c, .int .u8 0] wa fun e w' => e = .returned (.int .i64 a) ∧ Duo W1 w' C c q d s2 s (fun k => k = wr.heap.size) ∧ Same (fun k => k = wr.heap.size) wa w') := duo_press HF.out HDa.out HOK.out 0 a s2 hp
              have HP2 : Hid (∀ W, Duo W1 W C c q d s2 s (fun k => k = wr.heap.size) → Calls Tryz.prog 17 #[pB d, .int .u8 0] W fun e w' => e = .returned (.int .i64 a) ∧ Duo W1 w' C c q d s2 s2 (fun k => k = wr.heap.size) ∧ Same (fun k => k = wr.heap.size) W w') := fun W hW => duo_dpress HF.out hW HOK.out 0 a s2 hp
              clear hp hvv hbl
              go_wp2_with (first
                | (go_at_call 16; (refine (HP1.out).mono ?_); rintro e w3 ⟨rfl, d3, -⟩; have HD3 := Lib.hid d3; clear d3)
                | (go_at_call 17; (refine (HP2.out _ HD3.out).mono ?_); rintro e w4 ⟨rfl, d4, -⟩; have HD4 := Lib.hid d4; clear d4))
              go_meet
              exact ⟨a, s2, rfl, rfl, HOK2, HMS2, HD4.out.less (fun k hk => hk.elim)⟩
            · have hz0 : 0 < bl.length := by have := HBN.out; omega
              obtain ⟨g0, o0, hA0, hg0, hc0⟩ := HRB.out hz0
              have hx := hc0 0 hz0
              obtain ⟨x0, hx0⟩ : ∃ x0 : UInt8, bl[0] = x0 := ⟨_, rfl⟩
              rw [hx0] at hx
              have hvx : vv = x0 := by rw [hvv, ← hx0]; cases bl with
                | nil => simp at hz0
                | cons y r => rfl
              subst hvx hA0
              have hxa : wa.cell? ⟨g0, o0, none⟩ = some (vb vv) := (HBW.out.cell (p := ⟨g0, o0, none⟩) hg0).trans hx
              have zb : (0 : Int) < (bn : Int) := by omega
              have zb1 : 0 < bn := by omega
              have HP1 := Lib.hid (duo_press HF.out HDa.out HOK.out vv a s2 hp)
              have HP2 := Lib.hid (fun (W : World) (hW : Duo W1 W C c q d s2 s (fun k => k = wr.heap.size)) => duo_dpress HF.out hW HOK.out vv a s2 hp)
              clear hp hvv hx hx0 hc0 hz0 hz
              go_wp2_with (first
                | (go_at_call 16; (refine (HP1.out).mono ?_); rintro e w3 ⟨rfl, d3, -⟩; have HD3 := Lib.hid d3; clear d3)
                | (go_at_call 17; (refine (HP2.out _ HD3.out).mono ?_); rintro e w4 ⟨rfl, d4, -⟩; have HD4 := Lib.hid d4; clear d4))
              go_meet
              exact ⟨a, s2, rfl, rfl, HOK2, HMS2, HD4.out.less (fun k hk => hk.elim)⟩
        have e0 : (kd == 0) = false := by simp [k0]
        by_cases k1 : kd = 1
        · subst k1
          as_aux_lemma =>
            obtain ⟨⟨xs, s2⟩, hp⟩ : ∃ x, tickP C s = x := ⟨_, rfl⟩
            have HOK2 : Hid (Ok C (i + 1) s2) := by have := HOK.out.tick; rw [hp] at this; exact this
            have HMS2 : Hid (s2.ms.length ≤ i + 1) := by have := tick_ms C s; rw [hp] at this; show _ ≤ _; rw [this]; have := HMS.out; omega
            have hx8 : xs.length ≤ 8 := by have := tick_len C s; rw [hp] at this; have h8 := HF.out.2.1; have h9 : xs.length ≤ C.n := this; omega
            have HXA : Hid (xs.length ≤ 100) := Nat.le_trans hx8 (by omega)
            have HXB : Hid (xs.length ≤ 100000) := Nat.le_trans hx8 (by omega)
            have hm9 : i ≤ 10000 := by omega
            have HK1 := Lib.hid (duo_tick HF.out HDa.out HOK.out HT1.out hm9 xs s2 hp)
            have HK2 := Lib.hid (fun (W : World) (O' : Nat → Prop) (hW : Duo W1 W C c q d s2 s O') => duo_dtick HF.out hW HOK.out hm9 xs s2 hp)
            clear hp hx8 hm9
            go_wp2_with (first
              | (go_at_call 20; (refine (HK1.out).mono ?_); rintro e w3 ⟨v3, B3, rfl, t3, l3, m3, d3, -⟩; have HD3 := Lib.hid d3; have HT3 := Lib.hid t3; have HM3 := Lib.hid m3; clear d3 t3 l3 m3)
              | (go_at_call 19; (refine (mails_any _ _ _ _ _ HT3.out HXA.out HM3.out).mono ?_); rintro e w4 ⟨v4, rfl, t4, b4⟩; have HD4 := Lib.hid (HD3.out.grab b4); have HT4 := Lib.hid t4; clear t4 b4)
              | (go_at_call 21; (refine (HK2.out _ _ HD4.out).mono ?_); rintro e w5 ⟨v5, B5, rfl, t5, l5, d5, s5⟩; have HT5 := Lib.hid t5; have HT6 := Lib.hid (dt_keep HT4.out s5); have HD5 := Lib.hid d5; clear t5 l5 d5 s5)
              | (go_at_call 18; (refine (eqmails_same _ _ _ _ _ _ _ HT6.out HT5.out HXB.out).mono ?_); rintro e w6 ⟨rfl, b6⟩; have HD6 : Hid (Duo W1 w6 C c q d s2 s2 (fun _ => False)) := (HD5.out.belows b6).less (fun k hk => hk.elim); clear b6))
            go_meet
            exact ⟨0, s2, rfl, rfl, HOK2, HMS2, HD6⟩
        have e1 : (kd == 1) = false := by simp [k1]
        by_cases k2 : kd = 2
        · subst k2
          as_aux_lemma =>
            obtain ⟨X, hX⟩ : ∃ X, (l.take 33).length = X := ⟨_, rfl⟩
            have hXn : X ≤ cc := by rw [← hX, List.length_take]; have := HN.out; have := HLE.out; omega
            obtain ⟨T2, hT2⟩ : ∃ T2, (if ft then (C.me : Int) else t) = T2 := ⟨_, rfl⟩
            obtain ⟨I2, hI2⟩ : ∃ I2, (if ft then C.id else id) = I2 := ⟨_, rfl⟩
            have hlp := fun W => lpacket_any C 2 bA bn bc k f t id fi A n cc ac fr su ft sm l W HN.out (by have := HLE.out; have := HN.out; omega) HLM.out X hX
            rw [hT2, hI2] at hlp
            have HLP := Lib.hid hlp
            have HRP := Lib.hid (fun (W : World) (hW : Below w.heap.size w W) => refpacket_any k f T2 I2 fi A (l.take 33) X cc ac fr su W (((HRL.out.below hW).more hW.size).take 33) hX hXn HLM.out HSU.out.1 HSU.out.2)
            obtain ⟨y, hy⟩ : ∃ y, encC k f T2 I2 fi ac fr su (l.take 33) = y := ⟨_, rfl⟩
            rw [hy] at HRP
            obtain ⟨Y, hY⟩ : ∃ Y, y.length = Y := ⟨_, rfl⟩
            have hY100 : Y ≤ 4096 := by rw [← hY, ← hy]; have := enc_short k f T2 I2 fi ac fr su (l.take 33); omega
            obtain ⟨o, ho⟩ := told_has y
            obtain ⟨⟨a, s2⟩, hp⟩ : ∃ x, recvP C s o = x := ⟨_, rfl⟩
            have HOK2 : Hid (Ok C (i + 1) s2) := by have := HOK.out.recv HF.out.2.1 o (fun p e => told_bounds ho p e); rw [hp] at this; exact this
            have HMS2 : Hid (s2.ms.length ≤ i + 1) := by have := recv_ms C s o; rw [hp] at this; show _ ≤ _; rw [this]; have := HMS.out; omega
            have hm9 : i ≤ 10000 := by omega
            have HYY := Lib.hid hY
            have HK1 := Lib.hid (fun (W : World) (O' : Nat → Prop) (hW : Duo W1 W C c q d s s O') (A4 : Option Addr) (c4 : Nat) (h1 : RB W W.heap.size A4 y) (h2 : Y ≤ c4) (h3 : c4 ≤ maxLen) => duo_recv HF.out hW HOK.out HT1.out hm9 A4 y Y c4 h1 hY h2 h3 hY100 o ho a s2 hp)
            have HK2 := Lib.hid (fun (W : World) (O' : Nat → Prop) (hW : Duo W1 W C c q d s2 s O') (A4 : Option Addr) (c4 : Nat) (h1 : RB W W.heap.size A4 y) (h2 : Y ≤ c4) (h3 : c4 ≤ maxLen) => duo_drecv unpOwn HF.out hW HOK.out hm9 A4 y Y c4 h1 hY h2 h3 hY100 o ho a s2 hp)
            have HRa : Hid (wa.rangeAt P 0 (cfZ C.n C.me C.id C.dl C.wi C.g C.o C.br C.wk C.ro)) := HR.out _ HDa.out.be
            clear hX hXn hT2 hI2 hlp hy hY hY100 ho hp hm9
            go_wp2_with (first
              | (refine wpList_load_cz rfl (.tmp 2) rfl P (by rfl) (cfZ C.n C.me C.id C.dl C.wi C.g C.o C.br C.wk C.ro) rfl HRa.out ?_)
              | (refine wpList_load_op21 rfl (.tmp 10) rfl wr.heap.size 0 (by rfl) HOPa.out.range ?_)
              | (go_at_call 23; (refine (HLP.out _).mono ?_); rintro e w3 ⟨rfl, b3⟩; have HB3 := Lib.hid b3; clear b3)
              | (go_at_call 22; (refine (HRP.out _ (HBW.out.trans (HB3.out.mono HBW.out.size))).mono ?_); rintro e w4 ⟨v4, rfl, ho4, b4⟩; obtain ⟨A4, c4, rfl, h41, h42, h43⟩ := ho4.form_n Y HYY.out; have HD4 := Lib.hid (HDa.out.grab (HB3.out.trans (b4.mono HB3.out.size))); have HO4 := Lib.hid ho4; have HS4 : Hid (wa.heap.size ≤ w3.heap.size) := HB3.out.size; have H41 := Lib.hid h41; have H42 := Lib.hid h42; have H43 := Lib.hid h43; clear ho4 b4 h41 h42 h43)
              | (go_at_call 24; (refine (HK1.out _ _ HD4.out A4 c4 H43.out H41.out H42.out).mono ?_); rintro e w5 ⟨rfl, d5, s5⟩; have HO5 := Lib.hid (HO4.out.same (w' := w5) (fun k hk => s5 k (.inr ⟨Nat.le_trans HS4.out (HO4.out.lt k hk).1, (HO4.out.lt k hk).2⟩))); have HD5 := Lib.hid d5; clear d5 s5)
              | (go_at_call 25; (refine (HK2.out _ _ HD5.out A4 c4 HO5.out.cells H41.out H42.out).mono ?_); rintro e w6 ⟨rfl, d6, -⟩; have HD6 : Hid (Duo W1 w6 C c q d s2 s2 (fun _ => False)) := d6.less (fun k hk => hk.elim); clear d6))
            go_meet
            exact ⟨a, s2, rfl, rfl, HOK2, HMS2, HD6⟩
        have e2 : (kd == 2) = false := by simp [k2]
        by_cases k3 : kd = 3
        · subst k3
          as_aux_lemma =>
            obtain ⟨Y, hY⟩ : ∃ Y, (bl.take 60).length = Y := ⟨_, rfl⟩
            have hY60 : Y ≤ 4096 := by rw [← hY, List.length_take]; omega
            have hYc : Y ≤ bc := by rw [← hY, List.length_take]; have := HBN.out; have := HBE.out; omega
            have HSH := Lib.hid (fun W => short_n bA bl bn bc 60 W HBN.out (by omega) (by have := HBE.out; have := HBN.out; omega) HBM.out Y hY 60 rfl)
            obtain ⟨o, ho⟩ := told_has (bl.take 60)
            obtain ⟨⟨a, s2⟩, hp⟩ : ∃ x, recvP C s o = x := ⟨_, rfl⟩
            have HOK2 : Hid (Ok C (i + 1) s2) := by have := HOK.out.recv HF.out.2.1 o (fun p e => told_bounds ho p e); rw [hp] at this; exact this
            have HMS2 : Hid (s2.ms.length ≤ i + 1) := by have := recv_ms C s o; rw [hp] at this; show _ ≤ _; rw [this]; have := HMS.out; omega
            have hm9 : i ≤ 10000 := by omega
            have HRT : Hid (∀ W, Below w.heap.size w W → RB W W.heap.size bA (bl.take 60)) := fun W hW => ((HRB.out.below hW).more hW.size).take 60
            have HK1 := Lib.hid (duo_recv HF.out HDa.out HOK.out HT1.out hm9 bA (bl.take 60) Y bc (HRT.out _ HBW.out) hY hYc HBM.out hY60 o ho a s2 hp)
            have HK2 := Lib.hid (fun (W : World) (O' : Nat → Prop) (hW : Duo W1 W C c q d s2 s O') (h1 : RB W W.heap.size bA (bl.take 60)) => duo_drecv unpOwn HF.out hW HOK.out hm9 bA (bl.take 60) Y bc h1 hY hYc HBM.out hY60 o ho a s2 hp)
            clear hY hY60 hYc ho hp hm9
            go_wp2_with (first
              | (go_at_call 26; (refine (HSH.out _).mono ?_); rintro e w3 ⟨rfl, rfl⟩)
              | (go_at_call 24; (refine (HK1.out).mono ?_); rintro e w5 ⟨rfl, d5, -⟩; have HD5 := Lib.hid d5; have HR5 := Lib.hid (HRT.out _ (HB1.out.trans (d5.be.mono HB1.out.size))); clear d5)
              | (go_at_call 25; (refine (HK2.out _ _ HD5.out HR5.out).mono ?_); rintro e w6 ⟨rfl, d6, -⟩; have HD6 : Hid (Duo W1 w6 C c q d s2 s2 (fun _ => False)) := d6.less (fun k hk => hk.elim); clear d6))
            go_meet
            exact ⟨a, s2, rfl, rfl, HOK2, HMS2, HD6⟩
        have e3 : (kd == 3) = false := by simp [k3]
        by_cases k4 : kd = 4
        · subst k4
          as_aux_lemma =>
            obtain ⟨s2, hp⟩ : ∃ x, markP C s sm = x := ⟨_, rfl⟩
            have HOK2 : Hid (Ok C (i + 1) s2) := by have := HOK.out.mark HF.out.2.1 sm HSM.out; rw [hp] at this; exact this
            have HMS2 : Hid (s2.ms.length ≤ i + 1) := by have := mark_ms C s sm; rw [hp] at this; show _ ≤ _; have := HMS.out; omega
            have hm9 : i ≤ 10000 := by omega
            have HK1 := Lib.hid (duo_mark HF.out HDa.out HOK.out hm9 sm HSM.out)
            have HK2 := Lib.hid (fun (W : World) (O' : Nat → Prop) (hW : Duo W1 W C c q d s2 s O') => duo_dmark HF.out hW HOK.out hm9 sm HSM.out (by have := HMS.out; omega))
            rw [hp] at HK1 HK2
            clear hp hm9
            go_wp2_with (first
              | (go_at_call 27; (refine (HK1.out).mono ?_); rintro e w5 ⟨rfl, d5, s5⟩; have p5 : OpB w5 wr.heap.size 4 bA bn bc k f t id fi A n cc ac fr su ft sm := (s5 _ rfl).trans HOPa.out; obtain ⟨-, -, q5⟩ := p5.cells; have HD5 := Lib.hid d5; clear d5 s5 p5)
              | (go_at_call 28; (refine (HK2.out _ _ HD5.out).mono ?_); rintro e w6 ⟨rfl, d6, -⟩; have HD6 : Hid (Duo W1 w6 C c q d s2 s2 (fun _ => False)) := d6.less (fun k hk => hk.elim); clear d6))
            go_meet
            exact ⟨0, s2, rfl, rfl, HOK2, HMS2, HD6⟩
        have e4 : (kd == 4) = false := by simp [k4]
        by_cases k5 : kd = 5
        · subst k5
          as_aux_lemma =>
            obtain ⟨⟨xs, s2⟩, hp⟩ : ∃ x, quitP C s = x := ⟨_, rfl⟩
            have HOK2 : Hid (Ok C (i + 1) s2) := by have := HOK.out.quit.more (Nat.le_succ i); rw [hp] at this; exact this
            have HMS2 : Hid (s2.ms.length ≤ i + 1) := by have := quit_ms C s; rw [hp] at this; show _ ≤ _; rw [this]; have := HMS.out; omega
            have hx8 : xs.length ≤ 8 := by have := quit_len C s; rw [hp] at this; have h8 := HF.out.2.1; have h9 : xs.length ≤ C.n := this; omega
            have HXA : Hid (xs.length ≤ 100) := Nat.le_trans hx8 (by omega)
            have HXB : Hid (xs.length ≤ 100000) := Nat.le_trans hx8 (by omega)
            have hm9 : i ≤ 10000 := by omega
            have HK1 := Lib.hid (duo_quit HF.out HDa.out HOK.out HT1.out xs s2 hp)
            have HK2 := Lib.hid (fun (W : World) (O' : Nat → Prop) (hW : Duo W1 W C c q d s2 s O') => duo_dquit HF.out hW xs s2 hp)
            clear hp hx8 hm9
            go_wp2_with (first
              | (go_at_call 29; (refine (HK1.out).mono ?_); rintro e w3 ⟨v3, B3, rfl, t3, l3, m3, d3, -⟩; have HD3 := Lib.hid d3; have HT3 := Lib.hid t3; have HM3 := Lib.hid m3; clear d3 t3 l3 m3)
              | (go_at_call 19; (refine (mails_any _ _ _ _ _ HT3.out HXA.out HM3.out).mono ?_); rintro e w4 ⟨v4, rfl, t4, b4⟩; have HD4 := Lib.hid (HD3.out.grab b4); have HT4 := Lib.hid t4; clear t4 b4)
              | (go_at_call 30; (refine (HK2.out _ _ HD4.out).mono ?_); rintro e w5 ⟨v5, B5, rfl, t5, l5, d5, s5⟩; have HT5 := Lib.hid t5; have HT6 := Lib.hid (dt_keep HT4.out s5); have HD5 := Lib.hid d5; clear t5 l5 d5 s5)
              | (go_at_call 18; (refine (eqmails_same _ _ _ _ _ _ _ HT6.out HT5.out HXB.out).mono ?_); rintro e w6 ⟨rfl, b6⟩; have HD6 : Hid (Duo W1 w6 C c q d s2 s2 (fun _ => False)) := (HD5.out.belows b6).less (fun k hk => hk.elim); clear b6))
            go_meet
            exact ⟨0, s2, rfl, rfl, HOK2, HMS2, HD6⟩
        have e5 : (kd == 5) = false := by simp [k5]
        clear k0 k1 k2 k3 k4 k5
        as_aux_lemma =>
          obtain ⟨es, hes⟩ : ∃ es, s.es = es := ⟨_, rfl⟩
          have HE8 : Hid (es.length ≤ 900000) := by have := HOK.out.es; rw [hes] at this; show _ ≤ _; omega
          obtain ⟨s2, hp⟩ : ∃ x, toldP s = x := ⟨_, rfl⟩
          have HOK2 : Hid (Ok C (i + 1) s2) := by have := HOK.out.told.more (Nat.le_succ i); rw [hp] at this; exact this
          have HMS2 : Hid (s2.ms.length ≤ i + 1) := by rw [← hp]; exact Nat.le_succ_of_le HMS.out
          have hk1 := duo_events HDa.out
          rw [hes, hp] at hk1
          have HK1 := Lib.hid hk1
          have HK2 : Hid (∀ (W : World) (O' : Nat → Prop), Duo W1 W C c q d s2 s O' → Calls Tryz.prog 34 #[pB d] W fun e w' => ∃ v, e = .returned v ∧ RwO w' W1.heap.size v es ∧ Duo W1 w' C c q d s2 s2 O' ∧ Same O' W w') := fun W O' hW => by
            have := duo_told hW
            rw [hes, hp] at this
            exact this
          clear hes hp hk1
          go_wp2_with (first
            | (go_at_call 33; (refine (HK1.out).mono ?_); rintro e w3 ⟨v3, rfl, ev3, d3, -⟩; have HD3 := Lib.hid d3; have HE3 := Lib.hid ev3; clear d3 ev3)
            | (go_at_call 32; (refine (raws_any _ _ _ HE3.out HE8.out).mono ?_); rintro e w4 ⟨v4, rfl, r4, b4⟩; have HD4 := Lib.hid (HD3.out.grab b4); have HR4 := Lib.hid r4; clear r4 b4)
            | (go_at_call 34; (refine (HK2.out _ _ HD4.out).mono ?_); rintro e w5 ⟨v5, rfl, r5, d5, s5⟩; have HR5 := Lib.hid r5; have HR6 : Hid (RwO w5 w3.heap.size v4 es) := ownsRow_same HR4.out (fun k hk => s5 k (.inr (World.ownsRow.lt HR4.out k hk))); have HD5 := Lib.hid d5; clear r5 d5 s5)
            | (go_at_call 31; (refine (eqraws_same _ _ _ _ _ _ HR6.out HR5.out HE8.out).mono ?_); rintro e w6 ⟨rfl, b6⟩; have HD6 : Hid (Duo W1 w6 C c q d s2 s2 (fun _ => False)) := (HD5.out.belows b6).less (fun k hk => hk.elim); clear b6))
          go_meet
          exact ⟨0, s2, rfl, rfl, HOK2, HMS2, HD6⟩
      case rest =>
        obtain ⟨a, s2, rfl, rfl, HOK2, HMS2, HDc⟩ := hcut
        have HSA := Lib.hid (same_any W1 wc C c q d s2 _ HF.out HDc.out (i + 1) HOK2.out)
        have hi2 : Hid (i + 1 ≤ 80) := by show _ ≤ _; omega
        have hms : Hid (80 - (i + 1) < 80 - i) := by show _ < _; omega
        go_wp2_with (go_at_call 35; (refine HSA.out.mono ?_); rintro e w9 ⟨rfl, b9⟩; have HD9 := Lib.hid (HDc.out.belows b9); clear b9)
        go_roundw
        case rel => exact ⟨i + 1, s2, by go_num, hi2.out, HOK2, HMS2, HD9⟩
        case measure => simp [intOf]; have := hms.out; omega
    · by_cases g1 : i < Q
      · have z1 : (i : Int) < (Q : Int) := by omega
        have z2 : ¬ (i : Int) < 80 := by omega
        have z3 : decide ((i : Int) < 80) = false := decide_eq_false z2
        clear hgo
        as_aux_lemma =>
          have HDa := HD
          obtain ⟨es, hes⟩ : ∃ es, s.es = es := ⟨_, rfl⟩
          have HE8 : Hid (es.length ≤ 900000) := by have := HOK.out.es; rw [hes] at this; show _ ≤ _; omega
          obtain ⟨s2, hp⟩ : ∃ x, toldP s = x := ⟨_, rfl⟩
          have HOK2 : Hid (Ok C (i + 1) s2) := by have := HOK.out.told.more (Nat.le_succ i); rw [hp] at this; exact this
          have HMS2 : Hid (s2.ms.length ≤ i + 1) := by rw [← hp]; exact Nat.le_succ_of_le HMS.out
          have hk1 := duo_events HDa.out
          rw [hes, hp] at hk1
          have HK1 := Lib.hid hk1
          have HK2 : Hid (∀ (W : World) (O' : Nat → Prop), Duo W1 W C c q d s2 s O' → Calls Tryz.prog 34 #[pB d] W fun e w' => ∃ v, e = .returned v ∧ RwO w' W1.heap.size v es ∧ Duo W1 w' C c q d s2 s2 O' ∧ Same O' W w') := fun W O' hW => by
            have := duo_told hW
            rw [hes, hp] at this
            exact this
          clear hes hp hk1
          go_wp2_with (first
            | (go_at_call 33; (refine (HK1.out).mono ?_); rintro e w3 ⟨v3, rfl, ev3, d3, -⟩; have HD3 := Lib.hid d3; have HE3 := Lib.hid ev3; clear d3 ev3)
            | (go_at_call 32; (refine (raws_any _ _ _ HE3.out HE8.out).mono ?_); rintro e w4 ⟨v4, rfl, r4, b4⟩; have HD4 := Lib.hid (HD3.out.grab b4); have HR4 := Lib.hid r4; clear r4 b4)
            | (go_at_call 34; (refine (HK2.out _ _ HD4.out).mono ?_); rintro e w5 ⟨v5, rfl, r5, d5, s5⟩; have HR5 := Lib.hid r5; have HR6 : Hid (RwO w5 w3.heap.size v4 es) := ownsRow_same HR4.out (fun k hk => s5 k (.inr (World.ownsRow.lt HR4.out k hk))); have HD5 := Lib.hid d5; clear r5 d5 s5)
            | (go_at_call 31; (refine (eqraws_same _ _ _ _ _ _ HR6.out HR5.out HE8.out).mono ?_); rintro e w6 ⟨rfl, b6⟩; have HD6 : Hid (Duo W1 w6 C c q d s2 s2 (fun _ => False)) := (HD5.out.belows b6).less (fun k hk => hk.elim); clear b6))
          go_ret
          exact ⟨rfl, HB1.out.trans (HD6.out.be.mono HB1.out.size)⟩
      · have z1 : ¬ (i : Int) < (Q : Int) := by omega
        have z3 : decide ((i : Int) < (Q : Int)) = false := decide_eq_false z1
        clear hgo
        as_aux_lemma =>
          have HDa := HD
          obtain ⟨es, hes⟩ : ∃ es, s.es = es := ⟨_, rfl⟩
          have HE8 : Hid (es.length ≤ 900000) := by have := HOK.out.es; rw [hes] at this; show _ ≤ _; omega
          obtain ⟨s2, hp⟩ : ∃ x, toldP s = x := ⟨_, rfl⟩
          have HOK2 : Hid (Ok C (i + 1) s2) := by have := HOK.out.told.more (Nat.le_succ i); rw [hp] at this; exact this
          have HMS2 : Hid (s2.ms.length ≤ i + 1) := by rw [← hp]; exact Nat.le_succ_of_le HMS.out
          have hk1 := duo_events HDa.out
          rw [hes, hp] at hk1
          have HK1 := Lib.hid hk1
          have HK2 : Hid (∀ (W : World) (O' : Nat → Prop), Duo W1 W C c q d s2 s O' → Calls Tryz.prog 34 #[pB d] W fun e w' => ∃ v, e = .returned v ∧ RwO w' W1.heap.size v es ∧ Duo W1 w' C c q d s2 s2 O' ∧ Same O' W w') := fun W O' hW => by
            have := duo_told hW
            rw [hes, hp] at this
            exact this
          clear hes hp hk1
          go_wp2_with (first
            | (go_at_call 33; (refine (HK1.out).mono ?_); rintro e w3 ⟨v3, rfl, ev3, d3, -⟩; have HD3 := Lib.hid d3; have HE3 := Lib.hid ev3; clear d3 ev3)
            | (go_at_call 32; (refine (raws_any _ _ _ HE3.out HE8.out).mono ?_); rintro e w4 ⟨v4, rfl, r4, b4⟩; have HD4 := Lib.hid (HD3.out.grab b4); have HR4 := Lib.hid r4; clear r4 b4)
            | (go_at_call 34; (refine (HK2.out _ _ HD4.out).mono ?_); rintro e w5 ⟨v5, rfl, r5, d5, s5⟩; have HR5 := Lib.hid r5; have HR6 : Hid (RwO w5 w3.heap.size v4 es) := ownsRow_same HR4.out (fun k hk => s5 k (.inr (World.ownsRow.lt HR4.out k hk))); have HD5 := Lib.hid d5; clear r5 d5 s5)
            | (go_at_call 31; (refine (eqraws_same _ _ _ _ _ _ HR6.out HR5.out HE8.out).mono ?_); rintro e w6 ⟨rfl, b6⟩; have HD6 : Hid (Duo W1 w6 C c q d s2 s2 (fun _ => False)) := (HD5.out.belows b6).less (fun k hk => hk.elim); clear b6))
          go_ret
          exact ⟨rfl, HB1.out.trans (HD6.out.be.mono HB1.out.size)⟩
open Go.Joins Go.ChangeShapes Go.WideShapes Go.ChangeAt Go.RowKit Go.Deep
theorem array10 {cs : Array Value} (h : cs.size = 10) : ∃ a b c d e f g i j k, cs = #[a, b, c, d, e, f, g, i, j, k] := by
  obtain ⟨l⟩ := cs
  match l, h with
  | [a, b, c, d, e, f, g, i, j, k], _ => exact ⟨a, b, c, d, e, f, g, i, j, k, rfl⟩
section
variable {H : Type} {enc : TypeId × Value → H}
theorem open_conf {W : World} {base : Nat} {v : Value} {d : DataW H} {p : List MemPlace} (hval : Value.okWide Tryz.prog W .any base 23 v) (h : DataW.Trod enc Tryz.prog W 0 (fun _ => true) true 23 v d p) :
    ∃ (n me id dl wi g o br wk ro : Int), v = cfV n me id dl wi g o br wk ro ∧ (in64 n ∧ in64 dl) := by
  obtain ⟨cs, rfl, hsz, hf⟩ := open_struct_val Tryz.underlying23 (by kernel_rfl) (by kernel_rfl) hval h
  obtain ⟨v0, v1, v2, v3, v4, v5, v6, v7, v8, v9, rfl⟩ := array10 hsz
  obtain ⟨u0, y0, n0, e0, t0⟩ := hf 0 _ rfl
  obtain ⟨u1, y1, n1, e1, t1⟩ := hf 1 _ rfl
  obtain ⟨u2, y2, n2, e2, t2⟩ := hf 2 _ rfl
  obtain ⟨u3, y3, n3, e3, t3⟩ := hf 3 _ rfl
  obtain ⟨u4, y4, n4, e4, t4⟩ := hf 4 _ rfl
  obtain ⟨u5, y5, n5, e5, t5⟩ := hf 5 _ rfl
  obtain ⟨u6, y6, n6, e6, t6⟩ := hf 6 _ rfl
  obtain ⟨u7, y7, n7, e7, t7⟩ := hf 7 _ rfl
  obtain ⟨u8, y8, n8, e8, t8⟩ := hf 8 _ rfl
  obtain ⟨u9, y9, n9, e9, t9⟩ := hf 9 _ rfl
  obtain rfl : v0 = u0 := Option.some.inj e0
  obtain rfl : v1 = u1 := Option.some.inj e1
  obtain rfl : v2 = u2 := Option.some.inj e2
  obtain rfl : v3 = u3 := Option.some.inj e3
  obtain rfl : v4 = u4 := Option.some.inj e4
  obtain rfl : v5 = u5 := Option.some.inj e5
  obtain rfl : v6 = u6 := Option.some.inj e6
  obtain rfl : v7 = u7 := Option.some.inj e7
  obtain rfl : v8 = u8 := Option.some.inj e8
  obtain rfl : v9 = u9 := Option.some.inj e9
  have hu := Tryz.underlying3
  have h64 := Tryz.underlying2
  obtain ⟨n, g0, _, w0⟩ := DataW.trod_int hu t0
  obtain ⟨me, g1, _, _⟩ := DataW.trod_int hu t1
  obtain ⟨id, g2, _, _⟩ := DataW.trod_int h64 t2
  obtain ⟨dl, g3, _, w3⟩ := DataW.trod_int hu t3
  obtain ⟨wi, g4, _, _⟩ := DataW.trod_int hu t4
  obtain ⟨g, g5, _, _⟩ := DataW.trod_int hu t5
  obtain ⟨o, g6, _, _⟩ := DataW.trod_int hu t6
  obtain ⟨br, g7, _, _⟩ := DataW.trod_int hu t7
  obtain ⟨wk, g8, _, _⟩ := DataW.trod_int hu t8
  obtain ⟨ro, g9, _, _⟩ := DataW.trod_int hu t9
  simp only [List.cons.injEq, and_true] at g0 g1 g2 g3 g4 g5 g6 g7 g8 g9
  subst g0 g1 g2 g3 g4 g5 g6 g7 g8 g9
  exact ⟨n, me, id, dl, wi, g, o, br, wk, ro, rfl, bounds_i64 w0, bounds_i64 w3⟩
end
theorem cf_of {n me id dl wi g o br wk ro : Int} (h : MayC n me id dl wi g o br wk ro) : ∃ C : Cf, C.may ∧ C.v = cfV n me id dl wi g o br wk ro := by
  have h2 := h
  unfold MayC at h2
  obtain ⟨N, rfl⟩ : ∃ N : Nat, n = N := ⟨n.toNat, by omega⟩
  obtain ⟨M, rfl⟩ : ∃ N : Nat, me = N := ⟨me.toNat, by omega⟩
  obtain ⟨D, rfl⟩ : ∃ N : Nat, dl = N := ⟨dl.toNat, by omega⟩
  obtain ⟨V, rfl⟩ : ∃ N : Nat, wi = N := ⟨wi.toNat, by omega⟩
  exact ⟨⟨N, M, id, D, V, g, o, br, wk, ro⟩, h, rfl⟩
theorem all21_law (n me id dl wi g o br wk ro : Int) (A0 : Option Addr) (qs : List O21) (cap0 : Nat) (w : World) (hT : TabW w) (h0 : RO21 w w.heap.size A0 qs) (k0 : qs.length ≤ cap0) (m0 : cap0 ≤ maxLen) (hq : ∀ o ∈ qs, InO21 w o) :
    Calls Tryz.prog 3 #[cfV n me id dl wi g o br wk ro, .slice A0 qs.length cap0] w fun e w' => e = .returned (.bool true) ∧ Below w.heap.size w w' := by
  by_cases h : MayC n me id dl wi g o br wk ro
  · obtain ⟨C, hm, e⟩ := cf_of h
    rw [← e]
    exact all_yes C hm A0 qs cap0 w hT h0 k0 m0 hq
  · exact all_no n me id dl wi g o br wk ro h A0 qs.length cap0 w hT
end Go.Proofs.YtpnobpligchpiaaGreatDoor
