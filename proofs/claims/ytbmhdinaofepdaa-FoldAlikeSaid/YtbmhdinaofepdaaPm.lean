/- WALK of the law FoldAlike. -/
import Derived.Test.YtbmhdinaofepdaaPl
namespace Go.Proofs.Ytbmhdinaofepdaa
set_option maxRecDepth 100000
open Go.RowKit
set_option linter.unusedVariables false
set_option linter.unusedSimpArgs false

set_option maxHeartbeats 2000000 in
theorem alike_law (t : ByteArray) (A : Option Addr) (os : List O4) (cap : Nat) (PA : Option Addr) (ps : List (List UInt8)) (pc : Nat) (PAq : Option Addr) (psq : List (List UInt8)) (pcq : Nat) (w : World)
    (hr : RO w w.heap.size A os) (hc : os.length ≤ cap) (hm : cap ≤ maxLen) (hrp : RP w w.heap.size PA ps) (hcp : ps.length ≤ pc) (hmp : pc ≤ maxLen) (hrpq : RP w w.heap.size PAq psq) (hcpq : psq.length ≤ pcq) (hmpq : pcq ≤ maxLen) :
    Calls Try.prog 6 #[progV t A os.length cap, .slice PA ps.length pc, .slice PAq psq.length pcq] w fun e w' => e = .returned (.bool true) ∧ Below w.heap.size w w' := by
  have HBg := Lib.hid begun20_any
  have HCu : Hid (∀ W, Calls Try.prog 8 #[.agg #[.string t, .slice A os.length cap], .int .i64 40] W fun e w' => ∃ u os', Hid (u = cutT t) ∧ Hid (os' = os.take 40) ∧ e = .returned (.agg #[.string u, .slice A os'.length cap]) ∧ Below W.heap.size W w') := fun W => lcut_named t A os cap 40 40 rfl W (by omega) (by omega) hc hm
  obtain ⟨Mp, hMp⟩ : ∃ M, ps.length = M := ⟨_, rfl⟩
  obtain ⟨qs, hqs⟩ : ∃ q, cutP 8 ps = q := ⟨_, rfl⟩
  obtain ⟨N, hN⟩ : ∃ N, qs.length = N := ⟨_, rfl⟩
  have HPr : Hid (∀ W, w.heap.size ≤ W.heap.size → RP W w.heap.size PA ps → Calls Try.prog 9 #[.slice PA Mp pc, .int .i64 8] W fun e w' => ∃ A' c', e = .returned (.slice A' N c') ∧ RQ w' w.heap.size W.heap.size w'.heap.size A' qs ∧ N ≤ c' ∧ c' ≤ maxLen ∧ Below W.heap.size W w') := fun W hW h => by
    have := presses_any PA ps pc 8 Mp W hMp w.heap.size hW h (by omega) hmp (by omega) N (by rw [hqs]; exact hN) 8 rfl
    rw [hqs] at this; exact this
  have hN12 : N ≤ 8 := by rw [← hN, ← hqs, cutP_len]; omega
  have HRP := Lib.hid hrp
  have HN := Lib.hid hN; have HMP := Lib.hid hMp
  obtain ⟨Mpq, hMpq⟩ : ∃ M, psq.length = M := ⟨_, rfl⟩
  obtain ⟨qsq, hqsq⟩ : ∃ q, cutP 8 psq = q := ⟨_, rfl⟩
  obtain ⟨Nq, hNq⟩ : ∃ N, qsq.length = N := ⟨_, rfl⟩
  have HPrq : Hid (∀ W, w.heap.size ≤ W.heap.size → RP W w.heap.size PAq psq → Calls Try.prog 9 #[.slice PAq Mpq pcq, .int .i64 8] W fun e w' => ∃ A' c', e = .returned (.slice A' Nq c') ∧ RQ w' w.heap.size W.heap.size w'.heap.size A' qsq ∧ Nq ≤ c' ∧ c' ≤ maxLen ∧ Below W.heap.size W w') := fun W hW h => by
    have := presses_any PAq psq pcq 8 Mpq W hMpq w.heap.size hW h (by omega) hmpq (by omega) Nq (by rw [hqsq]; exact hNq) 8 rfl
    rw [hqsq] at this; exact this
  have hN12q : Nq ≤ 8 := by rw [← hNq, ← hqsq, cutP_len]; omega
  have HRPq := Lib.hid hrpq
  have HNq := Lib.hid hNq; have HMPq := Lib.hid hMpq
  rw [hMp, hMpq]
  have HR := Lib.hid hr
  have b0 : Below w.heap.size w (w.alloc (.cells #[.string t, .slice A os.length cap] 24)) := (Below.refl _ _).alloc (Nat.le_refl _) _
  have e0 : (w.alloc (.cells #[.string t, .slice A os.length cap] 24)).cell? ⟨w.heap.size, 0, none⟩ = some (.string t) := by simp [go_sem]
  have e1 : (w.alloc (.cells #[.string t, .slice A os.length cap] 24)).cell? ⟨w.heap.size, 1, none⟩ = some (.slice A os.length cap) := by simp [go_sem]
  have ef0 : (w.alloc (.cells #[.string t, .slice A os.length cap] 24)).frozen? ⟨w.heap.size, 0, none⟩ = false := by simp [go_sem]
  have ef1 : (w.alloc (.cells #[.string t, .slice A os.length cap] 24)).frozen? ⟨w.heap.size, 1, none⟩ = false := by simp [go_sem]
  have hlt0 : w.heap.size < (w.alloc (.cells #[.string t, .slice A os.length cap] 24)).heap.size := by simp
  have E0 := Lib.hid e0; have E1 := Lib.hid e1; have EF0 := Lib.hid ef0; have EF1 := Lib.hid ef1; have B0 := Lib.hid b0; have LT0 := Lib.hid hlt0
  have hol0 : Hid (os.length ≤ cap) := hc
  clear hr hc hrp hqs hN hMp hcp hrpq hqsq hNq hMpq hcpq e0 e1 ef0 ef1 b0 hlt0
  unfold progV
  go_enter Try.func6, Try.ntmps6
  go_upto_region 5 with (first
    | (go_at_call 7; with_reducible refine (HBg.out _).mono ?_; rintro e w1 ⟨rfl, b1⟩; have BA := Lib.hid (B0.out.trans (b1.mono (Nat.le_of_lt LT0.out))); have LT1 := Lib.hid (Nat.lt_of_lt_of_le LT0.out b1.size); have x0 := (b1.cell (p := ⟨w.heap.size, 0, none⟩) LT0.out).trans E0.out; have x1 := (b1.cell (p := ⟨w.heap.size, 1, none⟩) LT0.out).trans E1.out; have XF0 := Lib.hid ((b1.frozen (p := ⟨w.heap.size, 0, none⟩) LT0.out).trans EF0.out); have XF1 := Lib.hid ((b1.frozen (p := ⟨w.heap.size, 1, none⟩) LT0.out).trans EF1.out); clear b1)
    | (go_at_call 8; with_reducible refine (HCu.out _).mono ?_; rintro e w2 ⟨u, os1, hu, hos, rfl, b2⟩; replace BA := Lib.hid (BA.out.trans (b2.mono (Nat.le_of_lt LT1.out))); replace x0 := (b2.cell (p := ⟨w.heap.size, 0, none⟩) LT1.out).trans x0; replace x1 := (b2.cell (p := ⟨w.heap.size, 1, none⟩) LT1.out).trans x1; replace XF0 := Lib.hid ((b2.frozen (p := ⟨w.heap.size, 0, none⟩) LT1.out).trans XF0.out); replace XF1 := Lib.hid ((b2.frozen (p := ⟨w.heap.size, 1, none⟩) LT1.out).trans XF1.out); replace LT1 := Lib.hid (Nat.lt_of_lt_of_le LT1.out b2.size); clear b2)
    | (go_at_call 9; with_reducible refine (HPr.out _ BA.out.size (HRP.out.below BA.out)).mono ?_; rintro e w3 ⟨PX, px, rfl, hx, hpx, hpm, b3⟩; have LO := LT1; replace BA := Lib.hid (BA.out.trans (b3.mono (Nat.le_of_lt LT1.out))); replace x0 := (b3.cell (p := ⟨w.heap.size, 0, none⟩) LT1.out).trans x0; replace x1 := (b3.cell (p := ⟨w.heap.size, 1, none⟩) LT1.out).trans x1; replace XF0 := Lib.hid ((b3.frozen (p := ⟨w.heap.size, 0, none⟩) LT1.out).trans XF0.out); replace XF1 := Lib.hid ((b3.frozen (p := ⟨w.heap.size, 1, none⟩) LT1.out).trans XF1.out); replace LT1 := Lib.hid (Nat.lt_of_lt_of_le LT1.out b3.size); have HX := Lib.hid hx; clear b3 hx)
    | (go_at_call 9; with_reducible refine (HPrq.out _ BA.out.size (HRPq.out.below BA.out)).mono ?_; rintro e w3q ⟨PXq, pxq, rfl, hx, hpxq, hpmq, b3⟩; have LOq := LT1; replace HX := Lib.hid (HX.out.below b3 (Nat.le_refl _) (Nat.le_of_lt LT1.out) |>.up b3.size); replace BA := Lib.hid (BA.out.trans (b3.mono (Nat.le_of_lt LT1.out))); replace x0 := (b3.cell (p := ⟨w.heap.size, 0, none⟩) LT1.out).trans x0; replace x1 := (b3.cell (p := ⟨w.heap.size, 1, none⟩) LT1.out).trans x1; replace XF0 := Lib.hid ((b3.frozen (p := ⟨w.heap.size, 0, none⟩) LT1.out).trans XF0.out); replace XF1 := Lib.hid ((b3.frozen (p := ⟨w.heap.size, 1, none⟩) LT1.out).trans XF1.out); replace LT1 := Lib.hid (Nat.lt_of_lt_of_le LT1.out b3.size); have HXq := Lib.hid hx; clear b3 hx; have xf0 := XF0.out; have xf1 := XF1.out))
  obtain ⟨z0, z1, bst, hst⟩ := stored2 (w := w3q) (u := .string u) (v := .slice A os1.length cap) x0 x1 w.heap.size (Nat.le_refl _)
  obtain ⟨W3, hW3⟩ : ∃ W3, W3 = (w3q.setCell ⟨w.heap.size, 0, none⟩ (.string u)).setCell ⟨w.heap.size, 1, none⟩ (.slice A os1.length cap) := ⟨_, rfl⟩
  rw [← hW3] at z0 z1 bst hst
  rw [← hW3]
  have hb3 : Below w.heap.size w W3 := BA.out.trans bst
  have hs3 : w.heap.size < W3.heap.size := by have := LT1.out; omega
  have HUT : Hid (u.size ≤ 1000000) := by show _ ≤ _; rw [hu.out]; exact Nat.le_trans (cutT_size _) (by omega)
  have HUT2 : Hid (u.size ≤ 549755813888) := Nat.le_trans HUT.out (by omega)
  obtain ⟨n, hn⟩ : ∃ n, os1.length = n := ⟨_, rfl⟩
  have HNL := Lib.hid hn
  have HOL : Hid (n ≤ cap) := by show _ ≤ _; rw [← hn, hos.out, List.length_take]; have := hol0.out; omega
  rw [hn] at z1 hW3 ⊢
  have HRO : Hid (RO W3 w.heap.size A os1) := by rw [hos.out]; exact (HR.out.below hb3).take 40
  have HRQ : Hid (RP W3 W3.heap.size PX qs) := by
    have h1 := ((HX.out.set ⟨w.heap.size, 0, none⟩ (.string u) (Nat.le_refl _) LO.out).set ⟨w.heap.size, 1, none⟩ (.slice A n cap) (Nat.le_refl _) LO.out)
    rw [← hW3] at h1
    exact (h1.rp (by have := LT1.out; omega)).more (by omega)
  have HRQq : Hid (RP W3 W3.heap.size PXq qsq) := by
    have h1 := ((HXq.out.set ⟨w.heap.size, 0, none⟩ (.string u) (Nat.le_refl _) LOq.out).set ⟨w.heap.size, 1, none⟩ (.slice A n cap) (Nat.le_refl _) LOq.out)
    rw [← hW3] at h1
    exact (h1.rp (by have := LT1.out; omega)).more (by omega)
  have HK : Hid (∀ W, Below W3.heap.size W3 W → W.cell? ⟨w.heap.size, 0, none⟩ = some (.string u) ∧ W.cell? ⟨w.heap.size, 1, none⟩ = some (.slice A n cap)) := fun W hb => ⟨(hb.cell (p := ⟨w.heap.size, 0, none⟩) hs3).trans z0, (hb.cell (p := ⟨w.heap.size, 1, none⟩) hs3).trans z1⟩
  have HB3 := Lib.hid hb3; have HM := Lib.hid hm; have HS3 := Lib.hid hs3
  clear hW3 bst hst hb3 hn x0 x1 xf0 xf1 HX HXq XF0 XF1 BA LT1 B0 LT0 E0 E1 EF0 EF1 HBg HCu HPr HPrq HR hm
  have hn64 : n ≤ 40 := by have h := HNL.out; rw [hos.out, List.length_take] at h; omega
  have z1' := z1
  have HZ1 := Lib.hid z1
  clear HRP HRPq HMP HMPq z0 hs3
  go_wp2_with fail
  go_loop [8] (fun v8 => ∃ i : Nat, v8 = .int .i64 (i : Int) ∧ i ≤ n ∧ Hid (∀ j o, j < i → os1[j]? = some o → o.k ≠ 11)) (fun v8 => n - (intOf v8).toNat)
  case atStart => exact ⟨0, rfl, by omega, fun j o hj => by omega⟩
  case round =>
    obtain ⟨i, rfl, hin, HNO⟩ := hrel
    by_cases hlt : i < n
    · have hiz : (i : Int) < (n : Int) := by omega
      have hl1 : i < os1.length := by rw [HNL.out]; exact hlt
      obtain ⟨b, off, rfl, hb, hcell⟩ := HRO.out (by omega)
      obtain ⟨q0, -, -, -⟩ := hcell i hl1
      obtain ⟨o, ho⟩ : ∃ o, os1[i] = o := ⟨_, rfl⟩
      rw [ho] at q0
      obtain ⟨ck, hck⟩ : ∃ ck, o.k = ck := ⟨_, rfl⟩
      rw [hck] at q0
      have HO : Hid (os1[i]? = some o) := by show _ = _; rw [List.getElem?_eq_getElem hl1, ho]
      have HCK := Lib.hid hck
      clear hcell ho hck hb hl1
      by_cases hk : ck = 11
      · subst hk
        go_wp2_with fail
        go_ret
        exact ⟨rfl, HB3.out⟩
      · have hkb : (ck == 11) = false := by simpa using hk
        have hno2 : Hid (∀ j o, j < i + 1 → os1[j]? = some o → o.k ≠ 11) := fun j o' hj ho' => by
          rcases Nat.lt_or_ge j i with h | h
          · exact HNO.out j o' h ho'
          · obtain rfl : j = i := by omega
            obtain rfl : o = o' := Option.some.inj (HO.out.symm.trans ho')
            rw [HCK.out]; exact hk
        have hms : Hid (n - (i + 1) < n - i) := by show _ < _; omega
        go_wp2_with fail
        go_roundw
        case rel => exact ⟨i + 1, by go_num, by omega, hno2⟩
        case measure => simp [intOf]; have := hms.out; omega
    · have hiz : ¬ (i : Int) < (n : Int) := by omega
      have HNI : Hid (noIn os1) := fun o ho => by
        obtain ⟨j, hj⟩ := List.mem_iff_getElem?.1 ho
        exact HNO.out j o (by have := (List.getElem?_eq_some_iff.1 hj).1; have := HNL.out; omega) hj
      obtain ⟨E, hE⟩ : ∃ E, min N Nq = E := ⟨_, rfl⟩
      have hE1 : E ≤ N := by omega
      have hE2 : E ≤ Nq := by omega
      obtain ⟨G, hG⟩ : ∃ G, fdN u os1 0 (qs.take E) (zG 32) E = G := ⟨_, rfl⟩
      have hG2 : fdN u os1 0 (qsq.take E) (zG 32) E = G := by rw [← hG]; exact fdN_alike u os1 0 _ _ _ HNI.out E
      have hgm : gam G := by rw [← hG]; exact fdN_gam gam.zero _
      have htl : (qs.take E).length = E := by rw [List.length_take, HN.out]; omega
      have htl2 : (qsq.take E).length = E := by rw [List.length_take, HNq.out]; omega
      have hpm' := hpm
      have hpmq' := hpmq
      unfold maxLen at hpm' hpmq'
      have HA1 : Hid (∀ wx, Below W3.heap.size W3 wx → Calls Try.prog 14 #[.agg #[.string u, .slice A n cap], .slice PX E px] wx fun e w' => e = .returned (.agg (gC G)) ∧ Below wx.heap.size wx w') := fun wx hb =>
        all_any wx u os1 n HNL.out A cap w.heap.size (HRO.out.below (hb.mono (Nat.le_of_lt HS3.out))) (Nat.le_trans (Nat.le_of_lt HS3.out) hb.size) HOL.out HM.out HUT2.out PX (qs.take E) E px htl ((HRQ.out.take E).then_ (Nat.le_refl _) hb) (by omega) G hG
      have HA2 : Hid (∀ wx, Below W3.heap.size W3 wx → Calls Try.prog 14 #[.agg #[.string u, .slice A n cap], .slice PXq E pxq] wx fun e w' => e = .returned (.agg (gC G)) ∧ Below wx.heap.size wx w') := fun wx hb =>
        all_any wx u os1 n HNL.out A cap w.heap.size (HRO.out.below (hb.mono (Nat.le_of_lt HS3.out))) (Nat.le_trans (Nat.le_of_lt HS3.out) hb.size) HOL.out HM.out HUT2.out PXq (qsq.take E) E pxq htl2 ((HRQq.out.take E).then_ (Nat.le_refl _) hb) (by omega) G hG2
      have hE3 : (E : Int) ≤ (px : Int) := by omega
      have hE4 : (E : Int) ≤ (pxq : Int) := by omega
      have HEE := Lib.hid hE
      have HL := Lib.hid hgm.1
      clear hG hG2 hgm htl htl2 hE hE1 hE2
      go_upto_region 10 with fail
      go_cut [9] from 33 to 37 (fun s9 wx => s9 = .int .i64 (E : Int) ∧ wx = W3)
      case first =>
        by_cases hNN : N ≤ Nq
        · have hNz : (N : Int) ≤ (Nq : Int) := by omega
          obtain rfl : E = N := by have := HEE.out; omega
          go_wp2
          all_goals (go_meet; exact ⟨by first | rfl | go_num, rfl⟩)
        · have hNz : ¬ (N : Int) ≤ (Nq : Int) := by omega
          obtain rfl : E = Nq := by have := HEE.out; omega
          go_wp2
          all_goals (go_meet; exact ⟨by first | rfl | go_num, rfl⟩)
      case rest =>
        obtain ⟨rfl, hw⟩ := hcut
        subst wc
        have hB0 : Hid (Below W3.heap.size W3 W3.drew) := (Below.refl _ _).drew
        have heq := eq_game G HL.out
        have hgd := guardGame20
        clear z1' z1
        go_wp2_with fail
        refine wp_region_held_drew (S := (fun w' => w'.cell? ⟨w.heap.size, 0, none⟩ = some (.string u) ∧ w'.cell? ⟨w.heap.size, 1, none⟩ = some (.slice A n cap))) (by kernel_rfl) (HK.out _ hB0.out) (fun hHeld => ?_)
        refine held_take (i := 0) (v := ?_) rfl (by kernel_rfl) (by kernel_rfl) (by kernel_rfl) (fun _ _ _ h => h) (by rfl) hHeld ?_ ?_
        rotate_left 1
        · (intro w hSw; (try dsimp only at hSw); go_simp; try (with_reducible rfl))
        try simp only [Act.put, List.setIfInBounds_toArray, List.set_cons_zero, List.set_cons_succ]
        refine held_take (i := 1) (v := ?_) rfl (by kernel_rfl) (by kernel_rfl) (by kernel_rfl) (fun _ _ _ h => h) (by rfl) hHeld ?_ ?_
        rotate_left 1
        · (intro w hSw; (try dsimp only at hSw); go_simp; try (with_reducible rfl))
        try simp only [Act.put, List.setIfInBounds_toArray, List.set_cons_zero, List.set_cons_succ]
        refine held_take (i := 2) (v := ?_) rfl (by kernel_rfl) (by kernel_rfl) (by kernel_rfl) (fun _ _ _ h => h) (by rfl) hHeld ?_ ?_
        rotate_left 1
        · (intro w hSw; (try dsimp only at hSw); go_simp; try (with_reducible rfl))
        try simp only [Act.put, List.setIfInBounds_toArray, List.set_cons_zero, List.set_cons_succ]
        refine held_take (i := 3) (v := ?_) rfl (by kernel_rfl) (by kernel_rfl) (by kernel_rfl) (fun _ _ _ h => h) (by rfl) hHeld ?_ ?_
        rotate_left 1
        · (intro w hSw; (try dsimp only at hSw); go_simp; try (with_reducible rfl))
        try simp only [Act.put, List.setIfInBounds_toArray, List.set_cons_zero, List.set_cons_succ]
        refine held_take (i := 5) (v := ?_) rfl (by kernel_rfl) (by kernel_rfl) (by kernel_rfl) (fun _ _ _ h => h) (by rfl) hHeld ?_ ?_
        rotate_left 1
        · (intro w hSw; (try dsimp only at hSw); go_simp; try (with_reducible rfl))
        try simp only [Act.put, List.setIfInBounds_toArray, List.set_cons_zero, List.set_cons_succ]
        refine held_take (i := 6) (v := ?_) rfl (by kernel_rfl) (by kernel_rfl) (by kernel_rfl) (fun _ _ _ h => h) (by rfl) hHeld ?_ ?_
        rotate_left 1
        · (intro w hSw; (try dsimp only at hSw); go_simp; try (with_reducible rfl))
        try simp only [Act.put, List.setIfInBounds_toArray, List.set_cons_zero, List.set_cons_succ]
        refine held_take (i := 7) (v := ?_) rfl (by kernel_rfl) (by kernel_rfl) (by kernel_rfl) (fun _ _ _ h => h) (by rfl) hHeld ?_ ?_
        rotate_left 1
        · (intro w hSw; (try dsimp only at hSw); go_simp; try (with_reducible rfl))
        try simp only [Act.put, List.setIfInBounds_toArray, List.set_cons_zero, List.set_cons_succ]
        refine held_take (i := 8) (v := ?_) rfl (by kernel_rfl) (by kernel_rfl) (by kernel_rfl) (fun _ _ _ h => h) (by rfl) hHeld ?_ ?_
        rotate_left 1
        · (intro w hSw; (try dsimp only at hSw); go_simp; try (with_reducible rfl))
        try simp only [Act.put, List.setIfInBounds_toArray, List.set_cons_zero, List.set_cons_succ]
        refine held_one (i := 4) rfl (by kernel_rfl) (by rfl) (fun K hK => ?_)
        go_simp
        with_reducible refine (HA1.out _ hB0.out).mono ?_
        rintro e w3 ⟨rfl, hb3⟩
        have hb4 := Lib.hid (hB0.out.trans (hb3.mono hB0.out.size)); clear hb3
        refine hK.out _ _ (HK.out _ hb4.out) (fun hHeld2 => ?_)
        clear hK K hHeld; have hHeld := hHeld2; clear hHeld2
        try simp only [Act.put, List.setIfInBounds_toArray, List.set_cons_zero, List.set_cons_succ]
        refine held_one (i := 9) rfl (by kernel_rfl) (by rfl) (fun K hK => ?_)
        go_simp
        with_reducible refine (HA2.out _ hb4.out).mono ?_
        rintro e w4 ⟨rfl, hb3⟩
        have hb5 := Lib.hid (hb4.out.trans (hb3.mono hb4.out.size)); clear hb3
        refine hK.out _ _ (HK.out _ hb5.out) (fun hHeld2 => ?_)
        clear hK K hHeld; have hHeld := hHeld2; clear hHeld2
        try simp only [Act.put, List.setIfInBounds_toArray, List.set_cons_zero, List.set_cons_succ]
        refine held_take (i := 10) (v := ?_) rfl (by kernel_rfl) (by kernel_rfl) (by kernel_rfl) (fun _ _ _ h => h) (by rfl) hHeld ?_ ?_
        rotate_left 1
        · (intro w hSw; (try dsimp only at hSw); go_simp; try (with_reducible rfl))
        try simp only [Act.put, List.setIfInBounds_toArray, List.set_cons_zero, List.set_cons_succ]
        refine held_take (i := 11) (v := ?_) rfl (by kernel_rfl) (by kernel_rfl) (by kernel_rfl) (fun _ _ _ h => h) (by rfl) hHeld ?_ ?_
        rotate_left 1
        · (intro w hSw; (try dsimp only at hSw); go_simp; try (with_reducible rfl))
        try simp only [Act.put, List.setIfInBounds_toArray, List.set_cons_zero, List.set_cons_succ]
        refine wpAnyH_done (by kernel_rfl) ?_ _
        go_wp2
        go_ret
        exact ⟨rfl, HB3.out.trans (hb5.out.mono HB3.out.size)⟩
end Go.Proofs.Ytbmhdinaofepdaa
