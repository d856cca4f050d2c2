/- WALK of the law FoldParts. -/
import Derived.Test.YtbmhdinaofepdaaPg
import Derived.Test.YtbmhdinaofepdaaPk
import Derived.Test.YtbmhdinaofepdaaKo
namespace Go.Proofs.Ytbmhdinaofepdaa
set_option maxRecDepth 100000
open Go.RowKit
set_option linter.unusedVariables false
set_option linter.unusedSimpArgs false

theorem guardGame20 : Try.prog.eqGuardType Try.prog.depth 33 = false := by kernel_rfl
/-- a game is itself -/
theorem eq_game (G : List Int) (hG : G.length = 32) (w : World) : (Op.equalIn 10000 33 (.agg (gC G)) (.agg (gC G))).run Try.prog w = .ok true w := by
  rw [equalIn_g (P := Try.prog) 33 Try.underlying33 Try.underlying21 infoC32 G G hG hG w, decide_eq_true rfl]
set_option maxHeartbeats 2000000 in
theorem parts_law (t : ByteArray) (A : Option Addr) (os : List O4) (cap : Nat) (PA : Option Addr) (ps : List (List UInt8)) (pc : Nat) (at0 : Int) (w : World)
    (hr : RO w w.heap.size A os) (hc : os.length ≤ cap) (hm : cap ≤ maxLen) (hrp : RP w w.heap.size PA ps) (hcp : ps.length ≤ pc) (hmp : pc ≤ maxLen) (n0 : -9223372036854775808 ≤ at0) (n1 : at0 ≤ 9223372036854775807) :
    Calls Try.prog 4 #[progV t A os.length cap, .slice PA ps.length pc, .int .i64 at0] w fun e w' => e = .returned (.bool true) ∧ Below w.heap.size w w' := by
  have hz := zeroState
  have HBg := Lib.hid begun20_any
  have HCu : Hid (∀ W, Calls Try.prog 8 #[.agg #[.string t, .slice A os.length cap], .int .i64 64] W fun e w' => ∃ u os', Hid (u = cutT t) ∧ Hid (os' = os.take 64) ∧ e = .returned (.agg #[.string u, .slice A os'.length cap]) ∧ Below W.heap.size W w') := fun W => lcut_named t A os cap 64 64 rfl W (by omega) (by omega) hc hm
  obtain ⟨Mp, hMp⟩ : ∃ M, ps.length = M := ⟨_, rfl⟩
  obtain ⟨qs, hqs⟩ : ∃ q, cutP 12 ps = q := ⟨_, rfl⟩
  obtain ⟨N, hN⟩ : ∃ N, qs.length = N := ⟨_, rfl⟩
  have HPr : Hid (∀ W, w.heap.size ≤ W.heap.size → RP W w.heap.size PA ps → Calls Try.prog 9 #[.slice PA Mp pc, .int .i64 12] W fun e w' => ∃ A' c', e = .returned (.slice A' N c') ∧ RQ w' w.heap.size W.heap.size w'.heap.size A' qs ∧ N ≤ c' ∧ c' ≤ maxLen ∧ Below W.heap.size W w') := fun W hW h => by
    have := presses_any PA ps pc 12 Mp W hMp w.heap.size hW h (by omega) hmp (by omega) N (by rw [hqs]; exact hN) 12 rfl
    rw [hqs] at this; exact this
  have hN12 : N ≤ 12 := by rw [← hN, ← hqs, cutP_len]; omega
  have HRP := Lib.hid hrp
  have HN := Lib.hid hN; have HMP := Lib.hid hMp
  rw [hMp]
  have HR := Lib.hid hr
  have b0 : Below w.heap.size w (w.alloc (.cells #[.string t, .slice A os.length cap] 24)) := (Below.refl _ _).alloc (Nat.le_refl _) _
  have e0 : (w.alloc (.cells #[.string t, .slice A os.length cap] 24)).cell? ⟨w.heap.size, 0, none⟩ = some (.string t) := by simp [go_sem]
  have e1 : (w.alloc (.cells #[.string t, .slice A os.length cap] 24)).cell? ⟨w.heap.size, 1, none⟩ = some (.slice A os.length cap) := by simp [go_sem]
  have ef0 : (w.alloc (.cells #[.string t, .slice A os.length cap] 24)).frozen? ⟨w.heap.size, 0, none⟩ = false := by simp [go_sem]
  have ef1 : (w.alloc (.cells #[.string t, .slice A os.length cap] 24)).frozen? ⟨w.heap.size, 1, none⟩ = false := by simp [go_sem]
  have hlt0 : w.heap.size < (w.alloc (.cells #[.string t, .slice A os.length cap] 24)).heap.size := by simp
  have E0 := Lib.hid e0; have E1 := Lib.hid e1; have EF0 := Lib.hid ef0; have EF1 := Lib.hid ef1; have B0 := Lib.hid b0; have LT0 := Lib.hid hlt0
  have hol0 : Hid (os.length ≤ cap) := hc
  clear hr hc hrp hqs hN hMp hcp e0 e1 ef0 ef1 b0 hlt0
  unfold progV
  go_enter Try.func4, Try.ntmps4
  go_upto_region 5 with (first
    | (go_at_call 7; with_reducible refine (HBg.out _).mono ?_; rintro e w1 ⟨rfl, b1⟩; have BA := Lib.hid (B0.out.trans (b1.mono (Nat.le_of_lt LT0.out))); have LT1 := Lib.hid (Nat.lt_of_lt_of_le LT0.out b1.size); have x0 := (b1.cell (p := ⟨w.heap.size, 0, none⟩) LT0.out).trans E0.out; have x1 := (b1.cell (p := ⟨w.heap.size, 1, none⟩) LT0.out).trans E1.out; have XF0 := Lib.hid ((b1.frozen (p := ⟨w.heap.size, 0, none⟩) LT0.out).trans EF0.out); have XF1 := Lib.hid ((b1.frozen (p := ⟨w.heap.size, 1, none⟩) LT0.out).trans EF1.out); clear b1)
    | (go_at_call 8; with_reducible refine (HCu.out _).mono ?_; rintro e w2 ⟨u, os1, hu, hos, rfl, b2⟩; replace BA := Lib.hid (BA.out.trans (b2.mono (Nat.le_of_lt LT1.out))); replace x0 := (b2.cell (p := ⟨w.heap.size, 0, none⟩) LT1.out).trans x0; replace x1 := (b2.cell (p := ⟨w.heap.size, 1, none⟩) LT1.out).trans x1; replace XF0 := Lib.hid ((b2.frozen (p := ⟨w.heap.size, 0, none⟩) LT1.out).trans XF0.out); replace XF1 := Lib.hid ((b2.frozen (p := ⟨w.heap.size, 1, none⟩) LT1.out).trans XF1.out); replace LT1 := Lib.hid (Nat.lt_of_lt_of_le LT1.out b2.size); clear b2)
    | (go_at_call 9; with_reducible refine (HPr.out _ BA.out.size (HRP.out.below BA.out)).mono ?_; rintro e w3 ⟨PX, px, rfl, hx, hpx, hpm, b3⟩; have LO := LT1; replace BA := Lib.hid (BA.out.trans (b3.mono (Nat.le_of_lt LT1.out))); replace x0 := (b3.cell (p := ⟨w.heap.size, 0, none⟩) LT1.out).trans x0; replace x1 := (b3.cell (p := ⟨w.heap.size, 1, none⟩) LT1.out).trans x1; replace XF0 := Lib.hid ((b3.frozen (p := ⟨w.heap.size, 0, none⟩) LT1.out).trans XF0.out); replace XF1 := Lib.hid ((b3.frozen (p := ⟨w.heap.size, 1, none⟩) LT1.out).trans XF1.out); replace LT1 := Lib.hid (Nat.lt_of_lt_of_le LT1.out b3.size); have HX := Lib.hid hx; clear b3 hx; have xf0 := XF0.out; have xf1 := XF1.out))
  obtain ⟨z0, z1, bst, hst⟩ := stored2 (w := w3) (u := .string u) (v := .slice A os1.length cap) x0 x1 w.heap.size (Nat.le_refl _)
  obtain ⟨W3, hW3⟩ : ∃ W3, W3 = (w3.setCell ⟨w.heap.size, 0, none⟩ (.string u)).setCell ⟨w.heap.size, 1, none⟩ (.slice A os1.length cap) := ⟨_, rfl⟩
  rw [← hW3] at z0 z1 bst hst
  rw [← hW3]
  have hb3 : Below w.heap.size w W3 := BA.out.trans bst
  have hs3 : w.heap.size < W3.heap.size := by have := LT1.out; omega
  have HUT : Hid (u.size ≤ 1000000) := by show _ ≤ _; rw [hu.out]; exact Nat.le_trans (cutT_size _) (by omega)
  have HUT2 : Hid (u.size ≤ 549755813888) := Nat.le_trans HUT.out (by omega)
  obtain ⟨n, hn⟩ : ∃ n, os1.length = n := ⟨_, rfl⟩
  have HNL := Lib.hid hn
  have HOL : Hid (n ≤ cap) := by show _ ≤ _; rw [← hn, hos.out, List.length_take]; have := hol0.out; omega
  rw [hn] at z1 hW3 ⊢
  have HRO : Hid (RO W3 w.heap.size A os1) := by rw [hos.out]; exact (HR.out.below hb3).take 64
  have HRQ : Hid (RP W3 W3.heap.size PX qs) := by
    have h1 := ((HX.out.set ⟨w.heap.size, 0, none⟩ (.string u) (Nat.le_refl _) LO.out).set ⟨w.heap.size, 1, none⟩ (.slice A n cap) (Nat.le_refl _) LO.out)
    rw [← hW3] at h1
    exact (h1.rp (by have := LT1.out; omega)).more (by omega)
  have HK : Hid (∀ W, Below W3.heap.size W3 W → W.cell? ⟨w.heap.size, 0, none⟩ = some (.string u) ∧ W.cell? ⟨w.heap.size, 1, none⟩ = some (.slice A n cap)) := fun W hb => ⟨(hb.cell (p := ⟨w.heap.size, 0, none⟩) hs3).trans z0, (hb.cell (p := ⟨w.heap.size, 1, none⟩) hs3).trans z1⟩
  have HB3 := Lib.hid hb3; have HM := Lib.hid hm; have HS3 := Lib.hid hs3
  clear hW3 bst hst hb3 hn x0 x1 xf0 xf1 HX XF0 XF1 BA LT1 B0 LT0 E0 E1 EF0 EF1 HBg HCu HPr HR hm
  by_cases hneg : at0 < 0
  · go_wp2_with fail
    go_ret
    exact ⟨rfl, HB3.out⟩
  by_cases hbig : (N : Int) < at0
  · have hng : ¬ at0 < 0 := hneg
    go_wp2_with fail
    go_ret
    exact ⟨rfl, HB3.out⟩
  obtain ⟨k, rfl⟩ : ∃ k : Nat, at0 = (k : Int) := ⟨at0.toNat, by omega⟩
  have hkN : k ≤ N := by omega
  obtain ⟨D, hD⟩ : ∃ D, N - k = D := ⟨_, rfl⟩
  obtain ⟨G1, hG1⟩ : ∃ G, fdN u os1 0 qs (zG 32) k = G := ⟨_, rfl⟩
  obtain ⟨G2, hG2⟩ : ∃ G, fdN u os1 0 qs (zG 32) N = G := ⟨_, rfl⟩
  have hgm1 : gam G1 := by rw [← hG1]; exact fdN_gam gam.zero _
  have hgm2 : gam G2 := by rw [← hG2]; exact fdN_gam gam.zero _
  have h1 : fdN u os1 0 (qs.take k) (zG 32) k = G1 := by rw [fdN_take u os1 0 qs (zG 32) k k (Nat.le_refl _)]; exact hG1
  have h2 : fdN u os1 (k : Int) (qs.drop k) G1 D = G2 := by
    have := fdN_parts u os1 0 qs (zG 32) k D
    rw [hG1, Int.zero_add, show k + D = N by omega, hG2] at this
    exact this
  have hpm' := hpm
  unfold maxLen at hpm'
  have htl : (qs.take k).length = k := by rw [List.length_take, HN.out]; omega
  have hdl : (qs.drop k).length = D := by rw [List.length_drop, HN.out]; exact hD
  have HF1 : Hid (∀ wx, Below W3.heap.size W3 wx → Calls Try.prog 11 #[.agg #[.string u, .slice A n cap], .agg (gC (zG 32)), .int .i64 0, .slice PX k px] wx fun e w' => e = .returned (.agg (gC G1)) ∧ Below wx.heap.size wx w') := fun wx hb =>
    from_any wx (zG 32) u os1 n HNL.out A cap w.heap.size (HRO.out.below (hb.mono (Nat.le_of_lt HS3.out))) (Nat.le_trans (Nat.le_of_lt HS3.out) hb.size) HOL.out HM.out HUT2.out gam.zero PX (qs.take k) k px htl ((HRQ.out.take k).then_ (Nat.le_refl _) hb) (by omega) 0 (by omega) (by omega) G1 h1
  have HF2 : Hid (∀ wx, Below W3.heap.size W3 wx → Calls Try.prog 11 #[.agg #[.string u, .slice A n cap], .agg (gC G1), .int .i64 (k : Int), .slice (if px = k then PX else PX.map (·.add k)) D (px - k)] wx fun e w' => e = .returned (.agg (gC G2)) ∧ Below wx.heap.size wx w') := fun wx hb =>
    from_any wx G1 u os1 n HNL.out A cap w.heap.size (HRO.out.below (hb.mono (Nat.le_of_lt HS3.out))) (Nat.le_trans (Nat.le_of_lt HS3.out) hb.size) HOL.out HM.out HUT2.out hgm1 _ (qs.drop k) D (px - k) hdl ((HRQ.out.cut k px (by rw [HN.out]; exact hkN) (by rw [HN.out]; exact hpx)).then_ (Nat.le_refl _) hb) (by omega) k (by omega) (by omega) G2 h2
  have HA : Hid (∀ wx, Below W3.heap.size W3 wx → Calls Try.prog 14 #[.agg #[.string u, .slice A n cap], .slice PX N px] wx fun e w' => e = .returned (.agg (gC G2)) ∧ Below wx.heap.size wx w') := fun wx hb =>
    all_any wx u os1 n HNL.out A cap w.heap.size (HRO.out.below (hb.mono (Nat.le_of_lt HS3.out))) (Nat.le_trans (Nat.le_of_lt HS3.out) hb.size) HOL.out HM.out HUT2.out PX qs N px HN.out (HRQ.out.then_ (Nat.le_refl _) hb) (by omega) G2 hG2
  have hZ1 := Lib.hid (gam_len hgm1); have hL1 := Lib.hid hgm1.1
  have hZ2 := Lib.hid (gam_len hgm2); have hL2 := Lib.hid hgm2.1
  have hng : ¬ (k : Int) < 0 := by omega
  have hbg : ¬ (N : Int) < (k : Int) := by omega
  have hpk : k ≤ px := by omega
  have hpkz : (k : Int) ≤ (px : Int) := by omega
  have hkNz : (k : Int) ≤ (N : Int) := by omega
  have HDD := Lib.hid hD
  have hDz : (N : Int) - (k : Int) = (D : Int) := by omega
  clear hG1 hG2 hgm1 hgm2 h1 h2 htl hdl hneg hbig hD z0 z1 hs3 HRP HRO HRQ HMP
  go_upto_region 7 with fail
  go_cut [8] from 25 to 30 (fun s8 wx => ∃ X, s8 = .pointer (some ⟨X, 0, none⟩) ∧ Hid (W3.heap.size ≤ X) ∧ Hid (GA wx X 31 G1) ∧ Hid (Below W3.heap.size W3 wx))
  case first =>
    have hB0_W3 : Hid (Below W3.heap.size W3 W3.drew) := (Below.refl _ _).drew
    refine wp_region_held_drew (S := (fun w' => w'.cell? ⟨w.heap.size, 0, none⟩ = some (.string u) ∧ w'.cell? ⟨w.heap.size, 1, none⟩ = some (.slice A n cap))) (by kernel_rfl) (HK.out _ hB0_W3.out) (fun hHeld => ?_)
    refine held_take (i := 0) (v := ?_) rfl (by kernel_rfl) (by kernel_rfl) (by kernel_rfl) (fun _ _ _ h => h) (by rfl) hHeld ?_ ?_
    rotate_left 1
    · (intro w hSw; (try dsimp only at hSw); go_simp; try (with_reducible rfl))
    try simp only [Act.put, List.setIfInBounds_toArray, List.set_cons_zero, List.set_cons_succ]
    refine held_take (i := 1) (v := ?_) rfl (by kernel_rfl) (by kernel_rfl) (by kernel_rfl) (fun _ _ _ h => h) (by rfl) hHeld ?_ ?_
    rotate_left 1
    · (intro w hSw; (try dsimp only at hSw); go_simp; try (with_reducible rfl))
    try simp only [Act.put, List.setIfInBounds_toArray, List.set_cons_zero, List.set_cons_succ]
    refine held_take (i := 2) (v := ?_) rfl (by kernel_rfl) (by kernel_rfl) (by kernel_rfl) (fun _ _ _ h => h) (by rfl) hHeld ?_ ?_
    rotate_left 1
    · (intro w hSw; (try dsimp only at hSw); go_simp; try (with_reducible rfl))
    try simp only [Act.put, List.setIfInBounds_toArray, List.set_cons_zero, List.set_cons_succ]
    refine held_take (i := 3) (v := ?_) rfl (by kernel_rfl) (by kernel_rfl) (by kernel_rfl) (fun _ _ _ h => h) (by rfl) hHeld ?_ ?_
    rotate_left 1
    · (intro w hSw; (try dsimp only at hSw); go_simp; try (with_reducible rfl))
    try simp only [Act.put, List.setIfInBounds_toArray, List.set_cons_zero, List.set_cons_succ]
    refine held_take (i := 4) (v := ?_) rfl (by kernel_rfl) (by kernel_rfl) (by kernel_rfl) (fun _ _ _ h => h) (by rfl) hHeld ?_ ?_
    rotate_left 1
    · (intro w hSw; (try dsimp only at hSw); go_simp; try (with_reducible rfl))
    try simp only [Act.put, List.setIfInBounds_toArray, List.set_cons_zero, List.set_cons_succ]
    refine held_two (i := 5) (j := 6) rfl rfl (by kernel_rfl) (by rfl) (by rfl) (fun K hK => ?_) (fun K hK => ?_)
    · go_simp
      with_reducible refine (HF1.out _ hB0_W3.out).mono ?_
      rintro e w3 ⟨rfl, hb3⟩
      have hb4 := Lib.hid (hB0_W3.out.trans (hb3.mono hB0_W3.out.size)); clear hb3
      refine hK.out _ _ (HK.out _ hb4.out) (fun hHeld2 => ?_)
      clear hK K hHeld; have hHeld := hHeld2; clear hHeld2
      try simp only [Act.put, List.setIfInBounds_toArray, List.set_cons_zero, List.set_cons_succ]
      refine held_one (i := 6) rfl (by kernel_rfl) (by rfl) (fun K hK => ?_)
      go_simp
      have hB2 : Hid (Below W3.heap.size W3 (w3.alloc (.cells (gC (zG 32)) 31))) := hb4.out.alloc hb4.out.size _
      have GX : Hid (GA (w3.alloc (.cells (gC (zG 32)) 31)) w3.heap.size 31 (zG 32)) := GA.new _ _ _
      have hX : Hid (W3.heap.size ≤ w3.heap.size) := hb4.out.size
      refine hK.out _ _ (HK.out _ hB2.out) (fun hHeld2 => ?_)
      clear hK K hHeld; have hHeld := hHeld2; clear hHeld2
      try simp only [Act.put, List.setIfInBounds_toArray, List.set_cons_zero, List.set_cons_succ]
      refine held_one (i := 7) rfl (by kernel_rfl) (by rfl) (fun K hK => ?_)
      refine wp_store_g 31 (.tmp 8) (.tmp 30) rfl w3.heap.size (by rfl) 31 (zG 32) G1 GX.out (by rfl) hZ1.out (by rw [hL1.out]; exact infoState) ?_; intro w7 G7 S7 R7; have hb7 : Hid (Below W3.heap.size W3 w7) := hB2.out.grown R7 hB2.out.size (fun k e => by have := Option.some.inj e; have := hX.out; omega)
      refine hK.out _ _ (HK.out _ hb7.out) (fun hHeld2 => ?_)
      clear hK K hHeld; have hHeld := hHeld2; clear hHeld2
      try simp only [Act.put, List.setIfInBounds_toArray, List.set_cons_zero, List.set_cons_succ]
      refine wpAnyH_done (by kernel_rfl) ?_ _
      skip
      go_wp2
      go_meet
      exact ⟨_, rfl, hX, Lib.hid G7, hb7⟩
    · go_simp
      have hB2 : Hid (Below W3.heap.size W3 (W3.drew.alloc (.cells (gC (zG 32)) 31))) := hB0_W3.out.alloc hB0_W3.out.size _
      have GX : Hid (GA (W3.drew.alloc (.cells (gC (zG 32)) 31)) W3.drew.heap.size 31 (zG 32)) := GA.new _ _ _
      have hX : Hid (W3.heap.size ≤ W3.drew.heap.size) := hB0_W3.out.size
      refine hK.out _ _ (HK.out _ hB2.out) (fun hHeld2 => ?_)
      clear hK K hHeld; have hHeld := hHeld2; clear hHeld2
      try simp only [Act.put, List.setIfInBounds_toArray, List.set_cons_zero, List.set_cons_succ]
      refine held_one (i := 5) rfl (by kernel_rfl) (by rfl) (fun K hK => ?_)
      go_simp
      have hB2d : Hid (Below W3.heap.size W3 (W3.alloc (.cells (gC (zG 32)) 31)).drew) := hB2.out
      with_reducible refine (HF1.out (W3.alloc (.cells (gC (zG 32)) 31)).drew hB2d.out).mono ?_
      rintro e w3 ⟨rfl, hb3⟩
      have hb3x := Lib.hid hb3
      have hb4 := Lib.hid (hB2.out.trans (hb3.mono hB2.out.size)); clear hb3
      refine hK.out _ _ (HK.out _ hb4.out) (fun hHeld2 => ?_)
      clear hK K hHeld; have hHeld := hHeld2; clear hHeld2
      try simp only [Act.put, List.setIfInBounds_toArray, List.set_cons_zero, List.set_cons_succ]
      refine held_one (i := 7) rfl (by kernel_rfl) (by rfl) (fun K hK => ?_)
      have GY := Lib.hid (GX.out.below hb3x.out (by show W3.heap.size < (W3.alloc _).heap.size; rw [World.size_alloc]; exact Nat.lt_succ_self _))
      refine wp_store_g 31 (.tmp 8) (.tmp 30) rfl W3.drew.heap.size (by rfl) 31 (zG 32) G1 GY.out (by rfl) hZ1.out (by rw [hL1.out]; exact infoState) ?_; intro w7 G7 S7 R7; have hb7 : Hid (Below W3.heap.size W3 w7) := hb4.out.grown R7 hb4.out.size (fun k e => by have := Option.some.inj e; have := hX.out; omega)
      refine hK.out _ _ (HK.out _ hb7.out) (fun hHeld2 => ?_)
      clear hK K hHeld; have hHeld := hHeld2; clear hHeld2
      try simp only [Act.put, List.setIfInBounds_toArray, List.set_cons_zero, List.set_cons_succ]
      refine wpAnyH_done (by kernel_rfl) ?_ _
      skip
      go_wp2
      go_meet
      exact ⟨_, rfl, hX, Lib.hid G7, hb7⟩
  case rest =>
    obtain ⟨X, rfl, hX, GX, hBX⟩ := hcut
    have HK8 : Hid (∀ W, Below wc.heap.size wc W → W.cell? ⟨w.heap.size, 0, none⟩ = some (.string u) ∧ W.cell? ⟨w.heap.size, 1, none⟩ = some (.slice A n cap) ∧ GA W X 31 G1) := fun W hb => by
      have h := HK.out W (hBX.out.trans (hb.mono hBX.out.size))
      exact ⟨h.1, h.2, GX.out.below hb GX.out.lt⟩
    have HF3 : Hid (∀ wx, Below wc.heap.size wc wx → Calls Try.prog 11 #[.agg #[.string u, .slice A n cap], .agg (gC G1), .int .i64 (k : Int), .slice (if px = k then PX else PX.map (·.add k)) (N - k) (px - k)] wx fun e w' => e = .returned (.agg (gC G2)) ∧ Below wx.heap.size wx w') := fun wx hb => by rw [HDD.out]; exact HF2.out wx (hBX.out.trans (hb.mono hBX.out.size))
    obtain ⟨PD, hPD⟩ : ∃ a, (if px = k then PX else PX.map (fun x => x.add k)) = a := ⟨_, rfl⟩
    rw [hPD] at HF3
    clear HF1 HF2
    go_wp2_with fail
    go_cut [9] from 31 to 37 (fun s9 wx => ∃ X, s9 = .pointer (some ⟨X, 0, none⟩) ∧ Hid (wc.heap.size ≤ X) ∧ Hid (GA wx X 31 G2) ∧ Hid (Below wc.heap.size wc wx))
    case first =>
      have hB0_wc : Hid (Below wc.heap.size wc wc.drew) := (Below.refl _ _).drew
      refine wp_region_held_drew (S := (fun w' => w'.cell? ⟨w.heap.size, 0, none⟩ = some (.string u) ∧ w'.cell? ⟨w.heap.size, 1, none⟩ = some (.slice A n cap) ∧ GA w' X 31 G1)) (by kernel_rfl) (HK8.out _ hB0_wc.out) (fun hHeld => ?_)
      refine held_take (i := 0) (v := ?_) rfl (by kernel_rfl) (by kernel_rfl) (by kernel_rfl) (fun _ _ _ h => h) (by rfl) hHeld ?_ ?_
      rotate_left 1
      · (intro w hSw; (try dsimp only at hSw); go_simp; try (with_reducible rfl))
      try simp only [Act.put, List.setIfInBounds_toArray, List.set_cons_zero, List.set_cons_succ]
      refine held_take (i := 1) (v := .agg (gC G1)) rfl (by kernel_rfl) (by kernel_rfl) (by kernel_rfl) (fun _ _ _ h => h) (by rfl) hHeld (exec_load_g _ _ rfl X (by rfl) 31 G1 (fun w h => h.2.2) Try.underlying31 (by rw [hL1.out]; exact infoState)) ?_
      try simp only [Act.put, List.setIfInBounds_toArray, List.set_cons_zero, List.set_cons_succ]
      refine held_take (i := 2) (v := ?_) rfl (by kernel_rfl) (by kernel_rfl) (by kernel_rfl) (fun _ _ _ h => h) (by rfl) hHeld ?_ ?_
      rotate_left 1
      · (intro w hSw; (try dsimp only at hSw); go_simp; try (with_reducible rfl))
      try simp only [Act.put, List.setIfInBounds_toArray, List.set_cons_zero, List.set_cons_succ]
      refine held_take (i := 3) (v := ?_) rfl (by kernel_rfl) (by kernel_rfl) (by kernel_rfl) (fun _ _ _ h => h) (by rfl) hHeld ?_ ?_
      rotate_left 1
      · (intro w hSw; (try dsimp only at hSw); go_simp; try (with_reducible rfl))
      try simp only [Act.put, List.setIfInBounds_toArray, List.set_cons_zero, List.set_cons_succ]
      refine held_take (i := 4) (v := ?_) rfl (by kernel_rfl) (by kernel_rfl) (by kernel_rfl) (fun _ _ _ h => h) (by rfl) hHeld ?_ ?_
      rotate_left 1
      · (intro w hSw; (try dsimp only at hSw); go_simp; try (with_reducible rfl))
      try simp only [Act.put, List.setIfInBounds_toArray, List.set_cons_zero, List.set_cons_succ]
      refine held_take (i := 5) (v := ?_) rfl (by kernel_rfl) (by kernel_rfl) (by kernel_rfl) (fun _ _ _ h => h) (by rfl) hHeld ?_ ?_
      rotate_left 1
      · (intro w hSw; (try dsimp only at hSw); go_simp; try (with_reducible rfl))
      try simp only [Act.put, List.setIfInBounds_toArray, List.set_cons_zero, List.set_cons_succ]
      refine held_two (i := 6) (j := 7) rfl rfl (by kernel_rfl) (by rfl) (by rfl) (fun K hK => ?_) (fun K hK => ?_)
      · go_simp
        with_reducible refine (HF3.out _ hB0_wc.out).mono ?_
        rintro e w3 ⟨rfl, hb3⟩
        have hb4 := Lib.hid (hB0_wc.out.trans (hb3.mono hB0_wc.out.size)); clear hb3
        refine hK.out _ _ (HK8.out _ hb4.out) (fun hHeld2 => ?_)
        clear hK K hHeld; have hHeld := hHeld2; clear hHeld2
        try simp only [Act.put, List.setIfInBounds_toArray, List.set_cons_zero, List.set_cons_succ]
        refine held_one (i := 7) rfl (by kernel_rfl) (by rfl) (fun K hK => ?_)
        go_simp
        have hB2 : Hid (Below wc.heap.size wc (w3.alloc (.cells (gC (zG 32)) 31))) := hb4.out.alloc hb4.out.size _
        have GX : Hid (GA (w3.alloc (.cells (gC (zG 32)) 31)) w3.heap.size 31 (zG 32)) := GA.new _ _ _
        have hX : Hid (wc.heap.size ≤ w3.heap.size) := hb4.out.size
        refine hK.out _ _ (HK8.out _ hB2.out) (fun hHeld2 => ?_)
        clear hK K hHeld; have hHeld := hHeld2; clear hHeld2
        try simp only [Act.put, List.setIfInBounds_toArray, List.set_cons_zero, List.set_cons_succ]
        refine held_one (i := 8) rfl (by kernel_rfl) (by rfl) (fun K hK => ?_)
        refine wp_store_g 31 (.tmp 9) (.tmp 37) rfl w3.heap.size (by rfl) 31 (zG 32) G2 GX.out (by rfl) hZ2.out (by rw [hL2.out]; exact infoState) ?_; intro w7 G7 S7 R7; have hb7 : Hid (Below wc.heap.size wc w7) := hB2.out.grown R7 hB2.out.size (fun k e => by have := Option.some.inj e; have := hX.out; omega)
        refine hK.out _ _ (HK8.out _ hb7.out) (fun hHeld2 => ?_)
        clear hK K hHeld; have hHeld := hHeld2; clear hHeld2
        try simp only [Act.put, List.setIfInBounds_toArray, List.set_cons_zero, List.set_cons_succ]
        refine wpAnyH_done (by kernel_rfl) ?_ _
        skip
        go_wp2
        go_meet
        exact ⟨_, rfl, hX, Lib.hid G7, hb7⟩
      · go_simp
        have hB2 : Hid (Below wc.heap.size wc (wc.drew.alloc (.cells (gC (zG 32)) 31))) := hB0_wc.out.alloc hB0_wc.out.size _
        have GX : Hid (GA (wc.drew.alloc (.cells (gC (zG 32)) 31)) wc.drew.heap.size 31 (zG 32)) := GA.new _ _ _
        have hX : Hid (wc.heap.size ≤ wc.drew.heap.size) := hB0_wc.out.size
        refine hK.out _ _ (HK8.out _ hB2.out) (fun hHeld2 => ?_)
        clear hK K hHeld; have hHeld := hHeld2; clear hHeld2
        try simp only [Act.put, List.setIfInBounds_toArray, List.set_cons_zero, List.set_cons_succ]
        refine held_one (i := 6) rfl (by kernel_rfl) (by rfl) (fun K hK => ?_)
        go_simp
        have hB2d : Hid (Below wc.heap.size wc (wc.alloc (.cells (gC (zG 32)) 31)).drew) := hB2.out
        with_reducible refine (HF3.out (wc.alloc (.cells (gC (zG 32)) 31)).drew hB2d.out).mono ?_
        rintro e w3 ⟨rfl, hb3⟩
        have hb3x := Lib.hid hb3
        have hb4 := Lib.hid (hB2.out.trans (hb3.mono hB2.out.size)); clear hb3
        refine hK.out _ _ (HK8.out _ hb4.out) (fun hHeld2 => ?_)
        clear hK K hHeld; have hHeld := hHeld2; clear hHeld2
        try simp only [Act.put, List.setIfInBounds_toArray, List.set_cons_zero, List.set_cons_succ]
        refine held_one (i := 8) rfl (by kernel_rfl) (by rfl) (fun K hK => ?_)
        have GY := Lib.hid (GX.out.below hb3x.out (by show wc.heap.size < (wc.alloc _).heap.size; rw [World.size_alloc]; exact Nat.lt_succ_self _))
        refine wp_store_g 31 (.tmp 9) (.tmp 37) rfl wc.drew.heap.size (by rfl) 31 (zG 32) G2 GY.out (by rfl) hZ2.out (by rw [hL2.out]; exact infoState) ?_; intro w7 G7 S7 R7; have hb7 : Hid (Below wc.heap.size wc w7) := hb4.out.grown R7 hb4.out.size (fun k e => by have := Option.some.inj e; have := hX.out; omega)
        refine hK.out _ _ (HK8.out _ hb7.out) (fun hHeld2 => ?_)
        clear hK K hHeld; have hHeld := hHeld2; clear hHeld2
        try simp only [Act.put, List.setIfInBounds_toArray, List.set_cons_zero, List.set_cons_succ]
        refine wpAnyH_done (by kernel_rfl) ?_ _
        skip
        go_wp2
        go_meet
        exact ⟨_, rfl, hX, Lib.hid G7, hb7⟩
    case rest =>
      obtain ⟨X9, rfl, hX9, GX9, hBX9⟩ := hcut
      have hBX3 : Hid (Below W3.heap.size W3 wc) := hBX.out.trans (hBX9.out.mono hBX.out.size)
      have HK9 : Hid (∀ W, Below wc.heap.size wc W → W.cell? ⟨w.heap.size, 0, none⟩ = some (.string u) ∧ W.cell? ⟨w.heap.size, 1, none⟩ = some (.slice A n cap) ∧ GA W X9 31 G2) := fun W hb => by
        have h := HK.out W (hBX3.out.trans (hb.mono hBX3.out.size))
        exact ⟨h.1, h.2, GX9.out.below hb GX9.out.lt⟩
      have hB0_9 : Hid (Below wc.heap.size wc wc.drew) := (Below.refl _ _).drew
      have HA9 := Lib.hid (HA.out wc.drew (hBX3.out.trans (hB0_9.out.mono hBX3.out.size)))
      have heq := eq_game G2 hL2.out
      have hgd := guardGame20
      clear HF3 HK8 HA hz hPD
      go_wp2_with fail
      refine wp_region_held_drew (S := (fun w' => w'.cell? ⟨w.heap.size, 0, none⟩ = some (.string u) ∧ w'.cell? ⟨w.heap.size, 1, none⟩ = some (.slice A n cap) ∧ GA w' X9 31 G2)) (by kernel_rfl) (HK9.out _ hB0_9.out) (fun hHeld => ?_)
      refine held_take (i := 0) (v := .agg (gC G2)) rfl (by kernel_rfl) (by kernel_rfl) (by kernel_rfl) (fun _ _ _ h => h) (by rfl) hHeld (exec_load_g _ _ rfl X9 (by rfl) 31 G2 (fun w h => h.2.2) Try.underlying31 (by rw [hL2.out]; exact infoState)) ?_
      try simp only [Act.put, List.setIfInBounds_toArray, List.set_cons_zero, List.set_cons_succ]
      refine held_take (i := 1) (v := ?_) rfl (by kernel_rfl) (by kernel_rfl) (by kernel_rfl) (fun _ _ _ h => h) (by rfl) hHeld ?_ ?_
      rotate_left 1
      · (intro w hSw; (try dsimp only at hSw); go_simp; try (with_reducible rfl))
      try simp only [Act.put, List.setIfInBounds_toArray, List.set_cons_zero, List.set_cons_succ]
      refine held_take (i := 2) (v := ?_) rfl (by kernel_rfl) (by kernel_rfl) (by kernel_rfl) (fun _ _ _ h => h) (by rfl) hHeld ?_ ?_
      rotate_left 1
      · (intro w hSw; (try dsimp only at hSw); go_simp; try (with_reducible rfl))
      try simp only [Act.put, List.setIfInBounds_toArray, List.set_cons_zero, List.set_cons_succ]
      refine held_one (i := 3) rfl (by kernel_rfl) (by rfl) (fun K hK => ?_)
      go_simp
      with_reducible refine HA9.out.mono ?_
      rintro e w3 ⟨rfl, hb3⟩
      have hb4 := Lib.hid (hB0_9.out.trans (hb3.mono hB0_9.out.size)); clear hb3
      refine hK.out _ _ (HK9.out _ hb4.out) (fun hHeld2 => ?_)
      clear hK K hHeld; have hHeld := hHeld2; clear hHeld2
      try simp only [Act.put, List.setIfInBounds_toArray, List.set_cons_zero, List.set_cons_succ]
      refine held_take (i := 4) (v := ?_) rfl (by kernel_rfl) (by kernel_rfl) (by kernel_rfl) (fun _ _ _ h => h) (by rfl) hHeld ?_ ?_
      rotate_left 1
      · (intro w hSw; (try dsimp only at hSw); go_simp; try (with_reducible rfl))
      try simp only [Act.put, List.setIfInBounds_toArray, List.set_cons_zero, List.set_cons_succ]
      refine held_take (i := 5) (v := ?_) rfl (by kernel_rfl) (by kernel_rfl) (by kernel_rfl) (fun _ _ _ h => h) (by rfl) hHeld ?_ ?_
      rotate_left 1
      · (intro w hSw; (try dsimp only at hSw); go_simp; try (with_reducible rfl))
      try simp only [Act.put, List.setIfInBounds_toArray, List.set_cons_zero, List.set_cons_succ]
      refine wpAnyH_done (by kernel_rfl) ?_ _
      go_wp2
      go_ret
      exact ⟨rfl, HB3.out.trans ((hBX3.out.trans (hb4.out.mono hBX3.out.size)).mono HB3.out.size)⟩
end Go.Proofs.Ytbmhdinaofepdaa
