/- WALK of the law PredictAll. -/
import Derived.Test.YtphcbeccipjlgaaVh
import Derived.Deep.CutBlock
import Derived.Deep.CutRange
namespace Go.Proofs.Ytphcbeccipjlgaa
set_option maxRecDepth 100000
open Go.RowKit Go.Maps
set_option linter.unusedVariables false
set_option linter.unusedSimpArgs false

set_option maxHeartbeats 4000000 in
theorem all_law (z o : Int) (A0 : Option Addr) (l0 : List UInt8) (cap0 : Nat) (A1 : Option Addr) (l1 : List UInt8) (cap1 : Nat) (k n : Int) (w : World) (h0 : RB w w.heap.size A0 l0) (k0 : l0.length ≤ cap0) (m0 : cap0 ≤ maxLen) (h1 : RB w w.heap.size A1 l1) (k1 : l1.length ≤ cap1) (m1 : cap1 ≤ maxLen) :
    Calls Try.prog 3 #[.agg #[.int .i64 z, .int .i64 o, .slice A0 l0.length cap0], .slice A1 l1.length cap1, .int .i64 k, .int .i64 n] w fun e w' => e = .returned (.bool true) ∧ Below w.heap.size w w' := by
  obtain ⟨tb, htb⟩ : ∃ p, l0.take 40 = p := ⟨_, rfl⟩
  obtain ⟨X, hX⟩ : ∃ L, tb.length = L := ⟨_, rfl⟩
  obtain ⟨hX40, hXc⟩ : X ≤ 40 ∧ X ≤ cap0 := by rw [← htb, List.length_take] at hX; omega
  obtain ⟨p, hp⟩ : ∃ p, l1.take 60 = p := ⟨_, rfl⟩
  obtain ⟨L, hL⟩ : ∃ L, p.length = L := ⟨_, rfl⟩
  obtain ⟨hL60, hLc⟩ : L ≤ 60 ∧ L ≤ cap1 := by rw [← hp, List.length_take] at hL; omega
  have HS1 := Lib.hid (fun W => short_n A1 l1 l1.length cap1 60 W rfl (by omega) k1 m1 L (by rw [hp, hL]) 60 rfl)
  have HCu := Lib.hid (fun W => cut_any z o A0 l0 l0.length cap0 X W rfl k0 m0 (by rw [htb, hX]))
  have HP : Hid (PM w A1 p L cap1) := ⟨hL, hLc, m1, by rw [← hp]; exact h1.take 60⟩
  have HT : Hid (PM w A0 tb X cap0) := ⟨hX, hXc, m0, by rw [← htb]; exact h0.take 40⟩
  obtain ⟨n00, hn00⟩ : ∃ n00, l0.length = n00 := ⟨_, rfl⟩
  obtain ⟨n01, hn01⟩ : ∃ n01, l1.length = n01 := ⟨_, rfl⟩
  rw [hn00] at HCu ⊢
  rw [hn01] at HS1 ⊢
  have HL := Lib.hid hL; have HXL := Lib.hid hX
  clear h0 k0 m0 h1 k1 m1 hp htb hn00 hn01 hL hX
  obtain ⟨w1, hw1⟩ : ∃ w1, w.alloc (.cells #[.int .i64 z, .int .i64 o, .slice A0 n00 cap0] 24) = w1 := ⟨_, rfl⟩
  have b1 : Below w.heap.size w w1 := by rw [← hw1]; exact (Below.refl _ _).alloc (Nat.le_refl _) _
  have s1 : w1.heap.size = w.heap.size + 1 := by rw [← hw1]; simp
  have hbox1 : w1.heap[w.heap.size]? = some (.cells #[.int .i64 z, .int .i64 o, .slice A0 n00 cap0] 24 (0, 0)) := by
    rw [← hw1]; exact heap_alloc_last w _
  have HG := Lib.hid (begun18_any w1)
  have HW := Lib.hid hw1; have B1 := Lib.hid b1; have S1 := Lib.hid s1; have HX1 := Lib.hid hbox1
  rw [← HW.out] at HG
  clear hw1 b1 s1 hbox1
  go_enter Try.func3, Try.ntmps3
  go_wp2_with fail
  (with_reducible refine HG.out.mono ?_)
  rintro e w2 ⟨rfl, hb2⟩
  rw [HW.out] at hb2
  have HB2 := Lib.hid (B1.out.trans (hb2.mono B1.out.size))
  have hbx2 : w2.heap[w.heap.size]? = some (.cells #[.int .i64 z, .int .i64 o, .slice A0 n00 cap0] 24 (0, 0)) := (hb2.block w.heap.size (by rw [S1.out]; omega)).trans HX1.out
  have c20 : w2.cell? ⟨w.heap.size, 0, none⟩ = some (.int .i64 z) := cell_of_row _ _ _ _ _ _ hbx2
  have c21 : w2.cell? ⟨w.heap.size, 1, none⟩ = some (.int .i64 o) := cell_of_row _ _ _ _ _ _ hbx2
  have c22 : w2.cell? ⟨w.heap.size, 2, none⟩ = some (.slice A0 n00 cap0) := cell_of_row _ _ _ _ _ _ hbx2
  have HBX2 := Lib.hid hbx2
  have Z2 : Hid (w.heap.size + 1 ≤ w2.heap.size) := by unfold Hid; rw [← S1.out]; exact hb2.size
  clear hb2 hbx2 HG HX1 B1 HW
  go_wp2_with fail
  (with_reducible refine (HCu.out _).mono ?_)
  rintro e w3 ⟨rfl, hb3⟩
  have HB3 := Lib.hid (HB2.out.trans (hb3.mono HB2.out.size))
  have hbx3 : w3.heap[w.heap.size]? = some (.cells #[.int .i64 z, .int .i64 o, .slice A0 n00 cap0] 24 (0, 0)) := (hb3.block w.heap.size (by have := Z2.out; omega)).trans HBX2.out
  have Z3 : Hid (w.heap.size + 1 ≤ w3.heap.size) := by unfold Hid; have := Z2.out; have := hb3.size; omega
  have HBX3 := Lib.hid hbx3
  clear hb3 hbx3 HBX2 c20 c21 c22 HB2 HCu
  go_wp2_with fail
  (with_reducible refine (HS1.out _).mono ?_)
  rintro e w3' ⟨rfl, rfl⟩
  have hbx3 := HBX3.out
  go_upto_if 18 with (with_reducible refine wpList_store_by rfl (.tmp 4) (.tmp 14) rfl w.heap.size (by with_unfolding_all rfl) z o z o A0 A0 n00 cap0 X cap0 hbx3 (by with_unfolding_all rfl) ?_; intro w4 hbx4 S4 R4)
  have HB4 : Hid (Below w.heap.size w w4) := HB3.out.grown R4 (by have := HB3.out.size; omega) (fun k e => by cases e; exact Nat.le_refl _)
  have Z4 : Hid (w.heap.size + 1 ≤ w4.heap.size) := by unfold Hid; rw [S4]; exact Z3.out
  have BX := Lib.hid (box3 hbx4)
  have HP4 := Lib.hid (HP.out.then_ HB4.out)
  have HT4 := Lib.hid (HT.out.then_ HB4.out)
  obtain ⟨r, hr⟩ : ∃ r, mayB z o X = r := ⟨_, rfl⟩
  have HRr := Lib.hid hr
  obtain ⟨k', hk'⟩ : ∃ k' : Int, (if 300 < k then 300 else k) = k' := ⟨_, rfl⟩
  have HKk := Lib.hid hk'
  obtain ⟨n', hn'⟩ : ∃ n' : Int, (if 20 < n then 20 else n) = n' := ⟨_, rfl⟩
  have HNn := Lib.hid hn'
  obtain ⟨m, hm⟩ : ∃ m : Nat, min (max k' 0) 256 = (m : Int) := ⟨(min (max k' 0) 256).toNat, by omega⟩
  obtain ⟨m2, hm2⟩ : ∃ m : Nat, min (max n' 0) 1000 = (m : Int) := ⟨(min (max n' 0) 1000).toNat, by omega⟩
  have HMa := Lib.hid hm; have HMb := Lib.hid hm2
  clear hr hk' hn' hm hm2 HB3 Z3 HBX3 S4 R4 HS1 HP HT hbx3 hbx4
  go_cut [2] from 17 to 18 (fun s2 wx => s2 = .int .i64 k' ∧ w4 = wx)
  case first =>
    by_cases g : 300 < k
    · have e : k' = 300 := by rw [← HKk.out, if_pos g]
      subst e
      go_wp2_with fail
      go_meet
      exact ⟨rfl, rfl⟩
    · have e : k = k' := by rw [← HKk.out, if_neg g]
      subst e
      go_wp2_with fail
      go_meet
      exact ⟨rfl, rfl⟩
  case rest =>
  obtain ⟨rfl, rfl⟩ := hcut
  go_upto_if 20 with fail
  go_cut [3] from 19 to 20 (fun s3 wx => s3 = .int .i64 n' ∧ w4 = wx)
  case first =>
    by_cases g : 20 < n
    · have e : n' = 20 := by rw [← HNn.out, if_pos g]
      subst e
      go_wp2_with fail
      go_meet
      exact ⟨rfl, rfl⟩
    · have e : n = n' := by rw [← HNn.out, if_neg g]
      subst e
      go_wp2_with fail
      go_meet
      exact ⟨rfl, rfl⟩
  case rest =>
  obtain ⟨rfl, rfl⟩ := hcut
  clear HKk HNn
  have HXm : Hid (X ≤ maxLen) := Nat.le_trans HT4.out.nc HT4.out.cm
  have FX : Hid (∀ wx, Below w4.heap.size w4 wx → wx.cell? ⟨w.heap.size, 0, none⟩ = some (.int .i64 z) ∧ wx.cell? ⟨w.heap.size, 1, none⟩ = some (.int .i64 o) ∧ wx.cell? ⟨w.heap.size, 2, none⟩ = some (.slice A0 X cap0)) := fun wx hx => BX.out wx (hx.mono Z4.out)
  have HOf := Lib.hid (fun W => of_any z o A0 X cap0 W)
  have HMy := Lib.hid (fun W => may_at z o A0 X cap0 W HXm.out r HRr.out)
  have HBy := Lib.hid (fun W => mayBy_at z o A0 X cap0 W HXm.out r HRr.out)
  have hrr : (r != r) = false := by simp
  have hbc : Below w4.heap.size w4 w4.drew := (Below.refl _ _).drew
  obtain ⟨p0, p1, p2⟩ := FX.out _ hbc
  go_wp2_with fail
  refine wp_region_held_drew (S := (fun w' => w'.cell? ⟨w.heap.size, 0, none⟩ = some (.int .i64 z) ∧ w'.cell? ⟨w.heap.size, 1, none⟩ = some (.int .i64 o) ∧ w'.cell? ⟨w.heap.size, 2, none⟩ = some (.slice A0 X cap0))) (by kernel_rfl) (⟨p0, p1, p2⟩) (fun hHeld => ?_)
  refine held_take (i := 0) (v := ?_) rfl (by kernel_rfl) (by kernel_rfl) (by kernel_rfl) (fun _ _ _ h => h) (by rfl) hHeld ?_ ?_
  rotate_left 1
  · (intro w hSw; (try dsimp only at hSw); go_simp; try (with_reducible rfl))
  try simp only [Act.put, List.setIfInBounds_toArray, List.set_cons_zero, List.set_cons_succ]
  refine held_take (i := 3) (v := ?_) rfl (by kernel_rfl) (by kernel_rfl) (by kernel_rfl) (fun _ _ _ h => h) (by rfl) hHeld ?_ ?_
  rotate_left 1
  · (intro w hSw; (try dsimp only at hSw); go_simp; try (with_reducible rfl))
  try simp only [Act.put, List.setIfInBounds_toArray, List.set_cons_zero, List.set_cons_succ]
  refine held_one (i := 1) rfl (by kernel_rfl) (by rfl) (fun K hK => ?_)
  go_simp
  (with_reducible refine (HOf.out _).mono ?_)
  rintro e wa9 ⟨rfl, b5⟩
  replace hbc := hbc.trans (b5.mono hbc.size)
  clear p0 p1 p2 b5
  obtain ⟨p0, p1, p2⟩ := FX.out _ hbc
  refine hK.out _ _ (⟨p0, p1, p2⟩) (fun hHeld2 => ?_)
  clear hK K hHeld; have hHeld := hHeld2; clear hHeld2
  try simp only [Act.put, List.setIfInBounds_toArray, List.set_cons_zero, List.set_cons_succ]
  refine held_one (i := 2) rfl (by kernel_rfl) (by rfl) (fun K hK => ?_)
  go_simp
  (with_reducible refine (HMy.out _).mono ?_)
  rintro e wb9 ⟨rfl, b5⟩
  replace hbc := hbc.trans (b5.mono hbc.size)
  clear p0 p1 p2 b5
  obtain ⟨p0, p1, p2⟩ := FX.out _ hbc
  refine hK.out _ _ (⟨p0, p1, p2⟩) (fun hHeld2 => ?_)
  clear hK K hHeld; have hHeld := hHeld2; clear hHeld2
  try simp only [Act.put, List.setIfInBounds_toArray, List.set_cons_zero, List.set_cons_succ]
  refine held_one (i := 4) rfl (by kernel_rfl) (by rfl) (fun K hK => ?_)
  go_simp
  (with_reducible refine (HBy.out _).mono ?_)
  rintro e wc9 ⟨rfl, b5⟩
  replace hbc := hbc.trans (b5.mono hbc.size)
  clear p0 p1 p2 b5
  obtain ⟨p0, p1, p2⟩ := FX.out _ hbc
  refine hK.out _ _ (⟨p0, p1, p2⟩) (fun hHeld2 => ?_)
  clear hK K hHeld; have hHeld := hHeld2; clear hHeld2
  try simp only [Act.put, List.setIfInBounds_toArray, List.set_cons_zero, List.set_cons_succ]
  refine held_take (i := 5) (v := ?_) rfl (by kernel_rfl) (by kernel_rfl) (by kernel_rfl) (fun _ _ _ h => h) (by rfl) hHeld ?_ ?_
  rotate_left 1
  · (intro w hSw; (try dsimp only at hSw); go_simp; try (with_reducible rfl))
  try simp only [Act.put, List.setIfInBounds_toArray, List.set_cons_zero, List.set_cons_succ]
  refine wpAnyH_done (by kernel_rfl) ?_ _
  go_wp2_with fail
  obtain ⟨wE, hwE⟩ : ∃ wE, wc9 = wE := ⟨_, rfl⟩
  have hbE := hbc
  rw [hwE] at hbE ⊢
  clear p0 p1 p2 hbc
  have BE := Lib.hid (HB4.out.trans (hbE.mono HB4.out.size))
  have PE := Lib.hid (HP4.out.then_ hbE)
  have TE := Lib.hid (HT4.out.then_ hbE)
  have FY : Hid (∀ wx, Below wE.heap.size wE wx → wx.cell? ⟨w.heap.size, 0, none⟩ = some (.int .i64 z) ∧ wx.cell? ⟨w.heap.size, 1, none⟩ = some (.int .i64 o) ∧ wx.cell? ⟨w.heap.size, 2, none⟩ = some (.slice A0 X cap0)) := fun wx hx => FX.out wx (hbE.trans (hx.mono hbE.size))
  obtain ⟨R, hRR⟩ : ∃ R, rkR r ⟨z.toNat, o.toNat, tb⟩ p m = R := ⟨_, rfl⟩
  obtain ⟨C, hCC⟩ : ∃ C, chR r ⟨z.toNat, o.toNat, tb⟩ p m2 = C := ⟨_, rfl⟩
  have HA1 : Hid (∀ wx, Below wE.heap.size wE wx → Calls Try.prog 17 #[.agg #[.int .i64 z, .int .i64 o, .slice A0 X cap0], .slice A1 L cap1, .int .i64 k'] wx fun e w' => Res e w' R ∧ Below wx.heap.size wx w') := fun wx hx => by
    rw [← hRR]; exact rank_gen z o A0 X cap0 tb A1 p L cap1 k' wx (TE.out.then_ hx) (PE.out.then_ hx) (by omega) r HRr.out m HMa.out
  have HA2 : Hid (∀ wx, Below wE.heap.size wE wx → Calls Try.prog 18 #[.agg #[.int .i64 z, .int .i64 o, .slice A0 X cap0], .slice A1 L cap1, .int .i64 k'] wx fun e w' => Res e w' R ∧ Below wx.heap.size wx w') := fun wx hx => by
    rw [← hRR]; exact rrank_gen z o A0 X cap0 tb A1 p L cap1 k' wx (TE.out.then_ hx) (PE.out.then_ hx) (by omega) r HRr.out m HMa.out
  have HA3 : Hid (∀ wx, Below wE.heap.size wE wx → Calls Try.prog 19 #[.agg #[.int .i64 z, .int .i64 o, .slice A0 X cap0], .slice A1 L cap1, .int .i64 n'] wx fun e w' => Res e w' C ∧ Below wx.heap.size wx w') := fun wx hx => by
    rw [← hCC]; exact chain_gen z o A0 X cap0 tb A1 p L cap1 n' wx (TE.out.then_ hx) (PE.out.then_ hx) (by omega) r HRr.out m2 HMb.out
  have HA4 : Hid (∀ wx, Below wE.heap.size wE wx → Calls Try.prog 20 #[.agg #[.int .i64 z, .int .i64 o, .slice A0 X cap0], .slice A1 L cap1, .int .i64 n'] wx fun e w' => Res e w' C ∧ Below wx.heap.size wx w') := fun wx hx => by
    rw [← hCC]; exact rchain_gen z o A0 X cap0 tb A1 p L cap1 n' wx (TE.out.then_ hx) (PE.out.then_ hx) (by omega) r HRr.out m2 HMb.out
  obtain ⟨sR, hsR⟩ : ∃ s, str R = s := ⟨_, rfl⟩
  obtain ⟨sC, hsC⟩ : ∃ s, str C = s := ⟨_, rfl⟩
  obtain ⟨nR, hnR⟩ : ∃ s, R.length = s := ⟨_, rfl⟩
  obtain ⟨nC, hnC⟩ : ∃ s, C.length = s := ⟨_, rfl⟩
  have HsR := Lib.hid hsR; have HsC := Lib.hid hsC; have HnR := Lib.hid hnR; have HnC := Lib.hid hnC
  have hbc : Below wE.heap.size wE wE.drew := (Below.refl _ _).drew
  obtain ⟨p0, p1, p2⟩ := FY.out _ hbc
  clear hRR hCC hsR hsC hnR hnC hwE hbE FX
  refine wp_region_held_drew (S := (fun w' => w'.cell? ⟨w.heap.size, 0, none⟩ = some (.int .i64 z) ∧ w'.cell? ⟨w.heap.size, 1, none⟩ = some (.int .i64 o) ∧ w'.cell? ⟨w.heap.size, 2, none⟩ = some (.slice A0 X cap0))) (by kernel_rfl) (⟨p0, p1, p2⟩) (fun hHeld => ?_)
  refine held_take (i := 0) (v := ?_) rfl (by kernel_rfl) (by kernel_rfl) (by kernel_rfl) (fun _ _ _ h => h) (by rfl) hHeld ?_ ?_
  rotate_left 1
  · (intro w hSw; (try dsimp only at hSw); go_simp; try (with_reducible rfl))
  try simp only [Act.put, List.setIfInBounds_toArray, List.set_cons_zero, List.set_cons_succ]
  refine held_take (i := 2) (v := ?_) rfl (by kernel_rfl) (by kernel_rfl) (by kernel_rfl) (fun _ _ _ h => h) (by rfl) hHeld ?_ ?_
  rotate_left 1
  · (intro w hSw; (try dsimp only at hSw); go_simp; try (with_reducible rfl))
  try simp only [Act.put, List.setIfInBounds_toArray, List.set_cons_zero, List.set_cons_succ]
  refine held_take (i := 3) (v := ?_) rfl (by kernel_rfl) (by kernel_rfl) (by kernel_rfl) (fun _ _ _ h => h) (by rfl) hHeld ?_ ?_
  rotate_left 1
  · (intro w hSw; (try dsimp only at hSw); go_simp; try (with_reducible rfl))
  try simp only [Act.put, List.setIfInBounds_toArray, List.set_cons_zero, List.set_cons_succ]
  refine held_take (i := 6) (v := ?_) rfl (by kernel_rfl) (by kernel_rfl) (by kernel_rfl) (fun _ _ _ h => h) (by rfl) hHeld ?_ ?_
  rotate_left 1
  · (intro w hSw; (try dsimp only at hSw); go_simp; try (with_reducible rfl))
  try simp only [Act.put, List.setIfInBounds_toArray, List.set_cons_zero, List.set_cons_succ]
  refine held_take (i := 7) (v := ?_) rfl (by kernel_rfl) (by kernel_rfl) (by kernel_rfl) (fun _ _ _ h => h) (by rfl) hHeld ?_ ?_
  rotate_left 1
  · (intro w hSw; (try dsimp only at hSw); go_simp; try (with_reducible rfl))
  try simp only [Act.put, List.setIfInBounds_toArray, List.set_cons_zero, List.set_cons_succ]
  refine held_take (i := 8) (v := ?_) rfl (by kernel_rfl) (by kernel_rfl) (by kernel_rfl) (fun _ _ _ h => h) (by rfl) hHeld ?_ ?_
  rotate_left 1
  · (intro w hSw; (try dsimp only at hSw); go_simp; try (with_reducible rfl))
  try simp only [Act.put, List.setIfInBounds_toArray, List.set_cons_zero, List.set_cons_succ]
  refine held_one (i := 1) rfl (by kernel_rfl) (by rfl) (fun K hK => ?_)
  go_simp
  (with_reducible refine (HOf.out _).mono ?_)
  rintro e wa ⟨rfl, b5⟩
  replace hbc := hbc.trans (b5.mono hbc.size)
  clear p0 p1 p2
  obtain ⟨p0, p1, p2⟩ := FY.out _ hbc
  clear b5
  refine hK.out _ _ (⟨p0, p1, p2⟩) (fun hHeld2 => ?_)
  clear hK K hHeld; have hHeld := hHeld2; clear hHeld2
  try simp only [Act.put, List.setIfInBounds_toArray, List.set_cons_zero, List.set_cons_succ]
  refine held_one (i := 4) rfl (by kernel_rfl) (by rfl) (fun K hK => ?_)
  go_simp
  (with_reducible refine (HA1.out _ hbc).mono ?_)
  rintro e wb ⟨⟨B1, d1, rfl, rr1⟩, b5⟩
  replace hbc := hbc.trans (b5.mono hbc.size)
  clear p0 p1 p2
  obtain ⟨p0, p1, p2⟩ := FY.out _ hbc
  rw [HnR.out]
  have V1 : Hid (∀ wx, Below wb.heap.size wb wx → (convert 22 9 (.slice B1 nR d1)).run Try.prog wx = .ok (.string sR) wx) := fun wx hx => by rw [← HsR.out]; exact conv_rb (rr1.below hx) nR d1 HnR.out
  have hb1 : Below wb.heap.size wb wb := Below.refl _ _
  have v1 := V1.out _ hb1
  clear b5 rr1
  refine hK.out _ _ (⟨p0, p1, p2⟩) (fun hHeld2 => ?_)
  clear hK K hHeld; have hHeld := hHeld2; clear hHeld2
  try simp only [Act.put, List.setIfInBounds_toArray, List.set_cons_zero, List.set_cons_succ]
  refine wpAnyH_more (S' := (fun w' => (w'.cell? ⟨w.heap.size, 0, none⟩ = some (.int .i64 z) ∧ w'.cell? ⟨w.heap.size, 1, none⟩ = some (.int .i64 o) ∧ w'.cell? ⟨w.heap.size, 2, none⟩ = some (.slice A0 X cap0)) ∧ (convert 22 9 (.slice B1 nR d1)).run Try.prog w' = .ok (.string sR) w')) (fun _ h => h.1) _ _ _ _ ?_
  have hHeld3 : ((fun w' => (w'.cell? ⟨w.heap.size, 0, none⟩ = some (.int .i64 z) ∧ w'.cell? ⟨w.heap.size, 1, none⟩ = some (.int .i64 o) ∧ w'.cell? ⟨w.heap.size, 2, none⟩ = some (.slice A0 X cap0)) ∧ (convert 22 9 (.slice B1 nR d1)).run Try.prog w' = .ok (.string sR) w')) wb := ⟨⟨p0, p1, p2⟩, v1⟩
  clear hHeld; have hHeld := hHeld3; clear hHeld3
  refine held_take (i := 5) (v := ?_) rfl (by kernel_rfl) (by kernel_rfl) (by kernel_rfl) (fun _ _ _ h => h) (by rfl) hHeld ?_ ?_
  rotate_left 1
  · (intro w hSw; (try dsimp only at hSw); go_simp; try (with_reducible rfl))
  try simp only [Act.put, List.setIfInBounds_toArray, List.set_cons_zero, List.set_cons_succ]
  refine held_one (i := 9) rfl (by kernel_rfl) (by rfl) (fun K hK => ?_)
  go_simp
  (with_reducible refine (HA2.out _ hbc).mono ?_)
  rintro e wd ⟨⟨B2, d2, rfl, rr2⟩, b5⟩
  replace hbc := hbc.trans (b5.mono hbc.size)
  clear p0 p1 p2
  obtain ⟨p0, p1, p2⟩ := FY.out _ hbc
  clear v1; have v1 := V1.out _ (hb1.trans (b5.mono hb1.size)); replace hb1 := hb1.trans (b5.mono hb1.size)
  rw [HnR.out]
  have V2 : Hid (∀ wx, Below wd.heap.size wd wx → (convert 22 9 (.slice B2 nR d2)).run Try.prog wx = .ok (.string sR) wx) := fun wx hx => by rw [← HsR.out]; exact conv_rb (rr2.below hx) nR d2 HnR.out
  have hb2 : Below wd.heap.size wd wd := Below.refl _ _
  have v2 := V2.out _ hb2
  clear b5 rr2
  refine hK.out _ _ (⟨⟨p0, p1, p2⟩, v1⟩) (fun hHeld2 => ?_)
  clear hK K hHeld; have hHeld := hHeld2; clear hHeld2
  try simp only [Act.put, List.setIfInBounds_toArray, List.set_cons_zero, List.set_cons_succ]
  refine wpAnyH_more (S' := (fun w' => (w'.cell? ⟨w.heap.size, 0, none⟩ = some (.int .i64 z) ∧ w'.cell? ⟨w.heap.size, 1, none⟩ = some (.int .i64 o) ∧ w'.cell? ⟨w.heap.size, 2, none⟩ = some (.slice A0 X cap0)) ∧ (convert 22 9 (.slice B1 nR d1)).run Try.prog w' = .ok (.string sR) w' ∧ (convert 22 9 (.slice B2 nR d2)).run Try.prog w' = .ok (.string sR) w')) (fun _ h => ⟨h.1, h.2.1⟩) _ _ _ _ ?_
  have hHeld3 : ((fun w' => (w'.cell? ⟨w.heap.size, 0, none⟩ = some (.int .i64 z) ∧ w'.cell? ⟨w.heap.size, 1, none⟩ = some (.int .i64 o) ∧ w'.cell? ⟨w.heap.size, 2, none⟩ = some (.slice A0 X cap0)) ∧ (convert 22 9 (.slice B1 nR d1)).run Try.prog w' = .ok (.string sR) w' ∧ (convert 22 9 (.slice B2 nR d2)).run Try.prog w' = .ok (.string sR) w')) wd := ⟨⟨p0, p1, p2⟩, v1, v2⟩
  clear hHeld; have hHeld := hHeld3; clear hHeld3
  refine held_take (i := 10) (v := ?_) rfl (by kernel_rfl) (by kernel_rfl) (by kernel_rfl) (fun _ _ _ h => h) (by rfl) hHeld ?_ ?_
  rotate_left 1
  · (intro w hSw; (try dsimp only at hSw); go_simp; try (with_reducible rfl))
  try simp only [Act.put, List.setIfInBounds_toArray, List.set_cons_zero, List.set_cons_succ]
  refine held_take (i := 11) (v := ?_) rfl (by kernel_rfl) (by kernel_rfl) (by kernel_rfl) (fun _ _ _ h => h) (by rfl) hHeld ?_ ?_
  rotate_left 1
  · (intro w hSw; (try dsimp only at hSw); go_simp; try (with_reducible rfl))
  try simp only [Act.put, List.setIfInBounds_toArray, List.set_cons_zero, List.set_cons_succ]
  refine held_take (i := 12) (v := ?_) rfl (by kernel_rfl) (by kernel_rfl) (by kernel_rfl) (fun _ _ _ h => h) (by rfl) hHeld ?_ ?_
  rotate_left 1
  · (intro w hSw; (try dsimp only at hSw); go_simp; try (with_reducible rfl))
  try simp only [Act.put, List.setIfInBounds_toArray, List.set_cons_zero, List.set_cons_succ]
  refine held_take (i := 13) (v := ?_) rfl (by kernel_rfl) (by kernel_rfl) (by kernel_rfl) (fun _ _ _ h => h) (by rfl) hHeld ?_ ?_
  rotate_left 1
  · (intro w hSw; (try dsimp only at hSw); go_simp; try (with_reducible rfl))
  try simp only [Act.put, List.setIfInBounds_toArray, List.set_cons_zero, List.set_cons_succ]
  refine held_take (i := 15) (v := ?_) rfl (by kernel_rfl) (by kernel_rfl) (by kernel_rfl) (fun _ _ _ h => h) (by rfl) hHeld ?_ ?_
  rotate_left 1
  · (intro w hSw; (try dsimp only at hSw); go_simp; try (with_reducible rfl))
  try simp only [Act.put, List.setIfInBounds_toArray, List.set_cons_zero, List.set_cons_succ]
  refine held_take (i := 16) (v := ?_) rfl (by kernel_rfl) (by kernel_rfl) (by kernel_rfl) (fun _ _ _ h => h) (by rfl) hHeld ?_ ?_
  rotate_left 1
  · (intro w hSw; (try dsimp only at hSw); go_simp; try (with_reducible rfl))
  try simp only [Act.put, List.setIfInBounds_toArray, List.set_cons_zero, List.set_cons_succ]
  refine held_take (i := 19) (v := ?_) rfl (by kernel_rfl) (by kernel_rfl) (by kernel_rfl) (fun _ _ _ h => h) (by rfl) hHeld ?_ ?_
  rotate_left 1
  · (intro w hSw; (try dsimp only at hSw); go_simp; try (with_reducible rfl))
  try simp only [Act.put, List.setIfInBounds_toArray, List.set_cons_zero, List.set_cons_succ]
  refine held_take (i := 20) (v := ?_) rfl (by kernel_rfl) (by kernel_rfl) (by kernel_rfl) (fun _ _ _ h => h) (by rfl) hHeld ?_ ?_
  rotate_left 1
  · (intro w hSw; (try dsimp only at hSw); go_simp; try (with_reducible rfl))
  try simp only [Act.put, List.setIfInBounds_toArray, List.set_cons_zero, List.set_cons_succ]
  refine held_take (i := 21) (v := ?_) rfl (by kernel_rfl) (by kernel_rfl) (by kernel_rfl) (fun _ _ _ h => h) (by rfl) hHeld ?_ ?_
  rotate_left 1
  · (intro w hSw; (try dsimp only at hSw); go_simp; try (with_reducible rfl))
  try simp only [Act.put, List.setIfInBounds_toArray, List.set_cons_zero, List.set_cons_succ]
  refine held_one (i := 14) rfl (by kernel_rfl) (by rfl) (fun K hK => ?_)
  go_simp
  (with_reducible refine (HOf.out _).mono ?_)
  rintro e we ⟨rfl, b5⟩
  replace hbc := hbc.trans (b5.mono hbc.size)
  clear p0 p1 p2
  obtain ⟨p0, p1, p2⟩ := FY.out _ hbc
  clear v1; have v1 := V1.out _ (hb1.trans (b5.mono hb1.size)); replace hb1 := hb1.trans (b5.mono hb1.size)
  clear v2; have v2 := V2.out _ (hb2.trans (b5.mono hb2.size)); replace hb2 := hb2.trans (b5.mono hb2.size)
  clear b5
  refine hK.out _ _ (⟨⟨p0, p1, p2⟩, v1, v2⟩) (fun hHeld2 => ?_)
  clear hK K hHeld; have hHeld := hHeld2; clear hHeld2
  try simp only [Act.put, List.setIfInBounds_toArray, List.set_cons_zero, List.set_cons_succ]
  refine held_one (i := 17) rfl (by kernel_rfl) (by rfl) (fun K hK => ?_)
  go_simp
  (with_reducible refine (HA3.out _ hbc).mono ?_)
  rintro e wf ⟨⟨B3, d3, rfl, rr3⟩, b5⟩
  replace hbc := hbc.trans (b5.mono hbc.size)
  clear p0 p1 p2
  obtain ⟨p0, p1, p2⟩ := FY.out _ hbc
  clear v1; have v1 := V1.out _ (hb1.trans (b5.mono hb1.size)); replace hb1 := hb1.trans (b5.mono hb1.size)
  clear v2; have v2 := V2.out _ (hb2.trans (b5.mono hb2.size)); replace hb2 := hb2.trans (b5.mono hb2.size)
  rw [HnC.out]
  have V3 : Hid (∀ wx, Below wf.heap.size wf wx → (convert 22 9 (.slice B3 nC d3)).run Try.prog wx = .ok (.string sC) wx) := fun wx hx => by rw [← HsC.out]; exact conv_rb (rr3.below hx) nC d3 HnC.out
  have hb3 : Below wf.heap.size wf wf := Below.refl _ _
  have v3 := V3.out _ hb3
  clear b5 rr3
  refine hK.out _ _ (⟨⟨p0, p1, p2⟩, v1, v2⟩) (fun hHeld2 => ?_)
  clear hK K hHeld; have hHeld := hHeld2; clear hHeld2
  try simp only [Act.put, List.setIfInBounds_toArray, List.set_cons_zero, List.set_cons_succ]
  refine wpAnyH_more (S' := (fun w' => (w'.cell? ⟨w.heap.size, 0, none⟩ = some (.int .i64 z) ∧ w'.cell? ⟨w.heap.size, 1, none⟩ = some (.int .i64 o) ∧ w'.cell? ⟨w.heap.size, 2, none⟩ = some (.slice A0 X cap0)) ∧ (convert 22 9 (.slice B1 nR d1)).run Try.prog w' = .ok (.string sR) w' ∧ (convert 22 9 (.slice B2 nR d2)).run Try.prog w' = .ok (.string sR) w' ∧ (convert 22 9 (.slice B3 nC d3)).run Try.prog w' = .ok (.string sC) w')) (fun _ h => ⟨h.1, h.2.1, h.2.2.1⟩) _ _ _ _ ?_
  have hHeld3 : ((fun w' => (w'.cell? ⟨w.heap.size, 0, none⟩ = some (.int .i64 z) ∧ w'.cell? ⟨w.heap.size, 1, none⟩ = some (.int .i64 o) ∧ w'.cell? ⟨w.heap.size, 2, none⟩ = some (.slice A0 X cap0)) ∧ (convert 22 9 (.slice B1 nR d1)).run Try.prog w' = .ok (.string sR) w' ∧ (convert 22 9 (.slice B2 nR d2)).run Try.prog w' = .ok (.string sR) w' ∧ (convert 22 9 (.slice B3 nC d3)).run Try.prog w' = .ok (.string sC) w')) wf := ⟨⟨p0, p1, p2⟩, v1, v2, v3⟩
  clear hHeld; have hHeld := hHeld3; clear hHeld3
  refine held_take (i := 18) (v := ?_) rfl (by kernel_rfl) (by kernel_rfl) (by kernel_rfl) (fun _ _ _ h => h) (by rfl) hHeld ?_ ?_
  rotate_left 1
  · (intro w hSw; (try dsimp only at hSw); go_simp; try (with_reducible rfl))
  try simp only [Act.put, List.setIfInBounds_toArray, List.set_cons_zero, List.set_cons_succ]
  refine held_one (i := 22) rfl (by kernel_rfl) (by rfl) (fun K hK => ?_)
  go_simp
  (with_reducible refine (HA4.out _ hbc).mono ?_)
  rintro e wg ⟨⟨B4, d4, rfl, rr4⟩, b5⟩
  replace hbc := hbc.trans (b5.mono hbc.size)
  clear p0 p1 p2
  obtain ⟨p0, p1, p2⟩ := FY.out _ hbc
  clear v1; have v1 := V1.out _ (hb1.trans (b5.mono hb1.size)); replace hb1 := hb1.trans (b5.mono hb1.size)
  clear v2; have v2 := V2.out _ (hb2.trans (b5.mono hb2.size)); replace hb2 := hb2.trans (b5.mono hb2.size)
  clear v3; have v3 := V3.out _ (hb3.trans (b5.mono hb3.size)); replace hb3 := hb3.trans (b5.mono hb3.size)
  rw [HnC.out]
  have V4 : Hid (∀ wx, Below wg.heap.size wg wx → (convert 22 9 (.slice B4 nC d4)).run Try.prog wx = .ok (.string sC) wx) := fun wx hx => by rw [← HsC.out]; exact conv_rb (rr4.below hx) nC d4 HnC.out
  have hb4 : Below wg.heap.size wg wg := Below.refl _ _
  have v4 := V4.out _ hb4
  clear b5 rr4
  refine hK.out _ _ (⟨⟨p0, p1, p2⟩, v1, v2, v3⟩) (fun hHeld2 => ?_)
  clear hK K hHeld; have hHeld := hHeld2; clear hHeld2
  try simp only [Act.put, List.setIfInBounds_toArray, List.set_cons_zero, List.set_cons_succ]
  refine wpAnyH_more (S' := (fun w' => (w'.cell? ⟨w.heap.size, 0, none⟩ = some (.int .i64 z) ∧ w'.cell? ⟨w.heap.size, 1, none⟩ = some (.int .i64 o) ∧ w'.cell? ⟨w.heap.size, 2, none⟩ = some (.slice A0 X cap0)) ∧ (convert 22 9 (.slice B1 nR d1)).run Try.prog w' = .ok (.string sR) w' ∧ (convert 22 9 (.slice B2 nR d2)).run Try.prog w' = .ok (.string sR) w' ∧ (convert 22 9 (.slice B3 nC d3)).run Try.prog w' = .ok (.string sC) w' ∧ (convert 22 9 (.slice B4 nC d4)).run Try.prog w' = .ok (.string sC) w')) (fun _ h => ⟨h.1, h.2.1, h.2.2.1, h.2.2.2.1⟩) _ _ _ _ ?_
  have hHeld3 : ((fun w' => (w'.cell? ⟨w.heap.size, 0, none⟩ = some (.int .i64 z) ∧ w'.cell? ⟨w.heap.size, 1, none⟩ = some (.int .i64 o) ∧ w'.cell? ⟨w.heap.size, 2, none⟩ = some (.slice A0 X cap0)) ∧ (convert 22 9 (.slice B1 nR d1)).run Try.prog w' = .ok (.string sR) w' ∧ (convert 22 9 (.slice B2 nR d2)).run Try.prog w' = .ok (.string sR) w' ∧ (convert 22 9 (.slice B3 nC d3)).run Try.prog w' = .ok (.string sC) w' ∧ (convert 22 9 (.slice B4 nC d4)).run Try.prog w' = .ok (.string sC) w')) wg := ⟨⟨p0, p1, p2⟩, v1, v2, v3, v4⟩
  clear hHeld; have hHeld := hHeld3; clear hHeld3
  refine held_take (i := 23) (v := ?_) rfl (by kernel_rfl) (by kernel_rfl) (by kernel_rfl) (fun _ _ _ h => h) (by rfl) hHeld ?_ ?_
  rotate_left 1
  · (intro w hSw; (try dsimp only at hSw); go_simp; try (with_reducible rfl))
  try simp only [Act.put, List.setIfInBounds_toArray, List.set_cons_zero, List.set_cons_succ]
  refine held_take (i := 24) (v := ?_) rfl (by kernel_rfl) (by kernel_rfl) (by kernel_rfl) (fun _ _ _ h => h) (by rfl) hHeld ?_ ?_
  rotate_left 1
  · (intro w hSw; (try dsimp only at hSw); go_simp; try (with_reducible rfl))
  try simp only [Act.put, List.setIfInBounds_toArray, List.set_cons_zero, List.set_cons_succ]
  refine held_take (i := 25) (v := ?_) rfl (by kernel_rfl) (by kernel_rfl) (by kernel_rfl) (fun _ _ _ h => h) (by rfl) hHeld ?_ ?_
  rotate_left 1
  · (intro w hSw; (try dsimp only at hSw); go_simp; try (with_reducible rfl))
  try simp only [Act.put, List.setIfInBounds_toArray, List.set_cons_zero, List.set_cons_succ]
  refine held_take (i := 26) (v := ?_) rfl (by kernel_rfl) (by kernel_rfl) (by kernel_rfl) (fun _ _ _ h => h) (by rfl) hHeld ?_ ?_
  rotate_left 1
  · (intro w hSw; (try dsimp only at hSw); go_simp; try (with_reducible rfl))
  try simp only [Act.put, List.setIfInBounds_toArray, List.set_cons_zero, List.set_cons_succ]
  refine wpAnyH_done (by kernel_rfl) ?_ _
  go_wp2_with fail
  go_ret
  exact ⟨by first | rfl | simp, BE.out.trans (hbc.mono BE.out.size)⟩
end Go.Proofs.Ytphcbeccipjlgaa
