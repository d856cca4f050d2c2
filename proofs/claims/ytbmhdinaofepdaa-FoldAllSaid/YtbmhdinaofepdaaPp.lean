/- WALK of the law FoldAll. -/
import Derived.Test.YtbmhdinaofepdaaPg
import Derived.Test.YtbmhdinaofepdaaPk
import Derived.Test.YtbmhdinaofepdaaKo
import Derived.Test.YtbmhdinaofepdaaPi
namespace Go.Proofs.Ytbmhdinaofepdaa
set_option maxRecDepth 100000
open Go.RowKit
set_option linter.unusedVariables false
set_option linter.unusedSimpArgs false

set_option maxHeartbeats 4000000 in
theorem all_law (t : ByteArray) (A : Option Addr) (os : List O4) (cap : Nat) (AL : Option Addr) (l : List Int) (capl : Nat) (fr : Int) (PA : Option Addr) (ps : List (List UInt8)) (pc : Nat) (w : World)
    (hr : RO w w.heap.size A os) (hc : os.length ≤ cap) (hm : cap ≤ maxLen) (hrl : RG w w.heap.size AL l) (hcl : l.length ≤ capl) (hml : capl ≤ maxLen) (hlz : ∀ z ∈ l, -2147483648 ≤ z ∧ z ≤ 2147483647) (hrp : RP w w.heap.size PA ps) (hcp : ps.length ≤ pc) (hmp : pc ≤ maxLen) :
    Calls Try.prog 3 #[progV t A os.length cap, .slice AL l.length capl, .int .i64 fr, .slice PA ps.length pc] w fun e w' => e = .returned (.bool true) ∧ Below w.heap.size w w' := by
  have hz := zeroState
  have HOf := Lib.hid (fun W (h : RG W W.heap.size AL l) => of_any AL l capl W h hcl hml)
  have HGM : Hid (gam (ofL l)) := gam.ofL hlz
  obtain ⟨g, hg⟩ : ∃ g, g = ofL l := ⟨_, rfl⟩
  rw [← hg] at HOf HGM
  have HRL := Lib.hid hrl
  clear hg hrl hcl hml hlz
  have HBg := Lib.hid begun20_any
  have HCu : Hid (∀ W, Calls Try.prog 8 #[.agg #[.string t, .slice A os.length cap], .int .i64 64] W fun e w' => ∃ u os', Hid (u = cutT t) ∧ Hid (os' = os.take 64) ∧ e = .returned (.agg #[.string u, .slice A os'.length cap]) ∧ Below W.heap.size W w') := fun W => lcut_named t A os cap 64 64 rfl W (by omega) (by omega) hc hm
  obtain ⟨Mp, hMp⟩ : ∃ M, ps.length = M := ⟨_, rfl⟩
  obtain ⟨qs, hqs⟩ : ∃ q, cutP 12 ps = q := ⟨_, rfl⟩
  obtain ⟨N, hN⟩ : ∃ N, qs.length = N := ⟨_, rfl⟩
  have HPr : Hid (∀ W, w.heap.size ≤ W.heap.size → RP W w.heap.size PA ps → Calls Try.prog 9 #[.slice PA Mp pc, .int .i64 12] W fun e w' => ∃ A' c', e = .returned (.slice A' N c') ∧ RQ w' w.heap.size W.heap.size w'.heap.size A' qs ∧ N ≤ c' ∧ c' ≤ maxLen ∧ Below W.heap.size W w') := fun W hW h => by
    have := presses_any PA ps pc 12 Mp W hMp w.heap.size hW h (by omega) hmp (by omega) N (by rw [hqs]; exact hN) 12 rfl
    rw [hqs] at this; exact this
  have hN12 : N ≤ 12 := by rw [← hN, ← hqs, cutP_len]; omega
  have HRP := Lib.hid hrp
  have HN := Lib.hid hN; have HMP := Lib.hid hMp
  rw [hMp]
  have HR := Lib.hid hr
  have b0 : Below w.heap.size w (w.alloc (.cells #[.string t, .slice A os.length cap] 24)) := (Below.refl _ _).alloc (Nat.le_refl _) _
  have e0 : (w.alloc (.cells #[.string t, .slice A os.length cap] 24)).cell? ⟨w.heap.size, 0, none⟩ = some (.string t) := by simp [go_sem]
  have e1 : (w.alloc (.cells #[.string t, .slice A os.length cap] 24)).cell? ⟨w.heap.size, 1, none⟩ = some (.slice A os.length cap) := by simp [go_sem]
  have ef0 : (w.alloc (.cells #[.string t, .slice A os.length cap] 24)).frozen? ⟨w.heap.size, 0, none⟩ = false := by simp [go_sem]
  have ef1 : (w.alloc (.cells #[.string t, .slice A os.length cap] 24)).frozen? ⟨w.heap.size, 1, none⟩ = false := by simp [go_sem]
  have hlt0 : w.heap.size < (w.alloc (.cells #[.string t, .slice A os.length cap] 24)).heap.size := by simp
  have E0 := Lib.hid e0; have E1 := Lib.hid e1; have EF0 := Lib.hid ef0; have EF1 := Lib.hid ef1; have B0 := Lib.hid b0; have LT0 := Lib.hid hlt0
  have hol0 : Hid (os.length ≤ cap) := hc
  clear hr hc hrp hqs hN hMp hcp e0 e1 ef0 ef1 b0 hlt0
  unfold progV
  go_enter Try.func3, Try.ntmps3
  go_upto_region 5 with (first
    | (go_at_call 7; with_reducible refine (HBg.out _).mono ?_; rintro e w1 ⟨rfl, b1⟩; have BA := Lib.hid (B0.out.trans (b1.mono (Nat.le_of_lt LT0.out))); have LT1 := Lib.hid (Nat.lt_of_lt_of_le LT0.out b1.size); have x0 := (b1.cell (p := ⟨w.heap.size, 0, none⟩) LT0.out).trans E0.out; have x1 := (b1.cell (p := ⟨w.heap.size, 1, none⟩) LT0.out).trans E1.out; have XF0 := Lib.hid ((b1.frozen (p := ⟨w.heap.size, 0, none⟩) LT0.out).trans EF0.out); have XF1 := Lib.hid ((b1.frozen (p := ⟨w.heap.size, 1, none⟩) LT0.out).trans EF1.out); clear b1)
    | (go_at_call 8; with_reducible refine (HCu.out _).mono ?_; rintro e w2 ⟨u, os1, hu, hos, rfl, b2⟩; replace BA := Lib.hid (BA.out.trans (b2.mono (Nat.le_of_lt LT1.out))); replace x0 := (b2.cell (p := ⟨w.heap.size, 0, none⟩) LT1.out).trans x0; replace x1 := (b2.cell (p := ⟨w.heap.size, 1, none⟩) LT1.out).trans x1; replace XF0 := Lib.hid ((b2.frozen (p := ⟨w.heap.size, 0, none⟩) LT1.out).trans XF0.out); replace XF1 := Lib.hid ((b2.frozen (p := ⟨w.heap.size, 1, none⟩) LT1.out).trans XF1.out); replace LT1 := Lib.hid (Nat.lt_of_lt_of_le LT1.out b2.size); clear b2)
    | (go_at_call 9; with_reducible refine (HPr.out _ BA.out.size (HRP.out.below BA.out)).mono ?_; rintro e w3 ⟨PX, px, rfl, hx, hpx, hpm, b3⟩; have LO := LT1; replace BA := Lib.hid (BA.out.trans (b3.mono (Nat.le_of_lt LT1.out))); replace x0 := (b3.cell (p := ⟨w.heap.size, 0, none⟩) LT1.out).trans x0; replace x1 := (b3.cell (p := ⟨w.heap.size, 1, none⟩) LT1.out).trans x1; replace XF0 := Lib.hid ((b3.frozen (p := ⟨w.heap.size, 0, none⟩) LT1.out).trans XF0.out); replace XF1 := Lib.hid ((b3.frozen (p := ⟨w.heap.size, 1, none⟩) LT1.out).trans XF1.out); replace LT1 := Lib.hid (Nat.lt_of_lt_of_le LT1.out b3.size); have HX := Lib.hid hx; clear b3 hx; have xf0 := XF0.out; have xf1 := XF1.out))
  obtain ⟨z0, z1, bst, hst⟩ := stored2 (w := w3) (u := .string u) (v := .slice A os1.length cap) x0 x1 w.heap.size (Nat.le_refl _)
  obtain ⟨W3, hW3⟩ : ∃ W3, W3 = (w3.setCell ⟨w.heap.size, 0, none⟩ (.string u)).setCell ⟨w.heap.size, 1, none⟩ (.slice A os1.length cap) := ⟨_, rfl⟩
  rw [← hW3] at z0 z1 bst hst
  rw [← hW3]
  have hb3 : Below w.heap.size w W3 := BA.out.trans bst
  have hs3 : w.heap.size < W3.heap.size := by have := LT1.out; omega
  have HUT : Hid (u.size ≤ 1000000) := by show _ ≤ _; rw [hu.out]; exact Nat.le_trans (cutT_size _) (by omega)
  have HUT2 : Hid (u.size ≤ 549755813888) := Nat.le_trans HUT.out (by omega)
  obtain ⟨n, hn⟩ : ∃ n, os1.length = n := ⟨_, rfl⟩
  have HNL := Lib.hid hn
  have HOL : Hid (n ≤ cap) := by show _ ≤ _; rw [← hn, hos.out, List.length_take]; have := hol0.out; omega
  rw [hn] at z1 hW3 ⊢
  have HRO : Hid (RO W3 w.heap.size A os1) := by rw [hos.out]; exact (HR.out.below hb3).take 64
  have HRQ : Hid (RP W3 W3.heap.size PX qs) := by
    have h1 := ((HX.out.set ⟨w.heap.size, 0, none⟩ (.string u) (Nat.le_refl _) LO.out).set ⟨w.heap.size, 1, none⟩ (.slice A n cap) (Nat.le_refl _) LO.out)
    rw [← hW3] at h1
    exact (h1.rp (by have := LT1.out; omega)).more (by omega)
  have HK : Hid (∀ W, Below W3.heap.size W3 W → W.cell? ⟨w.heap.size, 0, none⟩ = some (.string u) ∧ W.cell? ⟨w.heap.size, 1, none⟩ = some (.slice A n cap)) := fun W hb => ⟨(hb.cell (p := ⟨w.heap.size, 0, none⟩) hs3).trans z0, (hb.cell (p := ⟨w.heap.size, 1, none⟩) hs3).trans z1⟩
  have HB3 := Lib.hid hb3; have HM := Lib.hid hm; have HS3 := Lib.hid hs3
  clear hW3 bst hst hb3 hn x0 x1 xf0 xf1 HX XF0 XF1 BA LT1 B0 LT0 E0 E1 EF0 EF1 HBg HCu HPr HR hm
  by_cases hneg : fr < 0
  · go_wp2_with fail
    go_ret
    exact ⟨rfl, HB3.out⟩
  by_cases hbig : (100000 : Int) < fr
  · have hng : ¬ fr < 0 := hneg
    go_wp2_with fail
    go_ret
    exact ⟨rfl, HB3.out⟩
  have HRG : Hid (RG W3 W3.heap.size AL l) := (HRL.out.below HB3.out).more (Nat.le_of_lt HS3.out)
  have HFR : Hid (0 ≤ fr ∧ fr ≤ 100000) := ⟨by omega, by omega⟩
  go_wp2_with fail
  refine (HOf.out _ HRG.out).mono ?_
  rintro e w4 ⟨rfl, b4⟩
  have hs4 : Hid (W3.heap.size ≤ w4.heap.size) := b4.size
  have HB4 := Lib.hid b4
  have GN4 := Lib.hid (GA.new w4 31 (zG 32))
  have HGL := Lib.hid HGM.out.1
  have HGZ := Lib.hid (gam_len HGM.out)
  clear HRG HOf HRL b4
  go_upto_region 8 with (with_reducible refine wpList_store_g rfl 31 (.tmp 10) (.tmp 27) rfl w4.heap.size (by with_unfolding_all rfl) 31 (zG 32) g GN4.out (by with_unfolding_all rfl) HGZ.out (by rw [HGL.out]; exact infoState) ?_; intro w5 G5 S5 R5; have HG5 := Lib.hid G5; have HR5 := Lib.hid R5; clear G5 S5 R5)
  have b45 : Below w4.heap.size w4 w5 := ((Below.refl _ _).alloc (Nat.le_refl _) _).grown HR5.out (by simp) (by simp)
  have HB5 : Hid (Below W3.heap.size W3 w5) := HB4.out.trans (b45.mono hs4.out)
  obtain ⟨Y, hY⟩ : ∃ Y, w4.heap.size = Y := ⟨_, rfl⟩
  rw [hY] at HG5 ⊢
  obtain ⟨G, hG⟩ : ∃ G, fdN u os1 fr qs g N = G := ⟨_, rfl⟩
  have hgm : gam G := by rw [← hG]; exact fdN_gam HGM.out _
  have HGm := Lib.hid hgm.1
  have HSK : Hid (∀ wx, Below w5.heap.size w5 wx → (wx.cell? ⟨w.heap.size, 0, none⟩ = some (.string u) ∧ wx.cell? ⟨w.heap.size, 1, none⟩ = some (.slice A n cap) ∧ GA wx Y 31 g)) := fun wx hb => by
    have h := HK.out wx (HB5.out.trans (hb.mono HB5.out.size))
    exact ⟨h.1, h.2, HG5.out.below hb HG5.out.lt⟩
  have HF1 : Hid (∀ wx, Below w5.heap.size w5 wx → Calls Try.prog 11 #[.agg #[.string u, .slice A n cap], .agg (gC g), .int .i64 fr, .slice PX N px] wx fun e w' => e = .returned (.agg (gC G)) ∧ Below wx.heap.size wx w') := fun wx hb5 => by
    have hb : Below W3.heap.size W3 wx := HB5.out.trans (hb5.mono HB5.out.size)
    exact from_any wx g u os1 n HNL.out A cap w.heap.size (HRO.out.below (hb.mono (Nat.le_of_lt HS3.out))) (Nat.le_trans (Nat.le_of_lt HS3.out) hb.size) HOL.out HM.out HUT2.out HGM.out PX qs N px HN.out (HRQ.out.then_ (Nat.le_refl _) hb) (by omega) fr HFR.out.1 (by have := HFR.out.2; omega) G hG
  have HF2 : Hid (∀ wx, Below w5.heap.size w5 wx → Calls Try.prog 12 #[.agg #[.string u, .slice A n cap], .agg (gC g), .int .i64 fr, .slice PX N px] wx fun e w' => e = .returned (.agg (gC G)) ∧ Below wx.heap.size wx w') := fun wx hb5 => by
    have hb : Below W3.heap.size W3 wx := HB5.out.trans (hb5.mono HB5.out.size)
    exact rfold_any wx g u os1 n HNL.out A cap w.heap.size (HRO.out.below (hb.mono (Nat.le_of_lt HS3.out))) (Nat.le_trans (Nat.le_of_lt HS3.out) hb.size) HOL.out HM.out HUT.out HGM.out PX qs N px HN.out (HRQ.out.then_ (Nat.le_refl _) hb) (by omega) fr HFR.out.1 (by have := HFR.out.2; omega) G hG
  have hB0 : Hid (Below w5.heap.size w5 w5.drew) := (Below.refl _ _).drew
  have heq := eq_game G hgm.1
  have hgd := guardGame20
  clear hY hG hgm b45 z0 z1 hs3 HRP HMP HR5 GN4 hneg hbig
  refine wp_region_held_drew (S := (fun w' => w'.cell? ⟨w.heap.size, 0, none⟩ = some (.string u) ∧ w'.cell? ⟨w.heap.size, 1, none⟩ = some (.slice A n cap) ∧ GA w' Y 31 g)) (by kernel_rfl) (HSK.out _ hB0.out) (fun hHeld => ?_)
  refine held_take (i := 0) (v := ?_) rfl (by kernel_rfl) (by kernel_rfl) (by kernel_rfl) (fun _ _ _ h => h) (by rfl) hHeld ?_ ?_
  rotate_left 1
  · (intro w hSw; (try dsimp only at hSw); go_simp; try (with_reducible rfl))
  try simp only [Act.put, List.setIfInBounds_toArray, List.set_cons_zero, List.set_cons_succ]
  refine held_take (i := 1) (v := .agg (gC g)) rfl (by kernel_rfl) (by kernel_rfl) (by kernel_rfl) (fun _ _ _ h => h) (by rfl) hHeld (exec_load_g _ _ rfl Y (by rfl) 31 g (fun w h => h.2.2) Try.underlying31 (by rw [HGL.out]; exact infoState)) ?_
  try simp only [Act.put, List.setIfInBounds_toArray, List.set_cons_zero, List.set_cons_succ]
  refine held_take (i := 2) (v := ?_) rfl (by kernel_rfl) (by kernel_rfl) (by kernel_rfl) (fun _ _ _ h => h) (by rfl) hHeld ?_ ?_
  rotate_left 1
  · (intro w hSw; (try dsimp only at hSw); go_simp; try (with_reducible rfl))
  try simp only [Act.put, List.setIfInBounds_toArray, List.set_cons_zero, List.set_cons_succ]
  refine held_take (i := 3) (v := ?_) rfl (by kernel_rfl) (by kernel_rfl) (by kernel_rfl) (fun _ _ _ h => h) (by rfl) hHeld ?_ ?_
  rotate_left 1
  · (intro w hSw; (try dsimp only at hSw); go_simp; try (with_reducible rfl))
  try simp only [Act.put, List.setIfInBounds_toArray, List.set_cons_zero, List.set_cons_succ]
  refine held_take (i := 5) (v := ?_) rfl (by kernel_rfl) (by kernel_rfl) (by kernel_rfl) (fun _ _ _ h => h) (by rfl) hHeld ?_ ?_
  rotate_left 1
  · (intro w hSw; (try dsimp only at hSw); go_simp; try (with_reducible rfl))
  try simp only [Act.put, List.setIfInBounds_toArray, List.set_cons_zero, List.set_cons_succ]
  refine held_take (i := 6) (v := .agg (gC g)) rfl (by kernel_rfl) (by kernel_rfl) (by kernel_rfl) (fun _ _ _ h => h) (by rfl) hHeld (exec_load_g _ _ rfl Y (by rfl) 31 g (fun w h => h.2.2) Try.underlying31 (by rw [HGL.out]; exact infoState)) ?_
  try simp only [Act.put, List.setIfInBounds_toArray, List.set_cons_zero, List.set_cons_succ]
  refine held_take (i := 7) (v := ?_) rfl (by kernel_rfl) (by kernel_rfl) (by kernel_rfl) (fun _ _ _ h => h) (by rfl) hHeld ?_ ?_
  rotate_left 1
  · (intro w hSw; (try dsimp only at hSw); go_simp; try (with_reducible rfl))
  try simp only [Act.put, List.setIfInBounds_toArray, List.set_cons_zero, List.set_cons_succ]
  refine held_take (i := 8) (v := ?_) rfl (by kernel_rfl) (by kernel_rfl) (by kernel_rfl) (fun _ _ _ h => h) (by rfl) hHeld ?_ ?_
  rotate_left 1
  · (intro w hSw; (try dsimp only at hSw); go_simp; try (with_reducible rfl))
  try simp only [Act.put, List.setIfInBounds_toArray, List.set_cons_zero, List.set_cons_succ]
  refine held_one (i := 4) rfl (by kernel_rfl) (by rfl) (fun K hK => ?_)
  go_simp
  with_reducible refine (HF1.out _ hB0.out).mono ?_
  rintro e w6 ⟨rfl, hb3⟩
  have hb4 := Lib.hid (hB0.out.trans (hb3.mono hB0.out.size)); clear hb3
  refine hK.out _ _ (HSK.out _ hb4.out) (fun hHeld2 => ?_)
  clear hK K hHeld; have hHeld := hHeld2; clear hHeld2
  try simp only [Act.put, List.setIfInBounds_toArray, List.set_cons_zero, List.set_cons_succ]
  refine held_one (i := 9) rfl (by kernel_rfl) (by rfl) (fun K hK => ?_)
  go_simp
  with_reducible refine (HF2.out _ hb4.out).mono ?_
  rintro e w7 ⟨rfl, hb3⟩
  have hb5 := Lib.hid (hb4.out.trans (hb3.mono hb4.out.size)); clear hb3
  refine hK.out _ _ (HSK.out _ hb5.out) (fun hHeld2 => ?_)
  clear hK K hHeld; have hHeld := hHeld2; clear hHeld2
  try simp only [Act.put, List.setIfInBounds_toArray, List.set_cons_zero, List.set_cons_succ]
  refine held_take (i := 10) (v := ?_) rfl (by kernel_rfl) (by kernel_rfl) (by kernel_rfl) (fun _ _ _ h => h) (by rfl) hHeld ?_ ?_
  rotate_left 1
  · (intro w hSw; (try dsimp only at hSw); go_simp; try (with_reducible rfl))
  try simp only [Act.put, List.setIfInBounds_toArray, List.set_cons_zero, List.set_cons_succ]
  refine wpAnyH_done (by kernel_rfl) ?_ _
  skip
  have hc0 := (HSK.out _ hb5.out).1
  have hc1 := (HSK.out _ hb5.out).2.1
  have HB6 : Hid (Below W3.heap.size W3 w7) := HB5.out.trans (hb5.out.mono HB5.out.size)
  obtain ⟨M1, hM1⟩ : ∃ M, M = N + 1 := ⟨_, rfl⟩
  obtain ⟨F, hF⟩ : ∃ F, fdN u os1 0 qs (zG 32) = F := ⟨_, rfl⟩
  have HF := Lib.hid hF; have HM1 := Lib.hid hM1
  have HE : Hid (Calls Try.prog 13 #[.agg #[.string u, .slice A n cap], .slice PX N px] w7 fun e w' => ∃ X, e = .returned (.slice (some ⟨X, 0, none⟩) M1 M1) ∧ w7.heap.size ≤ X ∧ GS w' X 31 M1 F ∧ Below w7.heap.size w7 w') := by
    have := each_any w7 u os1 n HNL.out A cap w.heap.size (HRO.out.below (HB6.out.mono (Nat.le_of_lt HS3.out))) (Nat.le_trans (Nat.le_of_lt HS3.out) HB6.out.size) HOL.out HM.out HUT2.out PX qs N px HN.out (HRQ.out.then_ (Nat.le_refl _) HB6.out) (by omega) M1 hM1
    rw [hF] at this; exact this
  clear hF heq HSK HF1 HF2
  go_wp2_with fail
  (with_reducible refine HE.out.mono ?_)
  rintro e w8 ⟨X, rfl, hX, gs, b8⟩
  have HGS := Lib.hid gs; have HX := Lib.hid hX
  have HB8 : Hid (Below W3.heap.size W3 w8) := HB6.out.trans (b8.mono HB6.out.size)
  have HALL : Hid (∀ wx, Below w8.heap.size w8 wx → (wx.cell? ⟨w.heap.size, 0, none⟩ = some (.string u) ∧ wx.cell? ⟨w.heap.size, 1, none⟩ = some (.slice A n cap) ∧ GS wx X 31 M1 F) ∧ Below W3.heap.size W3 wx) := fun wx hb => by
    have h3 : Below W3.heap.size W3 wx := HB8.out.trans (hb.mono HB8.out.size)
    have h := HK.out wx h3
    exact ⟨⟨h.1, h.2, HGS.out.below hb HGS.out.lt⟩, h3⟩
  have hm1 : (N : Int) + 1 = (M1 : Int) := by omega
  clear gs hX HE hc0 hc1 b8 hM1
  go_wp2_with fail
  clear hm1
  go_loopw [12] (fun v12 wr => ∃ i : Nat, v12 = .int .i64 (i : Int) ∧ i ≤ M1 ∧ Hid (Below w8.heap.size w8 wr)) (fun v12 _ => M1 - (intOf v12).toNat)
  case atStart => exact ⟨0, rfl, by omega, Below.refl _ _⟩
  case round =>
    obtain ⟨i, rfl, hiN, HBR⟩ := hrel
    obtain ⟨⟨c0, c1, gs⟩, b3⟩ := HALL.out wr HBR.out
    have C0 := Lib.hid c0; have C1 := Lib.hid c1; have HGr := Lib.hid gs; have HB3r := Lib.hid b3
    clear c0 c1 gs b3
    by_cases hlt : i ≤ N
    · have hiz : (i : Int) ≤ (N : Int) := by omega
      have hi1 : (i : Int) < (M1 : Int) := by have := HM1.out; omega
      have hipx : (i : Int) ≤ (px : Int) := by omega
      obtain ⟨g1, hg1⟩ : ∃ g1, F i = g1 := ⟨_, rfl⟩
      have hgm1 : gam g1 := by rw [← hg1, ← HF.out]; exact fdN_gam gam.zero _
      have htk : fdN u os1 0 (qs.take i) (zG 32) i = g1 := by rw [fdN_take u os1 0 qs (zG 32) i i (Nat.le_refl _), HF.out]; exact hg1
      have htl : (qs.take i).length = i := by rw [List.length_take, HN.out]; omega
      have HSK2 : Hid (∀ wx, Below wr.heap.size wr wx → (wx.cell? ⟨w.heap.size, 0, none⟩ = some (.string u) ∧ wx.cell? ⟨w.heap.size, 1, none⟩ = some (.slice A n cap) ∧ GS wx X 31 M1 F)) := fun wx hb => (HALL.out wx (HBR.out.trans (hb.mono HBR.out.size))).1
      have HF3 : Hid (Calls Try.prog 12 #[.agg #[.string u, .slice A n cap], .agg (gC (zG 32)), .int .i64 0, .slice PX i px] wr.drew fun e w' => e = .returned (.agg (gC g1)) ∧ Below wr.drew.heap.size wr.drew w') := by
        have hb : Below W3.heap.size W3 wr.drew := HB3r.out.drew
        exact rfold_any wr.drew (zG 32) u os1 n HNL.out A cap w.heap.size (HRO.out.below (hb.mono (Nat.le_of_lt HS3.out))) (Nat.le_trans (Nat.le_of_lt HS3.out) hb.size) HOL.out HM.out HUT.out gam.zero PX (qs.take i) i px htl ((HRQ.out.take i).then_ (Nat.le_refl _) hb) (by omega) 0 (by omega) (by omega) g1 htk
      have HFi := Lib.hid hg1
      have hks : Hid (i < M1) := by show _ < _; omega
      have hms : Hid (M1 - (i + 1) < M1 - i) := by show _ < _; omega
      have hB0r : Hid (Below wr.heap.size wr wr.drew) := (Below.refl _ _).drew
      have heq := eq_game g1 hgm1.1
      have hzg := zeroGame
      clear hg1 hgm1 htk htl hz
      go_wp2_with fail
      refine wp_region_held_drew (S := (fun w' => w'.cell? ⟨w.heap.size, 0, none⟩ = some (.string u) ∧ w'.cell? ⟨w.heap.size, 1, none⟩ = some (.slice A n cap) ∧ GS w' X 31 M1 F)) (by kernel_rfl) (HSK2.out _ hB0r.out) (fun hHeld => ?_)
      refine held_take (i := 0) (v := ?_) rfl (by kernel_rfl) (by kernel_rfl) (by kernel_rfl) (fun _ _ _ h => h) (by rfl) hHeld ?_ ?_
      rotate_left 1
      · (intro w hSw; (try dsimp only at hSw); go_simp; try (with_reducible rfl))
      try simp only [Act.put, List.setIfInBounds_toArray, List.set_cons_zero, List.set_cons_succ]
      refine held_take (i := 1) (v := ?_) rfl (by kernel_rfl) (by kernel_rfl) (by kernel_rfl) (fun _ _ _ h => h) (by rfl) hHeld ?_ ?_
      rotate_left 1
      · (intro w hSw; (try dsimp only at hSw); go_simp; try (with_reducible rfl))
      try simp only [Act.put, List.setIfInBounds_toArray, List.set_cons_zero, List.set_cons_succ]
      refine held_take (i := 2) (v := ?_) rfl (by kernel_rfl) (by kernel_rfl) (by kernel_rfl) (fun _ _ _ h => h) (by rfl) hHeld ?_ ?_
      rotate_left 1
      · (intro w hSw; (try dsimp only at hSw); go_simp; try (with_reducible rfl))
      try simp only [Act.put, List.setIfInBounds_toArray, List.set_cons_zero, List.set_cons_succ]
      refine held_take (i := 3) (v := .agg (gC g1)) rfl (by kernel_rfl) (by kernel_rfl) (by kernel_rfl) (fun _ _ _ h => h) (by rfl) hHeld (exec_load_gs 31 _ rfl i (by rfl) hks.out g1 (fun w h => ⟨F, h.2.2, HFi.out⟩) Try.underlying31 infoState) ?_
      try simp only [Act.put, List.setIfInBounds_toArray, List.set_cons_zero, List.set_cons_succ]
      refine held_take (i := 4) (v := ?_) rfl (by kernel_rfl) (by kernel_rfl) (by kernel_rfl) (fun _ _ _ h => h) (by rfl) hHeld ?_ ?_
      rotate_left 1
      · (intro w hSw; (try dsimp only at hSw); go_simp; try (with_reducible rfl))
      try simp only [Act.put, List.setIfInBounds_toArray, List.set_cons_zero, List.set_cons_succ]
      refine held_take (i := 5) (v := ?_) rfl (by kernel_rfl) (by kernel_rfl) (by kernel_rfl) (fun _ _ _ h => h) (by rfl) hHeld ?_ ?_
      rotate_left 1
      · (intro w hSw; (try dsimp only at hSw); go_simp; try (with_reducible rfl))
      try simp only [Act.put, List.setIfInBounds_toArray, List.set_cons_zero, List.set_cons_succ]
      refine held_take (i := 6) (v := ?_) rfl (by kernel_rfl) (by kernel_rfl) (by kernel_rfl) (fun _ _ _ h => h) (by rfl) hHeld ?_ ?_
      rotate_left 1
      · (intro w hSw; (try dsimp only at hSw); go_simp; try (with_reducible rfl))
      try simp only [Act.put, List.setIfInBounds_toArray, List.set_cons_zero, List.set_cons_succ]
      refine held_take (i := 7) (v := ?_) rfl (by kernel_rfl) (by kernel_rfl) (by kernel_rfl) (fun _ _ _ h => h) (by rfl) hHeld ?_ ?_
      rotate_left 1
      · (intro w hSw; (try dsimp only at hSw); go_simp; try (with_reducible rfl))
      try simp only [Act.put, List.setIfInBounds_toArray, List.set_cons_zero, List.set_cons_succ]
      refine held_take (i := 8) (v := ?_) rfl (by kernel_rfl) (by kernel_rfl) (by kernel_rfl) (fun _ _ _ h => h) (by rfl) hHeld ?_ ?_
      rotate_left 1
      · (intro w hSw; (try dsimp only at hSw); go_simp; try (with_reducible rfl))
      try simp only [Act.put, List.setIfInBounds_toArray, List.set_cons_zero, List.set_cons_succ]
      refine held_one (i := 9) rfl (by kernel_rfl) (by rfl) (fun K hK => ?_)
      go_simp
      with_reducible refine HF3.out.mono ?_
      rintro e w9 ⟨rfl, hb3⟩
      have hb9 := Lib.hid (hB0r.out.trans (hb3.mono hB0r.out.size)); clear hb3
      refine hK.out _ _ (HSK2.out _ hb9.out) (fun hHeld2 => ?_)
      clear hK K hHeld; have hHeld := hHeld2; clear hHeld2
      try simp only [Act.put, List.setIfInBounds_toArray, List.set_cons_zero, List.set_cons_succ]
      refine held_take (i := 10) (v := ?_) rfl (by kernel_rfl) (by kernel_rfl) (by kernel_rfl) (fun _ _ _ h => h) (by rfl) hHeld ?_ ?_
      rotate_left 1
      · (intro w hSw; (try dsimp only at hSw); go_simp; try (with_reducible rfl))
      try simp only [Act.put, List.setIfInBounds_toArray, List.set_cons_zero, List.set_cons_succ]
      refine wpAnyH_done (by kernel_rfl) ?_ _
      skip
      have HB9 : Hid (Below w8.heap.size w8 w9) := HBR.out.trans (hb9.out.mono HBR.out.size)
      go_wp2
      go_roundw
      case rel => exact ⟨i + 1, by go_num, by have := hks.out; omega, HB9⟩
      case measure => simp [intOf]; have := hms.out; omega
    · have hiz : ¬ (i : Int) ≤ (N : Int) := by omega
      have hn1 : (N : Int) < (M1 : Int) := by have := HM1.out; omega
      obtain ⟨g1, hg1⟩ : ∃ g1, F N = g1 := ⟨_, rfl⟩
      have hgm1 : gam g1 := by rw [← hg1, ← HF.out]; exact fdN_gam gam.zero _
      have HSK2 : Hid (∀ wx, Below wr.heap.size wr wx → (wx.cell? ⟨w.heap.size, 0, none⟩ = some (.string u) ∧ wx.cell? ⟨w.heap.size, 1, none⟩ = some (.slice A n cap) ∧ GS wx X 31 M1 F)) := fun wx hb => (HALL.out wx (HBR.out.trans (hb.mono HBR.out.size))).1
      have HA : Hid (Calls Try.prog 14 #[.agg #[.string u, .slice A n cap], .slice PX N px] wr.drew fun e w' => e = .returned (.agg (gC g1)) ∧ Below wr.drew.heap.size wr.drew w') := by
        have hb : Below W3.heap.size W3 wr.drew := HB3r.out.drew
        exact all_any wr.drew u os1 n HNL.out A cap w.heap.size (HRO.out.below (hb.mono (Nat.le_of_lt HS3.out))) (Nat.le_trans (Nat.le_of_lt HS3.out) hb.size) HOL.out HM.out HUT2.out PX qs N px HN.out (HRQ.out.then_ (Nat.le_refl _) hb) (by omega) g1 (by rw [HF.out]; exact hg1)
      have HFN := Lib.hid hg1
      have hks : Hid (N < M1) := by have := HM1.out; show _ < _; omega
      have hB0r : Hid (Below wr.heap.size wr wr.drew) := (Below.refl _ _).drew
      have heq := eq_game g1 hgm1.1
      clear hg1 hgm1 hz
      go_wp2_with fail
      refine wp_region_held_drew (S := (fun w' => w'.cell? ⟨w.heap.size, 0, none⟩ = some (.string u) ∧ w'.cell? ⟨w.heap.size, 1, none⟩ = some (.slice A n cap) ∧ GS w' X 31 M1 F)) (by kernel_rfl) (HSK2.out _ hB0r.out) (fun hHeld => ?_)
      refine held_take (i := 0) (v := ?_) rfl (by kernel_rfl) (by kernel_rfl) (by kernel_rfl) (fun _ _ _ h => h) (by rfl) hHeld ?_ ?_
      rotate_left 1
      · (intro w hSw; (try dsimp only at hSw); go_simp; try (with_reducible rfl))
      try simp only [Act.put, List.setIfInBounds_toArray, List.set_cons_zero, List.set_cons_succ]
      refine held_take (i := 1) (v := ?_) rfl (by kernel_rfl) (by kernel_rfl) (by kernel_rfl) (fun _ _ _ h => h) (by rfl) hHeld ?_ ?_
      rotate_left 1
      · (intro w hSw; (try dsimp only at hSw); go_simp; try (with_reducible rfl))
      try simp only [Act.put, List.setIfInBounds_toArray, List.set_cons_zero, List.set_cons_succ]
      refine held_take (i := 3) (v := ?_) rfl (by kernel_rfl) (by kernel_rfl) (by kernel_rfl) (fun _ _ _ h => h) (by rfl) hHeld ?_ ?_
      rotate_left 1
      · (intro w hSw; (try dsimp only at hSw); go_simp; try (with_reducible rfl))
      try simp only [Act.put, List.setIfInBounds_toArray, List.set_cons_zero, List.set_cons_succ]
      refine held_take (i := 4) (v := ?_) rfl (by kernel_rfl) (by kernel_rfl) (by kernel_rfl) (fun _ _ _ h => h) (by rfl) hHeld ?_ ?_
      rotate_left 1
      · (intro w hSw; (try dsimp only at hSw); go_simp; try (with_reducible rfl))
      try simp only [Act.put, List.setIfInBounds_toArray, List.set_cons_zero, List.set_cons_succ]
      refine held_take (i := 5) (v := ?_) rfl (by kernel_rfl) (by kernel_rfl) (by kernel_rfl) (fun _ _ _ h => h) (by rfl) hHeld ?_ ?_
      rotate_left 1
      · (intro w hSw; (try dsimp only at hSw); go_simp; try (with_reducible rfl))
      try simp only [Act.put, List.setIfInBounds_toArray, List.set_cons_zero, List.set_cons_succ]
      refine held_take (i := 6) (v := ?_) rfl (by kernel_rfl) (by kernel_rfl) (by kernel_rfl) (fun _ _ _ h => h) (by rfl) hHeld ?_ ?_
      rotate_left 1
      · (intro w hSw; (try dsimp only at hSw); go_simp; try (with_reducible rfl))
      try simp only [Act.put, List.setIfInBounds_toArray, List.set_cons_zero, List.set_cons_succ]
      refine held_take (i := 7) (v := .agg (gC g1)) rfl (by kernel_rfl) (by kernel_rfl) (by kernel_rfl) (fun _ _ _ h => h) (by rfl) hHeld (exec_load_gs 31 _ rfl N (by rfl) hks.out g1 (fun w h => ⟨F, h.2.2, HFN.out⟩) Try.underlying31 infoState) ?_
      try simp only [Act.put, List.setIfInBounds_toArray, List.set_cons_zero, List.set_cons_succ]
      refine held_one (i := 2) rfl (by kernel_rfl) (by rfl) (fun K hK => ?_)
      go_simp
      with_reducible refine HA.out.mono ?_
      rintro e w9 ⟨rfl, hb3⟩
      have hb9 := Lib.hid (hB0r.out.trans (hb3.mono hB0r.out.size)); clear hb3
      refine hK.out _ _ (HSK2.out _ hb9.out) (fun hHeld2 => ?_)
      clear hK K hHeld; have hHeld := hHeld2; clear hHeld2
      try simp only [Act.put, List.setIfInBounds_toArray, List.set_cons_zero, List.set_cons_succ]
      refine held_take (i := 8) (v := ?_) rfl (by kernel_rfl) (by kernel_rfl) (by kernel_rfl) (fun _ _ _ h => h) (by rfl) hHeld ?_ ?_
      rotate_left 1
      · (intro w hSw; (try dsimp only at hSw); go_simp; try (with_reducible rfl))
      try simp only [Act.put, List.setIfInBounds_toArray, List.set_cons_zero, List.set_cons_succ]
      refine held_take (i := 9) (v := ?_) rfl (by kernel_rfl) (by kernel_rfl) (by kernel_rfl) (fun _ _ _ h => h) (by rfl) hHeld ?_ ?_
      rotate_left 1
      · (intro w hSw; (try dsimp only at hSw); go_simp; try (with_reducible rfl))
      try simp only [Act.put, List.setIfInBounds_toArray, List.set_cons_zero, List.set_cons_succ]
      refine wpAnyH_done (by kernel_rfl) ?_ _
      go_wp2
      go_ret
      exact ⟨rfl, HB3.out.trans ((HB3r.out.trans (hb9.out.mono HB3r.out.size)).mono HB3.out.size)⟩
end Go.Proofs.Ytbmhdinaofepdaa
