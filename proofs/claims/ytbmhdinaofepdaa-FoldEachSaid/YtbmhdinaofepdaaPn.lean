/- WALK of the law FoldEach. -/
import Derived.Test.YtbmhdinaofepdaaPg
import Derived.Test.YtbmhdinaofepdaaPk
import Derived.Test.YtbmhdinaofepdaaKo
import Derived.Test.YtbmhdinaofepdaaPi
namespace Go.Proofs.Ytbmhdinaofepdaa
set_option maxRecDepth 100000
open Go.RowKit
set_option linter.unusedVariables false
set_option linter.unusedSimpArgs false

set_option maxHeartbeats 2000000 in
theorem each_law (t : ByteArray) (A : Option Addr) (os : List O4) (cap : Nat) (PA : Option Addr) (ps : List (List UInt8)) (pc : Nat) (w : World)
    (hr : RO w w.heap.size A os) (hc : os.length ≤ cap) (hm : cap ≤ maxLen) (hrp : RP w w.heap.size PA ps) (hcp : ps.length ≤ pc) (hmp : pc ≤ maxLen) :
    Calls Try.prog 5 #[progV t A os.length cap, .slice PA ps.length pc] w fun e w' => e = .returned (.bool true) ∧ Below w.heap.size w w' := by
  have hz := zeroGame
  have HBg := Lib.hid begun20_any
  have HCu : Hid (∀ W, Calls Try.prog 8 #[.agg #[.string t, .slice A os.length cap], .int .i64 64] W fun e w' => ∃ u os', Hid (u = cutT t) ∧ Hid (os' = os.take 64) ∧ e = .returned (.agg #[.string u, .slice A os'.length cap]) ∧ Below W.heap.size W w') := fun W => lcut_named t A os cap 64 64 rfl W (by omega) (by omega) hc hm
  obtain ⟨Mp, hMp⟩ : ∃ M, ps.length = M := ⟨_, rfl⟩
  obtain ⟨qs, hqs⟩ : ∃ q, cutP 12 ps = q := ⟨_, rfl⟩
  obtain ⟨N, hN⟩ : ∃ N, qs.length = N := ⟨_, rfl⟩
  have HPr : Hid (∀ W, w.heap.size ≤ W.heap.size → RP W w.heap.size PA ps → Calls Try.prog 9 #[.slice PA Mp pc, .int .i64 12] W fun e w' => ∃ A' c', e = .returned (.slice A' N c') ∧ RQ w' w.heap.size W.heap.size w'.heap.size A' qs ∧ N ≤ c' ∧ c' ≤ maxLen ∧ Below W.heap.size W w') := fun W hW h => by
    have := presses_any PA ps pc 12 Mp W hMp w.heap.size hW h (by omega) hmp (by omega) N (by rw [hqs]; exact hN) 12 rfl
    rw [hqs] at this; exact this
  have hN12 : N ≤ 12 := by rw [← hN, ← hqs, cutP_len]; omega
  have HRP := Lib.hid hrp
  have HN := Lib.hid hN; have HMP := Lib.hid hMp
  rw [hMp]
  have HR := Lib.hid hr
  have b0 : Below w.heap.size w (w.alloc (.cells #[.string t, .slice A os.length cap] 24)) := (Below.refl _ _).alloc (Nat.le_refl _) _
  have e0 : (w.alloc (.cells #[.string t, .slice A os.length cap] 24)).cell? ⟨w.heap.size, 0, none⟩ = some (.string t) := by simp [go_sem]
  have e1 : (w.alloc (.cells #[.string t, .slice A os.length cap] 24)).cell? ⟨w.heap.size, 1, none⟩ = some (.slice A os.length cap) := by simp [go_sem]
  have ef0 : (w.alloc (.cells #[.string t, .slice A os.length cap] 24)).frozen? ⟨w.heap.size, 0, none⟩ = false := by simp [go_sem]
  have ef1 : (w.alloc (.cells #[.string t, .slice A os.length cap] 24)).frozen? ⟨w.heap.size, 1, none⟩ = false := by simp [go_sem]
  have hlt0 : w.heap.size < (w.alloc (.cells #[.string t, .slice A os.length cap] 24)).heap.size := by simp
  have E0 := Lib.hid e0; have E1 := Lib.hid e1; have EF0 := Lib.hid ef0; have EF1 := Lib.hid ef1; have B0 := Lib.hid b0; have LT0 := Lib.hid hlt0
  have hol0 : Hid (os.length ≤ cap) := hc
  clear hr hc hrp hqs hN hMp hcp e0 e1 ef0 ef1 b0 hlt0
  unfold progV
  go_enter Try.func5, Try.ntmps5
  go_upto_region 5 with (first
    | (go_at_call 7; with_reducible refine (HBg.out _).mono ?_; rintro e w1 ⟨rfl, b1⟩; have BA := Lib.hid (B0.out.trans (b1.mono (Nat.le_of_lt LT0.out))); have LT1 := Lib.hid (Nat.lt_of_lt_of_le LT0.out b1.size); have x0 := (b1.cell (p := ⟨w.heap.size, 0, none⟩) LT0.out).trans E0.out; have x1 := (b1.cell (p := ⟨w.heap.size, 1, none⟩) LT0.out).trans E1.out; have XF0 := Lib.hid ((b1.frozen (p := ⟨w.heap.size, 0, none⟩) LT0.out).trans EF0.out); have XF1 := Lib.hid ((b1.frozen (p := ⟨w.heap.size, 1, none⟩) LT0.out).trans EF1.out); clear b1)
    | (go_at_call 8; with_reducible refine (HCu.out _).mono ?_; rintro e w2 ⟨u, os1, hu, hos, rfl, b2⟩; replace BA := Lib.hid (BA.out.trans (b2.mono (Nat.le_of_lt LT1.out))); replace x0 := (b2.cell (p := ⟨w.heap.size, 0, none⟩) LT1.out).trans x0; replace x1 := (b2.cell (p := ⟨w.heap.size, 1, none⟩) LT1.out).trans x1; replace XF0 := Lib.hid ((b2.frozen (p := ⟨w.heap.size, 0, none⟩) LT1.out).trans XF0.out); replace XF1 := Lib.hid ((b2.frozen (p := ⟨w.heap.size, 1, none⟩) LT1.out).trans XF1.out); replace LT1 := Lib.hid (Nat.lt_of_lt_of_le LT1.out b2.size); clear b2)
    | (go_at_call 9; with_reducible refine (HPr.out _ BA.out.size (HRP.out.below BA.out)).mono ?_; rintro e w3 ⟨PX, px, rfl, hx, hpx, hpm, b3⟩; have LO := LT1; replace BA := Lib.hid (BA.out.trans (b3.mono (Nat.le_of_lt LT1.out))); replace x0 := (b3.cell (p := ⟨w.heap.size, 0, none⟩) LT1.out).trans x0; replace x1 := (b3.cell (p := ⟨w.heap.size, 1, none⟩) LT1.out).trans x1; replace XF0 := Lib.hid ((b3.frozen (p := ⟨w.heap.size, 0, none⟩) LT1.out).trans XF0.out); replace XF1 := Lib.hid ((b3.frozen (p := ⟨w.heap.size, 1, none⟩) LT1.out).trans XF1.out); replace LT1 := Lib.hid (Nat.lt_of_lt_of_le LT1.out b3.size); have HX := Lib.hid hx; clear b3 hx; have xf0 := XF0.out; have xf1 := XF1.out))
  obtain ⟨z0, z1, bst, hst⟩ := stored2 (w := w3) (u := .string u) (v := .slice A os1.length cap) x0 x1 w.heap.size (Nat.le_refl _)
  obtain ⟨W3, hW3⟩ : ∃ W3, W3 = (w3.setCell ⟨w.heap.size, 0, none⟩ (.string u)).setCell ⟨w.heap.size, 1, none⟩ (.slice A os1.length cap) := ⟨_, rfl⟩
  rw [← hW3] at z0 z1 bst hst
  rw [← hW3]
  have hb3 : Below w.heap.size w W3 := BA.out.trans bst
  have hs3 : w.heap.size < W3.heap.size := by have := LT1.out; omega
  have HUT : Hid (u.size ≤ 1000000) := by show _ ≤ _; rw [hu.out]; exact Nat.le_trans (cutT_size _) (by omega)
  have HUT2 : Hid (u.size ≤ 549755813888) := Nat.le_trans HUT.out (by omega)
  obtain ⟨n, hn⟩ : ∃ n, os1.length = n := ⟨_, rfl⟩
  have HNL := Lib.hid hn
  have HOL : Hid (n ≤ cap) := by show _ ≤ _; rw [← hn, hos.out, List.length_take]; have := hol0.out; omega
  rw [hn] at z1 hW3 ⊢
  have HRO : Hid (RO W3 w.heap.size A os1) := by rw [hos.out]; exact (HR.out.below hb3).take 64
  have HRQ : Hid (RP W3 W3.heap.size PX qs) := by
    have h1 := ((HX.out.set ⟨w.heap.size, 0, none⟩ (.string u) (Nat.le_refl _) LO.out).set ⟨w.heap.size, 1, none⟩ (.slice A n cap) (Nat.le_refl _) LO.out)
    rw [← hW3] at h1
    exact (h1.rp (by have := LT1.out; omega)).more (by omega)
  have HK : Hid (∀ W, Below W3.heap.size W3 W → W.cell? ⟨w.heap.size, 0, none⟩ = some (.string u) ∧ W.cell? ⟨w.heap.size, 1, none⟩ = some (.slice A n cap)) := fun W hb => ⟨(hb.cell (p := ⟨w.heap.size, 0, none⟩) hs3).trans z0, (hb.cell (p := ⟨w.heap.size, 1, none⟩) hs3).trans z1⟩
  have HB3 := Lib.hid hb3; have HM := Lib.hid hm; have HS3 := Lib.hid hs3
  clear hW3 bst hst hb3 hn x0 x1 xf0 xf1 HX XF0 XF1 BA LT1 B0 LT0 E0 E1 EF0 EF1 HBg HCu HPr HR hm
  obtain ⟨M1, hM1⟩ : ∃ M, M = N + 1 := ⟨_, rfl⟩
  obtain ⟨F, hF⟩ : ∃ F, fdN u os1 0 qs (zG 32) = F := ⟨_, rfl⟩
  have hF0 : F 0 = zG 32 := by rw [← hF]; rfl
  have HF := Lib.hid hF
  have HE : Hid (Calls Try.prog 13 #[.agg #[.string u, .slice A n cap], .slice PX N px] W3 fun e w' => ∃ X, e = .returned (.slice (some ⟨X, 0, none⟩) M1 M1) ∧ W3.heap.size ≤ X ∧ GS w' X 31 M1 F ∧ Below W3.heap.size W3 w') := by
    have := each_any W3 u os1 n HNL.out A cap w.heap.size HRO.out (Nat.le_of_lt HS3.out) HOL.out HM.out HUT2.out PX qs N px HN.out HRQ.out (by omega) M1 hM1
    rw [hF] at this; exact this
  have HZ := Lib.hid (eq_game (zG 32) (zG_length 32))
  have HF0 := Lib.hid hF0; have HM1 := Lib.hid hM1
  clear hF hF0 hs3 HRP HMP
  go_wp2_with fail
  (with_reducible refine HE.out.mono ?_)
  rintro e w4 ⟨X, rfl, hX, gs, b4⟩
  have HGS := Lib.hid gs; have HB4 := Lib.hid b4; have HX := Lib.hid hX
  have HS4 : Hid (w.heap.size < w4.heap.size) := Nat.lt_of_lt_of_le HS3.out b4.size
  have HALL : Hid (∀ wx, Below w4.heap.size w4 wx → (wx.cell? ⟨w.heap.size, 0, none⟩ = some (.string u) ∧ wx.cell? ⟨w.heap.size, 1, none⟩ = some (.slice A n cap) ∧ GS wx X 31 M1 F) ∧ RO wx wx.heap.size A os1 ∧ RP wx wx.heap.size PX qs ∧ Below w.heap.size w wx) := fun wx hb => by
    have h3 : Below W3.heap.size W3 wx := HB4.out.trans (hb.mono HB4.out.size)
    have h := HK.out wx h3
    exact ⟨⟨h.1, h.2, HGS.out.below hb HGS.out.lt⟩, (HRO.out.below (h3.mono (Nat.le_of_lt HS3.out))).more (by have := h3.size; have := HS3.out; omega), HRQ.out.then_ (Nat.le_refl _) h3, HB3.out.trans (h3.mono HB3.out.size)⟩
  have hm1 : (N : Int) + 1 = (M1 : Int) := by omega
  have h1p : 0 < M1 := by omega
  have h1z : (0 : Int) < (M1 : Int) := by omega
  have HP0 := Lib.hid h1p
  have heq := HZ.out
  have hgd := guardGame20
  clear gs b4 hX HE h1p hM1 z0 z1
  go_upto_region 6 with fail
  go_wp2_with (with_reducible refine wpList_load_gsp (by with_unfolding_all rfl) 31 (.tmp 28) rfl 0 0 rfl (by with_unfolding_all rfl) HP0.out (zG 32) HF0.out HGS.out Try.underlying31 infoState ?_)
  clear heq hm1 h1z
  go_loopw [7, 8, 9] (fun v7 v8 v9 wr => ∃ i : Nat, v7 = .int .i64 (i : Int) ∧ i ≤ N ∧ Hid (Below w4.heap.size w4 wr)) (fun v7 _ _ _ => N - (intOf v7).toNat)
  case atStart => exact ⟨0, rfl, by omega, Below.refl _ _⟩
  case round =>
    obtain ⟨i, rfl, hiN, HBR⟩ := hrel
    obtain ⟨⟨c0, c1, gs⟩, ro, rp, bw⟩ := HALL.out wr HBR.out
    by_cases hlt : i < N
    · have hiz : (i : Int) < (N : Int) := by omega
      have hi1 : (i : Int) < (M1 : Int) := by have := HM1.out; omega
      obtain ⟨q, hqe⟩ : ∃ q, i + 1 = q := ⟨_, rfl⟩
      have hi2 : (q : Int) < (M1 : Int) := by have := HM1.out; omega
      have hwi : IntKind.i64.wrap ((i : Int) + 1) = (q : Int) := by rw [IntKind.wrap_i64]; omega
      have HQ := Lib.hid hqe
      obtain ⟨l, hl⟩ : ∃ l, qs[i]? = some l := ⟨_, List.getElem?_eq_getElem (by rw [HN.out]; exact hlt)⟩
      obtain ⟨L, hL⟩ : ∃ L, l.length = L := ⟨_, rfl⟩
      obtain ⟨pg, off, a, c, hPX, hgB, hq⟩ := rp.at i l hl
      subst hPX
      have hcell := hq.cell
      have hle := hq.le
      rw [hL] at hcell hle
      have hst := fdN_step u os1 0 qs (zG 32) i l (i : Int) hl (by omega)
      have hgm := fdN_gam (t := u) (os := os1) (f := 0) (ps := qs) gam.zero i
      have hgm2 := fdN_gam (t := u) (os := os1) (f := 0) (ps := qs) gam.zero (i + 1)
      rw [HF.out] at hst hgm hgm2
      rw [hqe] at hst hgm2
      obtain ⟨g1, hg1⟩ : ∃ g1, F i = g1 := ⟨_, rfl⟩
      obtain ⟨g2, hg2⟩ : ∃ g2, F q = g2 := ⟨_, rfl⟩
      rw [hg1] at hst hgm
      rw [hg2] at hst hgm2
      obtain ⟨FN, hFN⟩ : ∃ FN : Int, (((frameN ⟨u, (i : Int), l⟩ os1 g1).2 : Nat) : Int) = FN := ⟨_, rfl⟩
      have HSK : Hid (∀ wx, Below wr.heap.size wr wx → (wx.cell? ⟨w.heap.size, 0, none⟩ = some (.string u) ∧ wx.cell? ⟨w.heap.size, 1, none⟩ = some (.slice A n cap) ∧ GS wx X 31 M1 F ∧ wx.cell? ⟨pg, off + i, none⟩ = some (.slice a L c))) := fun wx hb => by
        obtain ⟨⟨d0, d1, g⟩, -, -, -⟩ := HALL.out wx (HBR.out.trans (hb.mono HBR.out.size))
        exact ⟨d0, d1, g, (hb.cell (p := ⟨pg, off + i, none⟩) hgB).trans hcell⟩
      have HST : Hid (∀ wx, Below wr.heap.size wr wx → Calls Try.prog 15 #[.agg #[.string u, .slice A n cap], .agg (gC g1), .int .i64 (i : Int), .slice a L c] wx fun e w' => e = .returned (.tuple #[.agg (gC g2), .int .i64 FN]) ∧ Below wx.heap.size wx w') := fun wx hb => by
        obtain ⟨-, ro, -, -⟩ := HALL.out wx (HBR.out.trans (hb.mono HBR.out.size))
        exact refstep_at wx g1 u i l A os1 n HNL.out cap a c L hL ro HOL.out HM.out HUT.out hgm ((hq.rb.below hb).more hb.size) hle hq.cm g2 FN hst.symm hFN
      have HFi := Lib.hid hg1; have HFq := Lib.hid hg2
      have hz2 := Lib.hid (gam_len hgm2)
      have hl2 := Lib.hid hgm2.1
      have hks : Hid (i < M1) := by show _ < _; omega
      have hks2 : Hid (q < M1) := by show _ < _; omega
      have hms : Hid (N - (i + 1) < N - i) := by show _ < _; omega
      have heq := eq_game g2 hgm2.1
      clear hl hL hq hle hgm hgm2 hst hg1 hg2 hgB hqe hcell c0 c1 gs ro rp bw hFN HS4
      go_upto_region 11 with fail
      go_cut [8, 9] from 40 to 52 (fun s8 s9 wx => ∃ Y, s8 = .pointer (some ⟨Y, 0, none⟩) ∧ Hid (wr.heap.size ≤ Y) ∧ Hid (GA wx Y 33 g2) ∧ Hid (Below wr.heap.size wr wx))
      case first =>
        have hB0_wr : Hid (Below wr.heap.size wr wr.drew) := (Below.refl _ _).drew
        refine wp_region_held_drew (S := (fun w' => w'.cell? ⟨w.heap.size, 0, none⟩ = some (.string u) ∧ w'.cell? ⟨w.heap.size, 1, none⟩ = some (.slice A n cap) ∧ GS w' X 31 M1 F ∧ w'.cell? ⟨pg, off + i, none⟩ = some (.slice a L c))) (by kernel_rfl) (HSK.out _ hB0_wr.out) (fun hHeld => ?_)
        refine held_take (i := 0) (v := ?_) rfl (by kernel_rfl) (by kernel_rfl) (by kernel_rfl) (fun _ _ _ h => h) (by rfl) hHeld ?_ ?_
        rotate_left 1
        · (intro w hSw; (try dsimp only at hSw); go_simp; try (with_reducible rfl))
        try simp only [Act.put, List.setIfInBounds_toArray, List.set_cons_zero, List.set_cons_succ]
        refine held_take (i := 1) (v := ?_) rfl (by kernel_rfl) (by kernel_rfl) (by kernel_rfl) (fun _ _ _ h => h) (by rfl) hHeld ?_ ?_
        rotate_left 1
        · (intro w hSw; (try dsimp only at hSw); go_simp; try (with_reducible rfl))
        try simp only [Act.put, List.setIfInBounds_toArray, List.set_cons_zero, List.set_cons_succ]
        refine held_take (i := 2) (v := ?_) rfl (by kernel_rfl) (by kernel_rfl) (by kernel_rfl) (fun _ _ _ h => h) (by rfl) hHeld ?_ ?_
        rotate_left 1
        · (intro w hSw; (try dsimp only at hSw); go_simp; try (with_reducible rfl))
        try simp only [Act.put, List.setIfInBounds_toArray, List.set_cons_zero, List.set_cons_succ]
        refine held_take (i := 3) (v := ?_) rfl (by kernel_rfl) (by kernel_rfl) (by kernel_rfl) (fun _ _ _ h => h) (by rfl) hHeld ?_ ?_
        rotate_left 1
        · (intro w hSw; (try dsimp only at hSw); go_simp; try (with_reducible rfl))
        try simp only [Act.put, List.setIfInBounds_toArray, List.set_cons_zero, List.set_cons_succ]
        refine held_take (i := 4) (v := .agg (gC g1)) rfl (by kernel_rfl) (by kernel_rfl) (by kernel_rfl) (fun _ _ _ h => h) (by rfl) hHeld (exec_load_gs 31 _ rfl i (by rfl) hks.out g1 (fun w h => ⟨F, h.2.2.1, HFi.out⟩) Try.underlying31 infoState) ?_
        try simp only [Act.put, List.setIfInBounds_toArray, List.set_cons_zero, List.set_cons_succ]
        refine held_take (i := 5) (v := ?_) rfl (by kernel_rfl) (by kernel_rfl) (by kernel_rfl) (fun _ _ _ h => h) (by rfl) hHeld ?_ ?_
        rotate_left 1
        · (intro w hSw; (try dsimp only at hSw); go_simp; try (with_reducible rfl))
        try simp only [Act.put, List.setIfInBounds_toArray, List.set_cons_zero, List.set_cons_succ]
        refine held_take (i := 6) (v := ?_) rfl (by kernel_rfl) (by kernel_rfl) (by kernel_rfl) (fun _ _ _ h => h) (by rfl) hHeld ?_ ?_
        rotate_left 1
        · (intro w hSw; (try dsimp only at hSw); go_simp; try (with_reducible rfl))
        try simp only [Act.put, List.setIfInBounds_toArray, List.set_cons_zero, List.set_cons_succ]
        refine held_take (i := 7) (v := ?_) rfl (by kernel_rfl) (by kernel_rfl) (by kernel_rfl) (fun _ _ _ h => h) (by rfl) hHeld ?_ ?_
        rotate_left 1
        · (intro w hSw; (try dsimp only at hSw); go_simp; try (with_reducible rfl))
        try simp only [Act.put, List.setIfInBounds_toArray, List.set_cons_zero, List.set_cons_succ]
        refine held_take (i := 8) (v := ?_) rfl (by kernel_rfl) (by kernel_rfl) (by kernel_rfl) (fun _ _ _ h => h) (by rfl) hHeld ?_ ?_
        rotate_left 1
        · (intro w hSw; (try dsimp only at hSw); go_simp; try (with_reducible rfl))
        try simp only [Act.put, List.setIfInBounds_toArray, List.set_cons_zero, List.set_cons_succ]
        refine held_take (i := 9) (v := ?_) rfl (by kernel_rfl) (by kernel_rfl) (by kernel_rfl) (fun _ _ _ h => h) (by rfl) hHeld ?_ ?_
        rotate_left 1
        · (intro w hSw; (try dsimp only at hSw); go_simp; try (with_reducible rfl))
        try simp only [Act.put, List.setIfInBounds_toArray, List.set_cons_zero, List.set_cons_succ]
        refine held_two (i := 10) (j := 14) rfl rfl (by kernel_rfl) (by rfl) (by rfl) (fun K hK => ?_) (fun K hK => ?_)
        · go_simp
          with_reducible refine (HST.out _ hB0_wr.out).mono ?_
          rintro e w3 ⟨rfl, hb3⟩
          have hb4 := Lib.hid (hB0_wr.out.trans (hb3.mono hB0_wr.out.size)); clear hb3
          refine hK.out _ _ (HSK.out _ hb4.out) (fun hHeld2 => ?_)
          clear hK K hHeld; have hHeld := hHeld2; clear hHeld2
          try simp only [Act.put, List.setIfInBounds_toArray, List.set_cons_zero, List.set_cons_succ]
          refine held_take (i := 11) (v := ?_) rfl (by kernel_rfl) (by kernel_rfl) (by kernel_rfl) (fun _ _ _ h => h) (by rfl) hHeld ?_ ?_
          rotate_left 1
          · (intro w hSw; (try dsimp only at hSw); go_simp; try (with_reducible rfl))
          try simp only [Act.put, List.setIfInBounds_toArray, List.set_cons_zero, List.set_cons_succ]
          refine held_take (i := 12) (v := ?_) rfl (by kernel_rfl) (by kernel_rfl) (by kernel_rfl) (fun _ _ _ h => h) (by rfl) hHeld ?_ ?_
          rotate_left 1
          · (intro w hSw; (try dsimp only at hSw); go_simp; try (with_reducible rfl))
          try simp only [Act.put, List.setIfInBounds_toArray, List.set_cons_zero, List.set_cons_succ]
          refine held_take (i := 13) (v := ?_) rfl (by kernel_rfl) (by kernel_rfl) (by kernel_rfl) (fun _ _ _ h => h) (by rfl) hHeld ?_ ?_
          rotate_left 1
          · (intro w hSw; (try dsimp only at hSw); go_simp; try (with_reducible rfl))
          try simp only [Act.put, List.setIfInBounds_toArray, List.set_cons_zero, List.set_cons_succ]
          refine held_one (i := 14) rfl (by kernel_rfl) (by rfl) (fun K hK => ?_)
          go_simp
          have hB2 : Hid (Below wr.heap.size wr (w3.alloc (.cells (gC (zG 32)) 33))) := hb4.out.alloc hb4.out.size _
          have GX : Hid (GA (w3.alloc (.cells (gC (zG 32)) 33)) w3.heap.size 33 (zG 32)) := GA.new _ _ _
          have hX : Hid (wr.heap.size ≤ w3.heap.size) := hb4.out.size
          refine hK.out _ _ (HSK.out _ hB2.out) (fun hHeld2 => ?_)
          clear hK K hHeld; have hHeld := hHeld2; clear hHeld2
          try simp only [Act.put, List.setIfInBounds_toArray, List.set_cons_zero, List.set_cons_succ]
          refine held_one (i := 15) rfl (by kernel_rfl) (by rfl) (fun K hK => ?_)
          refine wp_store_g 33 (.tmp 8) (.tmp 51) rfl w3.heap.size (by rfl) 33 (zG 32) g2 GX.out (by rfl) hz2.out (by rw [hl2.out]; exact infoGame) ?_; intro w7 G7 S7 R7; have hb7 : Hid (Below wr.heap.size wr w7) := hB2.out.grown R7 hB2.out.size (fun k e => by have := Option.some.inj e; have := hX.out; omega)
          refine hK.out _ _ (HSK.out _ hb7.out) (fun hHeld2 => ?_)
          clear hK K hHeld; have hHeld := hHeld2; clear hHeld2
          try simp only [Act.put, List.setIfInBounds_toArray, List.set_cons_zero, List.set_cons_succ]
          refine held_take (i := 16) (v := ?_) rfl (by kernel_rfl) (by kernel_rfl) (by kernel_rfl) (fun _ _ _ h => h) (by rfl) hHeld ?_ ?_
          rotate_left 1
          · (intro w hSw; (try dsimp only at hSw); go_simp; try (with_reducible rfl))
          try simp only [Act.put, List.setIfInBounds_toArray, List.set_cons_zero, List.set_cons_succ]
          refine wpAnyH_done (by kernel_rfl) ?_ _
          skip
          go_wp2
          go_meet
          exact ⟨_, rfl, hX, Lib.hid G7, hb7⟩
        · go_simp
          have hB2 : Hid (Below wr.heap.size wr (wr.drew.alloc (.cells (gC (zG 32)) 33))) := hB0_wr.out.alloc hB0_wr.out.size _
          have GX : Hid (GA (wr.drew.alloc (.cells (gC (zG 32)) 33)) wr.drew.heap.size 33 (zG 32)) := GA.new _ _ _
          have hX : Hid (wr.heap.size ≤ wr.drew.heap.size) := hB0_wr.out.size
          refine hK.out _ _ (HSK.out _ hB2.out) (fun hHeld2 => ?_)
          clear hK K hHeld; have hHeld := hHeld2; clear hHeld2
          try simp only [Act.put, List.setIfInBounds_toArray, List.set_cons_zero, List.set_cons_succ]
          refine held_one (i := 10) rfl (by kernel_rfl) (by rfl) (fun K hK => ?_)
          go_simp
          have hB2d : Hid (Below wr.heap.size wr (wr.alloc (.cells (gC (zG 32)) 33)).drew) := hB2.out
          with_reducible refine (HST.out (wr.alloc (.cells (gC (zG 32)) 33)).drew hB2d.out).mono ?_
          rintro e w3 ⟨rfl, hb3⟩
          have hb3x := Lib.hid hb3
          have hb4 := Lib.hid (hB2.out.trans (hb3.mono hB2.out.size)); clear hb3
          refine hK.out _ _ (HSK.out _ hb4.out) (fun hHeld2 => ?_)
          clear hK K hHeld; have hHeld := hHeld2; clear hHeld2
          try simp only [Act.put, List.setIfInBounds_toArray, List.set_cons_zero, List.set_cons_succ]
          refine held_take (i := 11) (v := ?_) rfl (by kernel_rfl) (by kernel_rfl) (by kernel_rfl) (fun _ _ _ h => h) (by rfl) hHeld ?_ ?_
          rotate_left 1
          · (intro w hSw; (try dsimp only at hSw); go_simp; try (with_reducible rfl))
          try simp only [Act.put, List.setIfInBounds_toArray, List.set_cons_zero, List.set_cons_succ]
          refine held_take (i := 12) (v := ?_) rfl (by kernel_rfl) (by kernel_rfl) (by kernel_rfl) (fun _ _ _ h => h) (by rfl) hHeld ?_ ?_
          rotate_left 1
          · (intro w hSw; (try dsimp only at hSw); go_simp; try (with_reducible rfl))
          try simp only [Act.put, List.setIfInBounds_toArray, List.set_cons_zero, List.set_cons_succ]
          refine held_take (i := 13) (v := ?_) rfl (by kernel_rfl) (by kernel_rfl) (by kernel_rfl) (fun _ _ _ h => h) (by rfl) hHeld ?_ ?_
          rotate_left 1
          · (intro w hSw; (try dsimp only at hSw); go_simp; try (with_reducible rfl))
          try simp only [Act.put, List.setIfInBounds_toArray, List.set_cons_zero, List.set_cons_succ]
          refine held_one (i := 15) rfl (by kernel_rfl) (by rfl) (fun K hK => ?_)
          have GY := Lib.hid (GX.out.below hb3x.out (by show wr.heap.size < (wr.alloc _).heap.size; rw [World.size_alloc]; exact Nat.lt_succ_self _))
          refine wp_store_g 33 (.tmp 8) (.tmp 51) rfl wr.drew.heap.size (by rfl) 33 (zG 32) g2 GY.out (by rfl) hz2.out (by rw [hl2.out]; exact infoGame) ?_; intro w7 G7 S7 R7; have hb7 : Hid (Below wr.heap.size wr w7) := hb4.out.grown R7 hb4.out.size (fun k e => by have := Option.some.inj e; have := hX.out; omega)
          refine hK.out _ _ (HSK.out _ hb7.out) (fun hHeld2 => ?_)
          clear hK K hHeld; have hHeld := hHeld2; clear hHeld2
          try simp only [Act.put, List.setIfInBounds_toArray, List.set_cons_zero, List.set_cons_succ]
          refine held_take (i := 16) (v := ?_) rfl (by kernel_rfl) (by kernel_rfl) (by kernel_rfl) (fun _ _ _ h => h) (by rfl) hHeld ?_ ?_
          rotate_left 1
          · (intro w hSw; (try dsimp only at hSw); go_simp; try (with_reducible rfl))
          try simp only [Act.put, List.setIfInBounds_toArray, List.set_cons_zero, List.set_cons_succ]
          refine wpAnyH_done (by kernel_rfl) ?_ _
          skip
          go_wp2
          go_meet
          exact ⟨_, rfl, hX, Lib.hid G7, hb7⟩
      case rest =>
        obtain ⟨Y, rfl, hY, GY, hBY⟩ := hcut
        have HG2 : Hid (GS wc X 31 M1 F) := (HSK.out wc hBY.out).2.2.1
        have HB5 : Hid (Below w4.heap.size w4 wc) := HBR.out.trans (hBY.out.mono HBR.out.size)
        clear HST HSK hz
        go_wp2_with fail
        refine wp_region_held_drew (S := (fun w' => GA w' Y 33 g2 ∧ GS w' X 31 M1 F)) (by kernel_rfl) (⟨GY.out.drew, HG2.out.drew⟩) (fun hHeld => ?_)
        refine held_take (i := 0) (v := .agg (gC g2)) rfl (by kernel_rfl) (by kernel_rfl) (by kernel_rfl) (fun _ _ _ h => h) (by rfl) hHeld (exec_load_g _ _ rfl Y (by rfl) 33 g2 (fun w h => h.1) Try.underlying33 (by rw [hl2.out]; exact infoGame)) ?_
        try simp only [Act.put, List.setIfInBounds_toArray, List.set_cons_zero, List.set_cons_succ]
        refine held_take (i := 1) (v := ?_) rfl (by kernel_rfl) (by kernel_rfl) (by kernel_rfl) (fun _ _ _ h => h) (by rfl) hHeld ?_ ?_
        rotate_left 1
        · (intro w hSw; (try dsimp only at hSw); go_simp; try (with_reducible rfl))
        try simp only [Act.put, List.setIfInBounds_toArray, List.set_cons_zero, List.set_cons_succ]
        refine held_take (i := 2) (v := ?_) rfl (by kernel_rfl) (by kernel_rfl) (by kernel_rfl) (fun _ _ _ h => h) (by rfl) hHeld ?_ ?_
        rotate_left 1
        · (intro w hSw; (try dsimp only at hSw); go_simp; try (with_reducible rfl))
        try simp only [Act.put, List.setIfInBounds_toArray, List.set_cons_zero, List.set_cons_succ]
        refine held_take (i := 3) (v := ?_) rfl (by kernel_rfl) (by kernel_rfl) (by kernel_rfl) (fun _ _ _ h => h) (by rfl) hHeld ?_ ?_
        rotate_left 1
        · (intro w hSw; (try dsimp only at hSw); go_simp; try (with_reducible rfl))
        try simp only [Act.put, List.setIfInBounds_toArray, List.set_cons_zero, List.set_cons_succ]
        refine held_take (i := 4) (v := ?_) rfl (by kernel_rfl) (by kernel_rfl) (by kernel_rfl) (fun _ _ _ h => h) (by rfl) hHeld ?_ ?_
        rotate_left 1
        · (intro w hSw; (try dsimp only at hSw); go_simp; try (with_reducible rfl))
        try simp only [Act.put, List.setIfInBounds_toArray, List.set_cons_zero, List.set_cons_succ]
        refine held_take (i := 5) (v := .agg (gC g2)) rfl (by kernel_rfl) (by kernel_rfl) (by kernel_rfl) (fun _ _ _ h => h) (by rfl) hHeld (exec_load_gs 31 _ rfl q (by rfl) hks2.out g2 (fun w h => ⟨F, h.2, HFq.out⟩) Try.underlying31 infoState) ?_
        try simp only [Act.put, List.setIfInBounds_toArray, List.set_cons_zero, List.set_cons_succ]
        refine held_take (i := 6) (v := ?_) rfl (by kernel_rfl) (by kernel_rfl) (by kernel_rfl) (fun _ _ _ h => h) (by rfl) hHeld ?_ ?_
        rotate_left 1
        · (intro w hSw; (try dsimp only at hSw); go_simp; try (with_reducible rfl))
        try simp only [Act.put, List.setIfInBounds_toArray, List.set_cons_zero, List.set_cons_succ]
        refine wpAnyH_done (by kernel_rfl) ?_ _
        go_wp2
        go_roundw
        case rel => exact ⟨q, by go_num, by have := HQ.out; omega, HB5.out.drew⟩
        case measure => simp [intOf]; have := hms.out; have := HQ.out; omega
    · have hiz : ¬ (i : Int) < (N : Int) := by omega
      have HBW := Lib.hid bw
      clear c0 c1 gs ro rp bw
      go_wp2_with fail
      go_ret
      exact ⟨rfl, HBW.out⟩
end Go.Proofs.Ytbmhdinaofepdaa
