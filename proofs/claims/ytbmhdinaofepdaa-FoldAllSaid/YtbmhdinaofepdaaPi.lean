/- WALKS over package quintainref1: Fold. -/
import Derived.Test.YtbmhdinaofepdaaPh
import Derived.Test.YtbmhdinaofepdaaMo
import Derived.Test.YtbmhdinaofepdaaKr
namespace Go.Proofs.Ytbmhdinaofepdaa
set_option maxRecDepth 100000
open Go.RowKit
set_option linter.unusedVariables false
set_option linter.unusedSimpArgs false

theorem refstep_at (w : World) (g : List Int) (t : ByteArray) (z : Int) (l : List UInt8) (A : Option Addr) (os : List O4) (n : Nat) (hn : os.length = n) (cap : Nat) (a : Option Addr) (c L : Nat) (hL : l.length = L) (hr : RO w w.heap.size A os) (hc : n ≤ cap) (hm : cap ≤ maxLen) (ht : t.size ≤ 1000000)
    (hg : gam g) (hl : RB w w.heap.size a l) (hpl : L ≤ c) (hpm : c ≤ maxLen) (g' : List Int) (N : Int) (hg' : (frameN ⟨t, z, l⟩ os g).1 = g') (hN : (((frameN ⟨t, z, l⟩ os g).2 : Nat) : Int) = N) :
    Calls Try.prog 15 #[.agg #[.string t, .slice A n cap], .agg (gC g), .int .i64 z, .slice a L c] w fun e w' => e = .returned (.tuple #[.agg (gC g'), .int .i64 N]) ∧ Below w.heap.size w w' := by
  subst hn hL hg' hN
  exact refstep_any w g ⟨t, z, l⟩ A os cap a c hr hc hm ht hg hl hpl hpm
set_option maxHeartbeats 400000 in
theorem rfold_any (w : World) (g : List Int) (t : ByteArray) (os : List O4) (n : Nat) (hn : os.length = n) (A : Option Addr) (cap B : Nat) (hr : RO w B A os) (hB : B ≤ w.heap.size) (hc : n ≤ cap) (hm : cap ≤ maxLen) (ht : t.size ≤ 1000000)
    (hg : gam g) (PA : Option Addr) (ps : List (List UInt8)) (M pc : Nat) (hM : ps.length = M) (hp : RP w w.heap.size PA ps) (hM12 : M ≤ 1000) (f : Int) (f0 : 0 ≤ f) (f1 : f ≤ 1000000) (G : List Int) (hG : fdN t os f ps g M = G) :
    Calls Try.prog 12 #[.agg #[.string t, .slice A n cap], .agg (gC g), .int .i64 f, .slice PA M pc] w fun e w' => e = .returned (.agg (gC G)) ∧ Below w.heap.size w w' := by
  have hz := zeroGame
  have HR := Lib.hid hr; have HP := Lib.hid hp; have HGM := Lib.hid hg; have HM := Lib.hid hM; have HN := Lib.hid hn; have HG := Lib.hid hG; have HB := Lib.hid hB
  have hc' := Lib.hid hc; have hm' := Lib.hid hm; have ht' := Lib.hid ht
  have HF0 := Lib.hid (FS.start w t A n cap 33 g)
  obtain ⟨W0, hW0⟩ : ∃ W0, (((w.alloc (.cells #[.string t, .slice A n cap] 24)).alloc (.cells (gC g) 33)).alloc (.cells (gC (zG 32)) 33)) = W0 := ⟨_, rfl⟩
  have HW0 := Lib.hid hW0
  rw [hW0] at HF0
  clear hr hp hg hM hn hG hB hc hm ht hW0
  go_enter Try.func12, Try.ntmps12
  go_wp2_with fail
  rw [HW0.out]
  go_loopw [9, 10, 11] (fun v9 v10 v11 wr => ∃ i : Nat, v9 = .int .i64 (i : Int) ∧ i ≤ M ∧ Hid (FS w wr t A n cap 33 (fdN t os f ps g i))) (fun v9 _ _ _ => M - (intOf v9).toNat)
  case atStart => exact ⟨0, rfl, by omega, HF0⟩
  case round =>
    obtain ⟨i, rfl, hiM, HFS⟩ := hrel
    clear HF0 HW0
    by_cases hlt : i < M
    · have hiz : (i : Int) < (M : Int) := by omega
      obtain ⟨l, hl⟩ : ∃ l, ps[i]? = some l := ⟨_, List.getElem?_eq_getElem (by rw [HM.out]; exact hlt)⟩
      obtain ⟨L, hL⟩ : ∃ L, l.length = L := ⟨_, rfl⟩
      obtain ⟨pg, off, a, c, rfl, hgB, hq⟩ := (HP.out.below HFS.out.be).at i l hl
      have hcell := hq.cell
      have hle := hq.le
      rw [hL] at hcell hle
      obtain ⟨z, hzz⟩ : ∃ z, f + (i : Int) = z := ⟨_, rfl⟩
      have hst := fdN_step t os f ps g i l z hl hzz
      have z0 : 0 ≤ z := by omega
      have z1 : z ≤ 1001000 := by omega
      have hwz : IntKind.i64.wrap z = z := by rw [IntKind.wrap_i64]; omega
      have hgm := fdN_gam (t := t) (os := os) (f := f) (ps := ps) HGM.out i
      have hgm2 := fdN_gam (t := t) (os := os) (f := f) (ps := ps) HGM.out (i + 1)
      obtain ⟨g1, hg1⟩ : ∃ g1, fdN t os f ps g i = g1 := ⟨_, rfl⟩
      obtain ⟨g2, hg2⟩ : ∃ g2, fdN t os f ps g (i + 1) = g2 := ⟨_, rfl⟩
      rw [hg1] at hst HFS hgm
      rw [hg2] at hst hgm2
      obtain ⟨N, hN⟩ : ∃ N : Int, (((frameN ⟨t, z, l⟩ os g1).2 : Nat) : Int) = N := ⟨_, rfl⟩
      have hpg : pg < wr.heap.size := Nat.lt_of_lt_of_le hgB HFS.out.be.size
      have HSK : Hid (∀ wx, Below wr.heap.size wr wx → (wx.cell? ⟨w.heap.size, 0, none⟩ = some (.string t) ∧ wx.cell? ⟨w.heap.size, 1, none⟩ = some (.slice A n cap) ∧ GA wx (w.heap.size + 1) 33 g1 ∧ wx.cell? ⟨pg, off + i, none⟩ = some (.slice a L c))) := fun wx hb => by
        have h := HFS.out.belows hb
        exact ⟨h.c0, h.c1, h.g5, (hb.cell (p := ⟨pg, off + i, none⟩) hpg).trans hcell⟩
      have HST : Hid (∀ wx, Below wr.heap.size wr wx → Calls Try.prog 15 #[.agg #[.string t, .slice A n cap], .agg (gC g1), .int .i64 z, .slice a L c] wx fun e w' => e = .returned (.tuple #[.agg (gC g2), .int .i64 N]) ∧ Below wx.heap.size wx w') := fun wx hb => by
        have h := HFS.out.belows hb
        exact refstep_at wx g1 t z l A os n HN.out cap a c L hL ((HR.out.below (h.be.mono HB.out)).more (Nat.le_trans HB.out h.be.size)) hc'.out hm'.out ht'.out hgm ((hq.rb.more HFS.out.be.size).below hb |>.more hb.size) hle hq.cm g2 N hst.symm hN
      have HG2 := Lib.hid hg2
      have hL1 := Lib.hid hgm.1
      have hL2 := Lib.hid (gam_len hgm2)
      have hL3 := Lib.hid hgm2.1
      have hL12 : Hid (g2.length = g1.length) := by show _ = _; rw [hgm.1, hgm2.1]
      have hms : Hid (M - (i + 1) < M - i) := by show _ < _; omega
      have hB0 : Hid (Below wr.heap.size wr wr.drew) := (Below.refl _ _).drew
      clear hl hL hq hle hgm hgm2 hst hg1 hg2 hN hcell hpg hgB
      go_upto_region 4 with fail
      go_cut [10, 11] from 12 to 31 (fun s10 s11 wx => ∃ X, s10 = .pointer (some ⟨X, 0, none⟩) ∧ Hid (wr.heap.size ≤ X) ∧ Hid (GA wx X 33 g2) ∧ Hid (Below wr.heap.size wr wx))
      case first =>
        refine wp_region_held_drew (S := (fun w' => w'.cell? ⟨w.heap.size, 0, none⟩ = some (.string t) ∧ w'.cell? ⟨w.heap.size, 1, none⟩ = some (.slice A n cap) ∧ GA w' (w.heap.size + 1) 33 g1 ∧ w'.cell? ⟨pg, off + i, none⟩ = some (.slice a L c))) (by kernel_rfl) (HSK.out _ hB0.out) (fun hHeld => ?_)
        refine held_take (i := 0) (v := ?_) rfl (by kernel_rfl) (by kernel_rfl) (by kernel_rfl) (fun _ _ _ h => h) (by rfl) hHeld ?_ ?_
        rotate_left 1
        · (intro w hSw; (try dsimp only at hSw); go_simp; try (with_reducible rfl))
        try simp only [Act.put, List.setIfInBounds_toArray, List.set_cons_zero, List.set_cons_succ]
        refine held_take (i := 1) (v := .agg (gC g1)) rfl (by kernel_rfl) (by kernel_rfl) (by kernel_rfl) (fun _ _ _ h => h) (by rfl) hHeld (exec_load_g _ _ rfl (w.heap.size + 1) (by rfl) 33 g1 (fun w h => h.2.2.1) Try.underlying33 (by rw [hL1.out]; exact infoGame)) ?_
        try simp only [Act.put, List.setIfInBounds_toArray, List.set_cons_zero, List.set_cons_succ]
        refine held_take (i := 2) (v := ?_) rfl (by kernel_rfl) (by kernel_rfl) (by kernel_rfl) (fun _ _ _ h => h) (by rfl) hHeld ?_ ?_
        rotate_left 1
        · (intro w hSw; (try dsimp only at hSw); go_simp; try (with_reducible rfl))
        try simp only [Act.put, List.setIfInBounds_toArray, List.set_cons_zero, List.set_cons_succ]
        refine held_take (i := 3) (v := ?_) rfl (by kernel_rfl) (by kernel_rfl) (by kernel_rfl) (fun _ _ _ h => h) (by rfl) hHeld ?_ ?_
        rotate_left 1
        · (intro w hSw; (try dsimp only at hSw); go_simp; try (with_reducible rfl))
        try simp only [Act.put, List.setIfInBounds_toArray, List.set_cons_zero, List.set_cons_succ]
        refine held_take (i := 4) (v := ?_) rfl (by kernel_rfl) (by kernel_rfl) (by kernel_rfl) (fun _ _ _ h => h) (by rfl) hHeld ?_ ?_
        rotate_left 1
        · (intro w hSw; (try dsimp only at hSw); go_simp; try (with_reducible rfl))
        try simp only [Act.put, List.setIfInBounds_toArray, List.set_cons_zero, List.set_cons_succ]
        refine held_take (i := 5) (v := ?_) rfl (by kernel_rfl) (by kernel_rfl) (by kernel_rfl) (fun _ _ _ h => h) (by rfl) hHeld ?_ ?_
        rotate_left 1
        · (intro w hSw; (try dsimp only at hSw); go_simp; try (with_reducible rfl))
        try simp only [Act.put, List.setIfInBounds_toArray, List.set_cons_zero, List.set_cons_succ]
        refine held_take (i := 6) (v := ?_) rfl (by kernel_rfl) (by kernel_rfl) (by kernel_rfl) (fun _ _ _ h => h) (by rfl) hHeld ?_ ?_
        rotate_left 1
        · (intro w hSw; (try dsimp only at hSw); go_simp; try (with_reducible rfl))
        try simp only [Act.put, List.setIfInBounds_toArray, List.set_cons_zero, List.set_cons_succ]
        refine held_take (i := 7) (v := ?_) rfl (by kernel_rfl) (by kernel_rfl) (by kernel_rfl) (fun _ _ _ h => h) (by rfl) hHeld ?_ ?_
        rotate_left 1
        · (intro w hSw; (try dsimp only at hSw); go_simp; try (with_reducible rfl))
        try simp only [Act.put, List.setIfInBounds_toArray, List.set_cons_zero, List.set_cons_succ]
        refine held_take (i := 8) (v := ?_) rfl (by kernel_rfl) (by kernel_rfl) (by kernel_rfl) (fun _ _ _ h => h) (by rfl) hHeld ?_ ?_
        rotate_left 1
        · (intro w hSw; (try dsimp only at hSw); go_simp; try (with_reducible rfl))
        try simp only [Act.put, List.setIfInBounds_toArray, List.set_cons_zero, List.set_cons_succ]
        refine held_two (i := 9) (j := 13) rfl rfl (by kernel_rfl) (by rfl) (by rfl) (fun K hK => ?_) (fun K hK => ?_)
        · go_simp
          with_reducible refine (HST.out _ hB0.out).mono ?_
          rintro e w3 ⟨rfl, hb3⟩
          have hb4 := Lib.hid (hB0.out.trans (hb3.mono hB0.out.size)); clear hb3
          refine hK.out _ _ (HSK.out _ hb4.out) (fun hHeld2 => ?_)
          clear hK K hHeld; have hHeld := hHeld2; clear hHeld2
          try simp only [Act.put, List.setIfInBounds_toArray, List.set_cons_zero, List.set_cons_succ]
          refine held_take (i := 10) (v := ?_) rfl (by kernel_rfl) (by kernel_rfl) (by kernel_rfl) (fun _ _ _ h => h) (by rfl) hHeld ?_ ?_
          rotate_left 1
          · (intro w hSw; (try dsimp only at hSw); go_simp; try (with_reducible rfl))
          try simp only [Act.put, List.setIfInBounds_toArray, List.set_cons_zero, List.set_cons_succ]
          refine held_take (i := 11) (v := ?_) rfl (by kernel_rfl) (by kernel_rfl) (by kernel_rfl) (fun _ _ _ h => h) (by rfl) hHeld ?_ ?_
          rotate_left 1
          · (intro w hSw; (try dsimp only at hSw); go_simp; try (with_reducible rfl))
          try simp only [Act.put, List.setIfInBounds_toArray, List.set_cons_zero, List.set_cons_succ]
          refine held_take (i := 12) (v := ?_) rfl (by kernel_rfl) (by kernel_rfl) (by kernel_rfl) (fun _ _ _ h => h) (by rfl) hHeld ?_ ?_
          rotate_left 1
          · (intro w hSw; (try dsimp only at hSw); go_simp; try (with_reducible rfl))
          try simp only [Act.put, List.setIfInBounds_toArray, List.set_cons_zero, List.set_cons_succ]
          refine held_one (i := 13) rfl (by kernel_rfl) (by rfl) (fun K hK => ?_)
          go_simp
          have hB2 : Hid (Below wr.heap.size wr (w3.alloc (.cells (gC (zG 32)) 33))) := hb4.out.alloc hb4.out.size _
          have GX : Hid (GA (w3.alloc (.cells (gC (zG 32)) 33)) w3.heap.size 33 (zG 32)) := GA.new _ _ _
          have hX : Hid (wr.heap.size ≤ w3.heap.size) := hb4.out.size
          refine hK.out _ _ (HSK.out _ hB2.out) (fun hHeld2 => ?_)
          clear hK K hHeld; have hHeld := hHeld2; clear hHeld2
          try simp only [Act.put, List.setIfInBounds_toArray, List.set_cons_zero, List.set_cons_succ]
          refine held_one (i := 14) rfl (by kernel_rfl) (by rfl) (fun K hK => ?_)
          refine wp_store_g 33 (.tmp 10) (.tmp 29) rfl w3.heap.size (by rfl) 33 (zG 32) g2 GX.out (by rfl) hL2.out (by rw [hL3.out]; exact infoGame) ?_; intro w7 G7 S7 R7; have hb7 : Hid (Below wr.heap.size wr w7) := hB2.out.grown R7 hB2.out.size (fun k e => by have := Option.some.inj e; have := hX.out; omega)
          refine hK.out _ _ (HSK.out _ hb7.out) (fun hHeld2 => ?_)
          clear hK K hHeld; have hHeld := hHeld2; clear hHeld2
          try simp only [Act.put, List.setIfInBounds_toArray, List.set_cons_zero, List.set_cons_succ]
          refine held_take (i := 15) (v := ?_) rfl (by kernel_rfl) (by kernel_rfl) (by kernel_rfl) (fun _ _ _ h => h) (by rfl) hHeld ?_ ?_
          rotate_left 1
          · (intro w hSw; (try dsimp only at hSw); go_simp; try (with_reducible rfl))
          try simp only [Act.put, List.setIfInBounds_toArray, List.set_cons_zero, List.set_cons_succ]
          refine wpAnyH_done (by kernel_rfl) ?_ _
          skip
          go_wp2
          go_meet
          exact ⟨_, rfl, hX, Lib.hid G7, hb7⟩
        · go_simp
          have hB2 : Hid (Below wr.heap.size wr (wr.drew.alloc (.cells (gC (zG 32)) 33))) := hB0.out.alloc hB0.out.size _
          have GX : Hid (GA (wr.drew.alloc (.cells (gC (zG 32)) 33)) wr.drew.heap.size 33 (zG 32)) := GA.new _ _ _
          have hX : Hid (wr.heap.size ≤ wr.drew.heap.size) := hB0.out.size
          refine hK.out _ _ (HSK.out _ hB2.out) (fun hHeld2 => ?_)
          clear hK K hHeld; have hHeld := hHeld2; clear hHeld2
          try simp only [Act.put, List.setIfInBounds_toArray, List.set_cons_zero, List.set_cons_succ]
          refine held_one (i := 9) rfl (by kernel_rfl) (by rfl) (fun K hK => ?_)
          go_simp
          have hB2d : Hid (Below wr.heap.size wr (wr.alloc (.cells (gC (zG 32)) 33)).drew) := hB2.out
          with_reducible refine (HST.out (wr.alloc (.cells (gC (zG 32)) 33)).drew hB2d.out).mono ?_
          rintro e w3 ⟨rfl, hb3⟩
          have hb3x := Lib.hid hb3
          have hb4 := Lib.hid (hB2.out.trans (hb3.mono hB2.out.size)); clear hb3
          refine hK.out _ _ (HSK.out _ hb4.out) (fun hHeld2 => ?_)
          clear hK K hHeld; have hHeld := hHeld2; clear hHeld2
          try simp only [Act.put, List.setIfInBounds_toArray, List.set_cons_zero, List.set_cons_succ]
          refine held_take (i := 10) (v := ?_) rfl (by kernel_rfl) (by kernel_rfl) (by kernel_rfl) (fun _ _ _ h => h) (by rfl) hHeld ?_ ?_
          rotate_left 1
          · (intro w hSw; (try dsimp only at hSw); go_simp; try (with_reducible rfl))
          try simp only [Act.put, List.setIfInBounds_toArray, List.set_cons_zero, List.set_cons_succ]
          refine held_take (i := 11) (v := ?_) rfl (by kernel_rfl) (by kernel_rfl) (by kernel_rfl) (fun _ _ _ h => h) (by rfl) hHeld ?_ ?_
          rotate_left 1
          · (intro w hSw; (try dsimp only at hSw); go_simp; try (with_reducible rfl))
          try simp only [Act.put, List.setIfInBounds_toArray, List.set_cons_zero, List.set_cons_succ]
          refine held_take (i := 12) (v := ?_) rfl (by kernel_rfl) (by kernel_rfl) (by kernel_rfl) (fun _ _ _ h => h) (by rfl) hHeld ?_ ?_
          rotate_left 1
          · (intro w hSw; (try dsimp only at hSw); go_simp; try (with_reducible rfl))
          try simp only [Act.put, List.setIfInBounds_toArray, List.set_cons_zero, List.set_cons_succ]
          refine held_one (i := 14) rfl (by kernel_rfl) (by rfl) (fun K hK => ?_)
          have GY := Lib.hid (GX.out.below hb3x.out (by show wr.heap.size < (wr.alloc _).heap.size; rw [World.size_alloc]; exact Nat.lt_succ_self _))
          refine wp_store_g 33 (.tmp 10) (.tmp 29) rfl wr.drew.heap.size (by rfl) 33 (zG 32) g2 GY.out (by rfl) hL2.out (by rw [hL3.out]; exact infoGame) ?_; intro w7 G7 S7 R7; have hb7 : Hid (Below wr.heap.size wr w7) := hb4.out.grown R7 hb4.out.size (fun k e => by have := Option.some.inj e; have := hX.out; omega)
          refine hK.out _ _ (HSK.out _ hb7.out) (fun hHeld2 => ?_)
          clear hK K hHeld; have hHeld := hHeld2; clear hHeld2
          try simp only [Act.put, List.setIfInBounds_toArray, List.set_cons_zero, List.set_cons_succ]
          refine held_take (i := 15) (v := ?_) rfl (by kernel_rfl) (by kernel_rfl) (by kernel_rfl) (fun _ _ _ h => h) (by rfl) hHeld ?_ ?_
          rotate_left 1
          · (intro w hSw; (try dsimp only at hSw); go_simp; try (with_reducible rfl))
          try simp only [Act.put, List.setIfInBounds_toArray, List.set_cons_zero, List.set_cons_succ]
          refine wpAnyH_done (by kernel_rfl) ?_ _
          skip
          go_wp2
          go_meet
          exact ⟨_, rfl, hX, Lib.hid G7, hb7⟩
      case rest =>
        obtain ⟨X, rfl, hX, GX, hBX⟩ := hcut
        have HF3 := Lib.hid (HFS.out.belows hBX.out)
        clear HFS HST HSK hB0 hz
        go_wp2_with (first
          | (with_reducible refine wpList_load_g rfl 33 (.tmp 10) rfl X (by with_unfolding_all rfl) 33 g2 GX.out Try.underlying33 (by rw [hL3.out]; exact infoGame) ?_)
          | (with_reducible refine wpList_store_g rfl 33 (.tmp 5) (.tmp 31) rfl (w.heap.size + 1) (by with_unfolding_all rfl) 33 g1 g2 HF3.out.g5 (by with_unfolding_all rfl) hL12.out (by rw [hL3.out]; exact infoGame) ?_; intro w7 G7 S7 R7; have HF7 := Lib.hid (HF3.out.put R7 G7); clear G7 S7 R7))
        rw [← HG2.out] at HF7
        go_roundw
        case rel => exact ⟨i + 1, by go_num, by omega, HF7⟩
        case measure => simp [intOf]; have := hms.out; omega
    · have hiz : ¬ (i : Int) < (M : Int) := by omega
      obtain rfl : i = M := by omega
      rw [HG.out] at HFS
      have hgm : gam G := by rw [← HG.out]; exact fdN_gam HGM.out _
      have hL1 := Lib.hid hgm.1
      have hL2 := Lib.hid (gam_len hgm)
      clear hgm
      go_wp2_with (first
        | (with_reducible refine wpList_load_g rfl 33 (.tmp 5) rfl (w.heap.size + 1) (by with_unfolding_all rfl) 33 G HFS.out.g5 Try.underlying33 (by rw [hL1.out]; exact infoGame) ?_)
        | (with_reducible refine wpList_store_g rfl 33 (.tmp 8) (.tmp 32) rfl (w.heap.size + 1 + 1) (by with_unfolding_all rfl) 33 (zG 32) G HFS.out.g8 (by with_unfolding_all rfl) hL2.out (by rw [hL1.out]; exact infoGame) ?_; intro w7 G7 S7 R7))
      exact bodyPost_ret (results_g rfl G7 rfl Try.underlying33 (by rw [hL1.out]; exact infoGame)) rfl ⟨rfl, HFS.out.be.grown R7 (by have := HFS.out.lt; omega) (fun k e => by have := Option.some.inj e; omega)⟩
end Go.Proofs.Ytbmhdinaofepdaa
