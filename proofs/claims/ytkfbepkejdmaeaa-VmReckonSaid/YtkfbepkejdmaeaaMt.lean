/- WALK of the law VmReckon. -/
import Derived.Test.YtkfbepkejdmaeaaMr
import Derived.Test.YtkfbepkejdmaeaaMm
namespace Go.Proofs.Ytkfbepkejdmaeaa
set_option maxRecDepth 100000
open Go.RowKit
set_option linter.unusedVariables false

/-- a game of three cells -/
def gThr (x y z : Int) : List Int := (((zG 32).set 1 x).set 2 y).set 5 z
theorem gThr_gam (x y z : Int) (hx : in32 x) (hy : in32 y) (hz : in32 z) : gam (gThr x y z) := ((gam.zero.set 1 hx).set 2 hy).set 5 hz
theorem gThr_new (w : World) (x y z : Int) : GA (w.alloc (.cells ((((gC (zG 32)).setIfInBounds 1 (.int .i32 x)).setIfInBounds 2 (.int .i32 y)).setIfInBounds 5 (.int .i32 z)) 31)) w.heap.size 31 (gThr x y z) := by
  rw [gC_set, gC_set, gC_set]; exact GA.new w _ _
theorem gThr_one (x y z : Int) : cel (gThr x y z) 1 = x := by unfold cel gThr zG; rfl
theorem gThr_two (x y z : Int) : cel (gThr x y z) 2 = y := by unfold cel gThr zG; rfl
theorem frame_reck (k a b : Int) (k0 : 3 ≤ k) (k1 : k ≤ 8) : (frameN ⟨⟨#[114, 101, 99, 107, 111, 110]⟩, 0, []⟩ [⟨k, 5, 1, 2⟩] (gThr a b 99)).1 = (gThr a b 99).set 5 (reckN k a b) := by
  have e1 := gThr_one a b 99
  have e2 := gThr_two a b 99
  obtain rfl | rfl | rfl | rfl | rfl | rfl : k = 3 ∨ k = 4 ∨ k = 5 ∨ k = 6 ∨ k = 7 ∨ k = 8 := by omega
  · rw [frame_one ⟨⟨#[114, 101, 99, 107, 111, 110]⟩, 0, []⟩ ⟨3, 5, 1, 2⟩ _ (show faultN (titB ⟨#[114, 101, 99, 107, 111, 110]⟩) [⟨3, 5, 1, 2⟩] = -1 by decide +kernel) (Nat.le_refl _)]
    show (gThr a b 99).set 5 (reckN 3 (cel (gThr a b 99) 1) (cel (gThr a b 99) 2)) = _
    rw [e1, e2]
  · rw [frame_one ⟨⟨#[114, 101, 99, 107, 111, 110]⟩, 0, []⟩ ⟨4, 5, 1, 2⟩ _ (show faultN (titB ⟨#[114, 101, 99, 107, 111, 110]⟩) [⟨4, 5, 1, 2⟩] = -1 by decide +kernel) (Nat.le_refl _)]
    show (gThr a b 99).set 5 (reckN 4 (cel (gThr a b 99) 1) (cel (gThr a b 99) 2)) = _
    rw [e1, e2]
  · rw [frame_one ⟨⟨#[114, 101, 99, 107, 111, 110]⟩, 0, []⟩ ⟨5, 5, 1, 2⟩ _ (show faultN (titB ⟨#[114, 101, 99, 107, 111, 110]⟩) [⟨5, 5, 1, 2⟩] = -1 by decide +kernel) (Nat.le_refl _)]
    show (gThr a b 99).set 5 (reckN 5 (cel (gThr a b 99) 1) (cel (gThr a b 99) 2)) = _
    rw [e1, e2]
  · rw [frame_one ⟨⟨#[114, 101, 99, 107, 111, 110]⟩, 0, []⟩ ⟨6, 5, 1, 2⟩ _ (show faultN (titB ⟨#[114, 101, 99, 107, 111, 110]⟩) [⟨6, 5, 1, 2⟩] = -1 by decide +kernel) (Nat.le_refl _)]
    show (gThr a b 99).set 5 (reckN 6 (cel (gThr a b 99) 1) (cel (gThr a b 99) 2)) = _
    rw [e1, e2]
  · rw [frame_one ⟨⟨#[114, 101, 99, 107, 111, 110]⟩, 0, []⟩ ⟨7, 5, 1, 2⟩ _ (show faultN (titB ⟨#[114, 101, 99, 107, 111, 110]⟩) [⟨7, 5, 1, 2⟩] = -1 by decide +kernel) (Nat.le_refl _)]
    show (gThr a b 99).set 5 (reckN 7 (cel (gThr a b 99) 1) (cel (gThr a b 99) 2)) = _
    rw [e1, e2]
  · rw [frame_one ⟨⟨#[114, 101, 99, 107, 111, 110]⟩, 0, []⟩ ⟨8, 5, 1, 2⟩ _ (show faultN (titB ⟨#[114, 101, 99, 107, 111, 110]⟩) [⟨8, 5, 1, 2⟩] = -1 by decide +kernel) (Nat.le_refl _)]
    show (gThr a b 99).set 5 (reckN 8 (cel (gThr a b 99) 1) (cel (gThr a b 99) 2)) = _
    rw [e1, e2]
set_option maxHeartbeats 2000000 in
theorem lreck_3 (m code a b : Int) (e1 : code.tmod 6 = m) (e2 : (m + 6).tmod 6 = 0) (m0 : -6 < m) (m1 : m < 6) (w : World) (ha : in32 a) (hb : in32 b)  :
    Calls Try.prog 9 #[.int .i64 code, .int .i32 a, .int .i32 b] w fun e w' => e = .returned (.bool true) ∧ Below w.heap.size w w' := by
  have hz := zeroState
  have HB := Lib.hid (begun9_any w)
  have HGM := Lib.hid (gThr_gam a b 99 ha hb (by unfold in32; omega))
  obtain ⟨a0, a1⟩ := ha
  obtain ⟨b0, b1⟩ := hb
  have HF : Hid ((frameN ⟨⟨#[114, 101, 99, 107, 111, 110]⟩, 0, []⟩ [⟨3, 5, 1, 2⟩] (gThr a b 99)).1 = (gThr a b 99).set 5 (rd (a + b))) := by
    unfold Hid
    rw [frame_reck 3 a b (by omega) (by omega)]
    have hv : reckN 3 a b = rd (a + b) := by exact reckN_3 a b
    rw [hv]
  go_enter Try.func9, Try.ntmps9
  go_upto_region 6 with (go_at_call 13; refine HB.out.mono ?_; rintro e w1 ⟨rfl, b1'⟩)
  obtain ⟨W, hW⟩ : ∃ W, W = (w1.alloc (.cells #[.int .i64 3, .int .i64 5, .int .i64 1, .int .i64 2] 44)).alloc (.cells #[.string ⟨#[114, 101, 99, 107, 111, 110]⟩, .slice (some ⟨w1.heap.size, 0, none⟩) 1 1] 24) := ⟨_, rfl⟩
  rw [← hW]
  obtain ⟨ro, pp0, pp1, bW, hs⟩ := one_new w1 3 5 1 2 _ W hW
  have G0 := Lib.hid (GA.new W 31 (zG 32))
  have G1 := Lib.hid (gThr_new W a b 99)
  have c1 : (W.alloc (.cells (gC (zG 32)) 31)).cell? ⟨W.heap.size, 1, none⟩ = some (.int .i32 0) := G0.out.cell 1 (by rw [zG_length]; omega)
  have f1 : (W.alloc (.cells (gC (zG 32)) 31)).frozen? ⟨W.heap.size, 1, none⟩ = false := G0.out.frozen 1
  have c2 : (W.alloc (.cells (gC (zG 32)) 31)).cell? ⟨W.heap.size, 2, none⟩ = some (.int .i32 0) := G0.out.cell 2 (by rw [zG_length]; omega)
  have f2 : (W.alloc (.cells (gC (zG 32)) 31)).frozen? ⟨W.heap.size, 2, none⟩ = false := G0.out.frozen 2
  have c5 : (W.alloc (.cells (gC (zG 32)) 31)).cell? ⟨W.heap.size, 5, none⟩ = some (.int .i32 0) := G0.out.cell 5 (by rw [zG_length]; omega)
  have f5 : (W.alloc (.cells (gC (zG 32)) 31)).frozen? ⟨W.heap.size, 5, none⟩ = false := G0.out.frozen 5
  have bA : Below W.heap.size W (W.alloc (.cells ((((gC (zG 32)).setIfInBounds 1 (.int .i32 a)).setIfInBounds 2 (.int .i32 b)).setIfInBounds 5 (.int .i32 99)) 31)) := (Below.refl _ _).alloc (Nat.le_refl _) _
  have p0 := (bA.cell (p := ⟨w1.heap.size + 1, 0, none⟩) (cell_lt pp0)).trans pp0
  have p1 := (bA.cell (p := ⟨w1.heap.size + 1, 1, none⟩) (cell_lt pp1)).trans pp1
  have hgl : Hid ((gThr a b 99).length = 32) := HGM.out.1
  have bw1 := b1'.trans (bW.mono b1'.size)
  have hsz1 := b1'.size
  have hbase := bw1.trans (bA.mono (by omega))
  have HS := Lib.hid (stepz_any (W.alloc (.cells ((((gC (zG 32)).setIfInBounds 1 (.int .i32 a)).setIfInBounds 2 (.int .i32 b)).setIfInBounds 5 (.int .i32 99)) 31)) (gThr a b 99) ⟨#[114, 101, 99, 107, 111, 110]⟩ 0 (some ⟨w1.heap.size, 0, none⟩) [⟨3, 5, 1, 2⟩] 1 W.heap.size (ro.below bA) bA.size (Nat.le_refl _) (by unfold maxLen; omega) (by decide) HGM.out)
  rw [HF.out] at HS
  have HHS := Lib.hid hs
  clear hs hW ro pp0 pp1 bW bw1 b1'
  go_wp2_with (with_reducible refine wpList_load_g rfl 31 (.tmp 9) rfl W.heap.size (by with_unfolding_all rfl) 31 (gThr a b 99) G1.out Try.underlying31 (by rw [hgl.out]; exact infoState) ?_)
  refine HS.out.mono ?_
  rintro e w2 ⟨rfl, b2⟩
  have bA2 := bA.size
  have bw2 := hbase.trans (b2.mono (by have := HHS.out; omega))
  have hs2 := b2.size
  have hss := HHS.out
  have hbase2 := bw2.size
  clear HS b2 hbase bA G0 G1 c1 f1 c2 f2 c5 f5 p0 p1 HB
  have G2 := Lib.hid (GA.new w2 31 (zG 32))
  have HZ1 : Hid (((gThr a b 99).set 5 (rd (a + b))).length = (zG 32).length) := by unfold Hid; rw [List.length_set, hgl.out, zG_length]
  have HL1 : Hid (((gThr a b 99).set 5 (rd (a + b))).length = 32) := by unfold Hid; rw [List.length_set, hgl.out]
  have X1 : Hid (((gThr a b 99).set 5 (rd (a + b)))[1]? = some a) := by unfold Hid gThr zG; simp
  have X2 : Hid (((gThr a b 99).set 5 (rd (a + b)))[2]? = some b) := by unfold Hid gThr zG; simp
  have X5 : Hid (((gThr a b 99).set 5 (rd (a + b)))[5]? = some (rd (a + b))) := by unfold Hid gThr zG; simp
  obtain ⟨g', hg'⟩ : ∃ g', g' = (gThr a b 99).set 5 (rd (a + b)) := ⟨_, rfl⟩
  rw [← hg'] at HZ1 HL1 X1 X2 X5
  rw [← hg']
  clear hg'
  have HRD := Lib.hid (round_any (a + b))
  go_wp2_with (first
    | (with_reducible refine wpList_store_g rfl 31 (.tmp 10) (.tmp 33) rfl w2.heap.size (by with_unfolding_all rfl) 31 (zG 32) g' G2.out (by with_unfolding_all rfl) HZ1.out (by rw [HL1.out]; exact infoState) ?_; intro w3 G3 S3 R3; have H3 := Lib.hid G3; have SS := Lib.hid S3; have RR := Lib.hid R3; clear G3 S3 R3; have x1 := H3.out.cell_of X1.out; have x2 := H3.out.cell_of X2.out; have x5 := H3.out.cell_of X5.out; have hb3 := Lib.hid ((bw2.alloc (by omega) _).grown RR.out (by simp; omega) (by simp; omega)))
    | (go_at_call 24; with_reducible refine (HRD.out _).mono ?_; rintro e w4 ⟨rfl, rfl⟩))
  go_ret
  exact ⟨rfl, hb3.out⟩
set_option maxHeartbeats 2000000 in
theorem lreck_4 (m code a b : Int) (e1 : code.tmod 6 = m) (e2 : (m + 6).tmod 6 = 1) (m0 : -6 < m) (m1 : m < 6) (w : World) (ha : in32 a) (hb : in32 b)  :
    Calls Try.prog 9 #[.int .i64 code, .int .i32 a, .int .i32 b] w fun e w' => e = .returned (.bool true) ∧ Below w.heap.size w w' := by
  have hz := zeroState
  have HB := Lib.hid (begun9_any w)
  have HGM := Lib.hid (gThr_gam a b 99 ha hb (by unfold in32; omega))
  obtain ⟨a0, a1⟩ := ha
  obtain ⟨b0, b1⟩ := hb
  have HF : Hid ((frameN ⟨⟨#[114, 101, 99, 107, 111, 110]⟩, 0, []⟩ [⟨4, 5, 1, 2⟩] (gThr a b 99)).1 = (gThr a b 99).set 5 (rd (a - b))) := by
    unfold Hid
    rw [frame_reck 4 a b (by omega) (by omega)]
    have hv : reckN 4 a b = rd (a - b) := by exact reckN_4 a b
    rw [hv]
  go_enter Try.func9, Try.ntmps9
  go_upto_region 6 with (go_at_call 13; refine HB.out.mono ?_; rintro e w1 ⟨rfl, b1'⟩)
  obtain ⟨W, hW⟩ : ∃ W, W = (w1.alloc (.cells #[.int .i64 4, .int .i64 5, .int .i64 1, .int .i64 2] 44)).alloc (.cells #[.string ⟨#[114, 101, 99, 107, 111, 110]⟩, .slice (some ⟨w1.heap.size, 0, none⟩) 1 1] 24) := ⟨_, rfl⟩
  rw [← hW]
  obtain ⟨ro, pp0, pp1, bW, hs⟩ := one_new w1 4 5 1 2 _ W hW
  have G0 := Lib.hid (GA.new W 31 (zG 32))
  have G1 := Lib.hid (gThr_new W a b 99)
  have c1 : (W.alloc (.cells (gC (zG 32)) 31)).cell? ⟨W.heap.size, 1, none⟩ = some (.int .i32 0) := G0.out.cell 1 (by rw [zG_length]; omega)
  have f1 : (W.alloc (.cells (gC (zG 32)) 31)).frozen? ⟨W.heap.size, 1, none⟩ = false := G0.out.frozen 1
  have c2 : (W.alloc (.cells (gC (zG 32)) 31)).cell? ⟨W.heap.size, 2, none⟩ = some (.int .i32 0) := G0.out.cell 2 (by rw [zG_length]; omega)
  have f2 : (W.alloc (.cells (gC (zG 32)) 31)).frozen? ⟨W.heap.size, 2, none⟩ = false := G0.out.frozen 2
  have c5 : (W.alloc (.cells (gC (zG 32)) 31)).cell? ⟨W.heap.size, 5, none⟩ = some (.int .i32 0) := G0.out.cell 5 (by rw [zG_length]; omega)
  have f5 : (W.alloc (.cells (gC (zG 32)) 31)).frozen? ⟨W.heap.size, 5, none⟩ = false := G0.out.frozen 5
  have bA : Below W.heap.size W (W.alloc (.cells ((((gC (zG 32)).setIfInBounds 1 (.int .i32 a)).setIfInBounds 2 (.int .i32 b)).setIfInBounds 5 (.int .i32 99)) 31)) := (Below.refl _ _).alloc (Nat.le_refl _) _
  have p0 := (bA.cell (p := ⟨w1.heap.size + 1, 0, none⟩) (cell_lt pp0)).trans pp0
  have p1 := (bA.cell (p := ⟨w1.heap.size + 1, 1, none⟩) (cell_lt pp1)).trans pp1
  have hgl : Hid ((gThr a b 99).length = 32) := HGM.out.1
  have bw1 := b1'.trans (bW.mono b1'.size)
  have hsz1 := b1'.size
  have hbase := bw1.trans (bA.mono (by omega))
  have HS := Lib.hid (stepz_any (W.alloc (.cells ((((gC (zG 32)).setIfInBounds 1 (.int .i32 a)).setIfInBounds 2 (.int .i32 b)).setIfInBounds 5 (.int .i32 99)) 31)) (gThr a b 99) ⟨#[114, 101, 99, 107, 111, 110]⟩ 0 (some ⟨w1.heap.size, 0, none⟩) [⟨4, 5, 1, 2⟩] 1 W.heap.size (ro.below bA) bA.size (Nat.le_refl _) (by unfold maxLen; omega) (by decide) HGM.out)
  rw [HF.out] at HS
  have HHS := Lib.hid hs
  clear hs hW ro pp0 pp1 bW bw1 b1'
  go_wp2_with (with_reducible refine wpList_load_g rfl 31 (.tmp 9) rfl W.heap.size (by with_unfolding_all rfl) 31 (gThr a b 99) G1.out Try.underlying31 (by rw [hgl.out]; exact infoState) ?_)
  refine HS.out.mono ?_
  rintro e w2 ⟨rfl, b2⟩
  have bA2 := bA.size
  have bw2 := hbase.trans (b2.mono (by have := HHS.out; omega))
  have hs2 := b2.size
  have hss := HHS.out
  have hbase2 := bw2.size
  clear HS b2 hbase bA G0 G1 c1 f1 c2 f2 c5 f5 p0 p1 HB
  have G2 := Lib.hid (GA.new w2 31 (zG 32))
  have HZ1 : Hid (((gThr a b 99).set 5 (rd (a - b))).length = (zG 32).length) := by unfold Hid; rw [List.length_set, hgl.out, zG_length]
  have HL1 : Hid (((gThr a b 99).set 5 (rd (a - b))).length = 32) := by unfold Hid; rw [List.length_set, hgl.out]
  have X1 : Hid (((gThr a b 99).set 5 (rd (a - b)))[1]? = some a) := by unfold Hid gThr zG; simp
  have X2 : Hid (((gThr a b 99).set 5 (rd (a - b)))[2]? = some b) := by unfold Hid gThr zG; simp
  have X5 : Hid (((gThr a b 99).set 5 (rd (a - b)))[5]? = some (rd (a - b))) := by unfold Hid gThr zG; simp
  obtain ⟨g', hg'⟩ : ∃ g', g' = (gThr a b 99).set 5 (rd (a - b)) := ⟨_, rfl⟩
  rw [← hg'] at HZ1 HL1 X1 X2 X5
  rw [← hg']
  clear hg'
  have HRD := Lib.hid (round_any (a - b))
  go_wp2_with (first
    | (with_reducible refine wpList_store_g rfl 31 (.tmp 10) (.tmp 33) rfl w2.heap.size (by with_unfolding_all rfl) 31 (zG 32) g' G2.out (by with_unfolding_all rfl) HZ1.out (by rw [HL1.out]; exact infoState) ?_; intro w3 G3 S3 R3; have H3 := Lib.hid G3; have SS := Lib.hid S3; have RR := Lib.hid R3; clear G3 S3 R3; have x1 := H3.out.cell_of X1.out; have x2 := H3.out.cell_of X2.out; have x5 := H3.out.cell_of X5.out; have hb3 := Lib.hid ((bw2.alloc (by omega) _).grown RR.out (by simp; omega) (by simp; omega)))
    | (go_at_call 24; with_reducible refine (HRD.out _).mono ?_; rintro e w4 ⟨rfl, rfl⟩))
  go_ret
  exact ⟨rfl, hb3.out⟩
set_option maxHeartbeats 2000000 in
theorem lreck_5 (m code a b : Int) (e1 : code.tmod 6 = m) (e2 : (m + 6).tmod 6 = 2) (m0 : -6 < m) (m1 : m < 6) (w : World) (ha : in32 a) (hb : in32 b)  :
    Calls Try.prog 9 #[.int .i64 code, .int .i32 a, .int .i32 b] w fun e w' => e = .returned (.bool true) ∧ Below w.heap.size w w' := by
  have hz := zeroState
  have HB := Lib.hid (begun9_any w)
  have HGM := Lib.hid (gThr_gam a b 99 ha hb (by unfold in32; omega))
  obtain ⟨a0, a1⟩ := ha
  obtain ⟨b0, b1⟩ := hb
  have HF : Hid ((frameN ⟨⟨#[114, 101, 99, 107, 111, 110]⟩, 0, []⟩ [⟨5, 5, 1, 2⟩] (gThr a b 99)).1 = (gThr a b 99).set 5 (rd (a * b))) := by
    unfold Hid
    rw [frame_reck 5 a b (by omega) (by omega)]
    have hv : reckN 5 a b = rd (a * b) := by exact reckN_5 a b
    rw [hv]
  go_enter Try.func9, Try.ntmps9
  go_upto_region 6 with (go_at_call 13; refine HB.out.mono ?_; rintro e w1 ⟨rfl, b1'⟩)
  obtain ⟨W, hW⟩ : ∃ W, W = (w1.alloc (.cells #[.int .i64 5, .int .i64 5, .int .i64 1, .int .i64 2] 44)).alloc (.cells #[.string ⟨#[114, 101, 99, 107, 111, 110]⟩, .slice (some ⟨w1.heap.size, 0, none⟩) 1 1] 24) := ⟨_, rfl⟩
  rw [← hW]
  obtain ⟨ro, pp0, pp1, bW, hs⟩ := one_new w1 5 5 1 2 _ W hW
  have G0 := Lib.hid (GA.new W 31 (zG 32))
  have G1 := Lib.hid (gThr_new W a b 99)
  have c1 : (W.alloc (.cells (gC (zG 32)) 31)).cell? ⟨W.heap.size, 1, none⟩ = some (.int .i32 0) := G0.out.cell 1 (by rw [zG_length]; omega)
  have f1 : (W.alloc (.cells (gC (zG 32)) 31)).frozen? ⟨W.heap.size, 1, none⟩ = false := G0.out.frozen 1
  have c2 : (W.alloc (.cells (gC (zG 32)) 31)).cell? ⟨W.heap.size, 2, none⟩ = some (.int .i32 0) := G0.out.cell 2 (by rw [zG_length]; omega)
  have f2 : (W.alloc (.cells (gC (zG 32)) 31)).frozen? ⟨W.heap.size, 2, none⟩ = false := G0.out.frozen 2
  have c5 : (W.alloc (.cells (gC (zG 32)) 31)).cell? ⟨W.heap.size, 5, none⟩ = some (.int .i32 0) := G0.out.cell 5 (by rw [zG_length]; omega)
  have f5 : (W.alloc (.cells (gC (zG 32)) 31)).frozen? ⟨W.heap.size, 5, none⟩ = false := G0.out.frozen 5
  have bA : Below W.heap.size W (W.alloc (.cells ((((gC (zG 32)).setIfInBounds 1 (.int .i32 a)).setIfInBounds 2 (.int .i32 b)).setIfInBounds 5 (.int .i32 99)) 31)) := (Below.refl _ _).alloc (Nat.le_refl _) _
  have p0 := (bA.cell (p := ⟨w1.heap.size + 1, 0, none⟩) (cell_lt pp0)).trans pp0
  have p1 := (bA.cell (p := ⟨w1.heap.size + 1, 1, none⟩) (cell_lt pp1)).trans pp1
  have hgl : Hid ((gThr a b 99).length = 32) := HGM.out.1
  have bw1 := b1'.trans (bW.mono b1'.size)
  have hsz1 := b1'.size
  have hbase := bw1.trans (bA.mono (by omega))
  have HS := Lib.hid (stepz_any (W.alloc (.cells ((((gC (zG 32)).setIfInBounds 1 (.int .i32 a)).setIfInBounds 2 (.int .i32 b)).setIfInBounds 5 (.int .i32 99)) 31)) (gThr a b 99) ⟨#[114, 101, 99, 107, 111, 110]⟩ 0 (some ⟨w1.heap.size, 0, none⟩) [⟨5, 5, 1, 2⟩] 1 W.heap.size (ro.below bA) bA.size (Nat.le_refl _) (by unfold maxLen; omega) (by decide) HGM.out)
  rw [HF.out] at HS
  have HHS := Lib.hid hs
  clear hs hW ro pp0 pp1 bW bw1 b1'
  go_wp2_with (with_reducible refine wpList_load_g rfl 31 (.tmp 9) rfl W.heap.size (by with_unfolding_all rfl) 31 (gThr a b 99) G1.out Try.underlying31 (by rw [hgl.out]; exact infoState) ?_)
  refine HS.out.mono ?_
  rintro e w2 ⟨rfl, b2⟩
  have bA2 := bA.size
  have bw2 := hbase.trans (b2.mono (by have := HHS.out; omega))
  have hs2 := b2.size
  have hss := HHS.out
  have hbase2 := bw2.size
  clear HS b2 hbase bA G0 G1 c1 f1 c2 f2 c5 f5 p0 p1 HB
  have G2 := Lib.hid (GA.new w2 31 (zG 32))
  have HZ1 : Hid (((gThr a b 99).set 5 (rd (a * b))).length = (zG 32).length) := by unfold Hid; rw [List.length_set, hgl.out, zG_length]
  have HL1 : Hid (((gThr a b 99).set 5 (rd (a * b))).length = 32) := by unfold Hid; rw [List.length_set, hgl.out]
  have X1 : Hid (((gThr a b 99).set 5 (rd (a * b)))[1]? = some a) := by unfold Hid gThr zG; simp
  have X2 : Hid (((gThr a b 99).set 5 (rd (a * b)))[2]? = some b) := by unfold Hid gThr zG; simp
  have X5 : Hid (((gThr a b 99).set 5 (rd (a * b)))[5]? = some (rd (a * b))) := by unfold Hid gThr zG; simp
  obtain ⟨g', hg'⟩ : ∃ g', g' = (gThr a b 99).set 5 (rd (a * b)) := ⟨_, rfl⟩
  rw [← hg'] at HZ1 HL1 X1 X2 X5
  rw [← hg']
  clear hg'
  obtain ⟨mr0, mr1⟩ := mul_rng a b a0 a1 b0 b1
  have HRD := Lib.hid (round_any (a * b))
  go_wp2_with (first
    | (with_reducible refine wpList_store_g rfl 31 (.tmp 10) (.tmp 33) rfl w2.heap.size (by with_unfolding_all rfl) 31 (zG 32) g' G2.out (by with_unfolding_all rfl) HZ1.out (by rw [HL1.out]; exact infoState) ?_; intro w3 G3 S3 R3; have H3 := Lib.hid G3; have SS := Lib.hid S3; have RR := Lib.hid R3; clear G3 S3 R3; have x1 := H3.out.cell_of X1.out; have x2 := H3.out.cell_of X2.out; have x5 := H3.out.cell_of X5.out; have hb3 := Lib.hid ((bw2.alloc (by omega) _).grown RR.out (by simp; omega) (by simp; omega)))
    | (go_at_call 24; with_reducible refine (HRD.out _).mono ?_; rintro e w4 ⟨rfl, rfl⟩))
  go_ret
  exact ⟨rfl, hb3.out⟩
set_option maxHeartbeats 2000000 in
theorem lreck_6 (m code a b : Int) (e1 : code.tmod 6 = m) (e2 : (m + 6).tmod 6 = 3) (m0 : -6 < m) (m1 : m < 6) (w : World) (ha : in32 a) (hb : in32 b)  :
    Calls Try.prog 9 #[.int .i64 code, .int .i32 a, .int .i32 b] w fun e w' => e = .returned (.bool true) ∧ Below w.heap.size w w' := by
  have hz := zeroState
  have HB := Lib.hid (begun9_any w)
  have HGM := Lib.hid (gThr_gam a b 99 ha hb (by unfold in32; omega))
  obtain ⟨a0, a1⟩ := ha
  obtain ⟨b0, b1⟩ := hb
  have HF : Hid ((frameN ⟨⟨#[114, 101, 99, 107, 111, 110]⟩, 0, []⟩ [⟨6, 5, 1, 2⟩] (gThr a b 99)).1 = (gThr a b 99).set 5 (dv a b)) := by
    unfold Hid
    rw [frame_reck 6 a b (by omega) (by omega)]
    have hv : reckN 6 a b = dv a b := by exact reckN_6 a b
    rw [hv]
  go_enter Try.func9, Try.ntmps9
  go_upto_region 6 with (go_at_call 13; refine HB.out.mono ?_; rintro e w1 ⟨rfl, b1'⟩)
  obtain ⟨W, hW⟩ : ∃ W, W = (w1.alloc (.cells #[.int .i64 6, .int .i64 5, .int .i64 1, .int .i64 2] 44)).alloc (.cells #[.string ⟨#[114, 101, 99, 107, 111, 110]⟩, .slice (some ⟨w1.heap.size, 0, none⟩) 1 1] 24) := ⟨_, rfl⟩
  rw [← hW]
  obtain ⟨ro, pp0, pp1, bW, hs⟩ := one_new w1 6 5 1 2 _ W hW
  have G0 := Lib.hid (GA.new W 31 (zG 32))
  have G1 := Lib.hid (gThr_new W a b 99)
  have c1 : (W.alloc (.cells (gC (zG 32)) 31)).cell? ⟨W.heap.size, 1, none⟩ = some (.int .i32 0) := G0.out.cell 1 (by rw [zG_length]; omega)
  have f1 : (W.alloc (.cells (gC (zG 32)) 31)).frozen? ⟨W.heap.size, 1, none⟩ = false := G0.out.frozen 1
  have c2 : (W.alloc (.cells (gC (zG 32)) 31)).cell? ⟨W.heap.size, 2, none⟩ = some (.int .i32 0) := G0.out.cell 2 (by rw [zG_length]; omega)
  have f2 : (W.alloc (.cells (gC (zG 32)) 31)).frozen? ⟨W.heap.size, 2, none⟩ = false := G0.out.frozen 2
  have c5 : (W.alloc (.cells (gC (zG 32)) 31)).cell? ⟨W.heap.size, 5, none⟩ = some (.int .i32 0) := G0.out.cell 5 (by rw [zG_length]; omega)
  have f5 : (W.alloc (.cells (gC (zG 32)) 31)).frozen? ⟨W.heap.size, 5, none⟩ = false := G0.out.frozen 5
  have bA : Below W.heap.size W (W.alloc (.cells ((((gC (zG 32)).setIfInBounds 1 (.int .i32 a)).setIfInBounds 2 (.int .i32 b)).setIfInBounds 5 (.int .i32 99)) 31)) := (Below.refl _ _).alloc (Nat.le_refl _) _
  have p0 := (bA.cell (p := ⟨w1.heap.size + 1, 0, none⟩) (cell_lt pp0)).trans pp0
  have p1 := (bA.cell (p := ⟨w1.heap.size + 1, 1, none⟩) (cell_lt pp1)).trans pp1
  have hgl : Hid ((gThr a b 99).length = 32) := HGM.out.1
  have bw1 := b1'.trans (bW.mono b1'.size)
  have hsz1 := b1'.size
  have hbase := bw1.trans (bA.mono (by omega))
  have HS := Lib.hid (stepz_any (W.alloc (.cells ((((gC (zG 32)).setIfInBounds 1 (.int .i32 a)).setIfInBounds 2 (.int .i32 b)).setIfInBounds 5 (.int .i32 99)) 31)) (gThr a b 99) ⟨#[114, 101, 99, 107, 111, 110]⟩ 0 (some ⟨w1.heap.size, 0, none⟩) [⟨6, 5, 1, 2⟩] 1 W.heap.size (ro.below bA) bA.size (Nat.le_refl _) (by unfold maxLen; omega) (by decide) HGM.out)
  rw [HF.out] at HS
  have HHS := Lib.hid hs
  clear hs hW ro pp0 pp1 bW bw1 b1'
  go_wp2_with (with_reducible refine wpList_load_g rfl 31 (.tmp 9) rfl W.heap.size (by with_unfolding_all rfl) 31 (gThr a b 99) G1.out Try.underlying31 (by rw [hgl.out]; exact infoState) ?_)
  refine HS.out.mono ?_
  rintro e w2 ⟨rfl, b2⟩
  have bA2 := bA.size
  have bw2 := hbase.trans (b2.mono (by have := HHS.out; omega))
  have hs2 := b2.size
  have hss := HHS.out
  have hbase2 := bw2.size
  clear HS b2 hbase bA G0 G1 c1 f1 c2 f2 c5 f5 p0 p1 HB
  have G2 := Lib.hid (GA.new w2 31 (zG 32))
  have HZ1 : Hid (((gThr a b 99).set 5 (dv a b)).length = (zG 32).length) := by unfold Hid; rw [List.length_set, hgl.out, zG_length]
  have HL1 : Hid (((gThr a b 99).set 5 (dv a b)).length = 32) := by unfold Hid; rw [List.length_set, hgl.out]
  have X1 : Hid (((gThr a b 99).set 5 (dv a b))[1]? = some a) := by unfold Hid gThr zG; simp
  have X2 : Hid (((gThr a b 99).set 5 (dv a b))[2]? = some b) := by unfold Hid gThr zG; simp
  have X5 : Hid (((gThr a b 99).set 5 (dv a b))[5]? = some (dv a b)) := by unfold Hid gThr zG; simp
  obtain ⟨g', hg'⟩ : ∃ g', g' = (gThr a b 99).set 5 (dv a b) := ⟨_, rfl⟩
  rw [← hg'] at HZ1 HL1 X1 X2 X5
  rw [← hg']
  clear hg'
  have HRD := Lib.hid (fun W => refdiv_any a b W a0 a1 b0 b1)
  go_wp2_with (first
    | (with_reducible refine wpList_store_g rfl 31 (.tmp 10) (.tmp 33) rfl w2.heap.size (by with_unfolding_all rfl) 31 (zG 32) g' G2.out (by with_unfolding_all rfl) HZ1.out (by rw [HL1.out]; exact infoState) ?_; intro w3 G3 S3 R3; have H3 := Lib.hid G3; have SS := Lib.hid S3; have RR := Lib.hid R3; clear G3 S3 R3; have x1 := H3.out.cell_of X1.out; have x2 := H3.out.cell_of X2.out; have x5 := H3.out.cell_of X5.out; have hb3 := Lib.hid ((bw2.alloc (by omega) _).grown RR.out (by simp; omega) (by simp; omega)))
    | (go_at_call 25; with_reducible refine (HRD.out _).mono ?_; rintro e w4 ⟨rfl, rfl⟩))
  go_ret
  exact ⟨rfl, hb3.out⟩
set_option maxHeartbeats 2000000 in
theorem lreck_7lt (m code a b : Int) (e1 : code.tmod 6 = m) (e2 : (m + 6).tmod 6 = 4) (m0 : -6 < m) (m1 : m < 6) (w : World) (ha : in32 a) (hb : in32 b) (hab : a < b) :
    Calls Try.prog 9 #[.int .i64 code, .int .i32 a, .int .i32 b] w fun e w' => e = .returned (.bool true) ∧ Below w.heap.size w w' := by
  have hz := zeroState
  have HB := Lib.hid (begun9_any w)
  have HGM := Lib.hid (gThr_gam a b 99 ha hb (by unfold in32; omega))
  obtain ⟨a0, a1⟩ := ha
  obtain ⟨b0, b1⟩ := hb
  have HF : Hid ((frameN ⟨⟨#[114, 101, 99, 107, 111, 110]⟩, 0, []⟩ [⟨7, 5, 1, 2⟩] (gThr a b 99)).1 = (gThr a b 99).set 5 (1)) := by
    unfold Hid
    rw [frame_reck 7 a b (by omega) (by omega)]
    have hv : reckN 7 a b = 1 := by rw [reckN_7, decide_eq_true hab]; rfl
    rw [hv]
  go_enter Try.func9, Try.ntmps9
  go_upto_region 6 with (go_at_call 13; refine HB.out.mono ?_; rintro e w1 ⟨rfl, b1'⟩)
  obtain ⟨W, hW⟩ : ∃ W, W = (w1.alloc (.cells #[.int .i64 7, .int .i64 5, .int .i64 1, .int .i64 2] 44)).alloc (.cells #[.string ⟨#[114, 101, 99, 107, 111, 110]⟩, .slice (some ⟨w1.heap.size, 0, none⟩) 1 1] 24) := ⟨_, rfl⟩
  rw [← hW]
  obtain ⟨ro, pp0, pp1, bW, hs⟩ := one_new w1 7 5 1 2 _ W hW
  have G0 := Lib.hid (GA.new W 31 (zG 32))
  have G1 := Lib.hid (gThr_new W a b 99)
  have c1 : (W.alloc (.cells (gC (zG 32)) 31)).cell? ⟨W.heap.size, 1, none⟩ = some (.int .i32 0) := G0.out.cell 1 (by rw [zG_length]; omega)
  have f1 : (W.alloc (.cells (gC (zG 32)) 31)).frozen? ⟨W.heap.size, 1, none⟩ = false := G0.out.frozen 1
  have c2 : (W.alloc (.cells (gC (zG 32)) 31)).cell? ⟨W.heap.size, 2, none⟩ = some (.int .i32 0) := G0.out.cell 2 (by rw [zG_length]; omega)
  have f2 : (W.alloc (.cells (gC (zG 32)) 31)).frozen? ⟨W.heap.size, 2, none⟩ = false := G0.out.frozen 2
  have c5 : (W.alloc (.cells (gC (zG 32)) 31)).cell? ⟨W.heap.size, 5, none⟩ = some (.int .i32 0) := G0.out.cell 5 (by rw [zG_length]; omega)
  have f5 : (W.alloc (.cells (gC (zG 32)) 31)).frozen? ⟨W.heap.size, 5, none⟩ = false := G0.out.frozen 5
  have bA : Below W.heap.size W (W.alloc (.cells ((((gC (zG 32)).setIfInBounds 1 (.int .i32 a)).setIfInBounds 2 (.int .i32 b)).setIfInBounds 5 (.int .i32 99)) 31)) := (Below.refl _ _).alloc (Nat.le_refl _) _
  have p0 := (bA.cell (p := ⟨w1.heap.size + 1, 0, none⟩) (cell_lt pp0)).trans pp0
  have p1 := (bA.cell (p := ⟨w1.heap.size + 1, 1, none⟩) (cell_lt pp1)).trans pp1
  have hgl : Hid ((gThr a b 99).length = 32) := HGM.out.1
  have bw1 := b1'.trans (bW.mono b1'.size)
  have hsz1 := b1'.size
  have hbase := bw1.trans (bA.mono (by omega))
  have HS := Lib.hid (stepz_any (W.alloc (.cells ((((gC (zG 32)).setIfInBounds 1 (.int .i32 a)).setIfInBounds 2 (.int .i32 b)).setIfInBounds 5 (.int .i32 99)) 31)) (gThr a b 99) ⟨#[114, 101, 99, 107, 111, 110]⟩ 0 (some ⟨w1.heap.size, 0, none⟩) [⟨7, 5, 1, 2⟩] 1 W.heap.size (ro.below bA) bA.size (Nat.le_refl _) (by unfold maxLen; omega) (by decide) HGM.out)
  rw [HF.out] at HS
  have HHS := Lib.hid hs
  clear hs hW ro pp0 pp1 bW bw1 b1'
  go_wp2_with (with_reducible refine wpList_load_g rfl 31 (.tmp 9) rfl W.heap.size (by with_unfolding_all rfl) 31 (gThr a b 99) G1.out Try.underlying31 (by rw [hgl.out]; exact infoState) ?_)
  refine HS.out.mono ?_
  rintro e w2 ⟨rfl, b2⟩
  have bA2 := bA.size
  have bw2 := hbase.trans (b2.mono (by have := HHS.out; omega))
  have hs2 := b2.size
  have hss := HHS.out
  have hbase2 := bw2.size
  clear HS b2 hbase bA G0 G1 c1 f1 c2 f2 c5 f5 p0 p1 HB
  have G2 := Lib.hid (GA.new w2 31 (zG 32))
  have HZ1 : Hid (((gThr a b 99).set 5 (1)).length = (zG 32).length) := by unfold Hid; rw [List.length_set, hgl.out, zG_length]
  have HL1 : Hid (((gThr a b 99).set 5 (1)).length = 32) := by unfold Hid; rw [List.length_set, hgl.out]
  have X1 : Hid (((gThr a b 99).set 5 (1))[1]? = some a) := by unfold Hid gThr zG; simp
  have X2 : Hid (((gThr a b 99).set 5 (1))[2]? = some b) := by unfold Hid gThr zG; simp
  have X5 : Hid (((gThr a b 99).set 5 (1))[5]? = some (1)) := by unfold Hid gThr zG; simp
  obtain ⟨g', hg'⟩ : ∃ g', g' = (gThr a b 99).set 5 (1) := ⟨_, rfl⟩
  rw [← hg'] at HZ1 HL1 X1 X2 X5
  rw [← hg']
  clear hg'
  go_wp2_with (first
    | (with_reducible refine wpList_store_g rfl 31 (.tmp 10) (.tmp 33) rfl w2.heap.size (by with_unfolding_all rfl) 31 (zG 32) g' G2.out (by with_unfolding_all rfl) HZ1.out (by rw [HL1.out]; exact infoState) ?_; intro w3 G3 S3 R3; have H3 := Lib.hid G3; have SS := Lib.hid S3; have RR := Lib.hid R3; clear G3 S3 R3; have x1 := H3.out.cell_of X1.out; have x2 := H3.out.cell_of X2.out; have x5 := H3.out.cell_of X5.out; have hb3 := Lib.hid ((bw2.alloc (by omega) _).grown RR.out (by simp; omega) (by simp; omega)))
    | fail)
  go_ret
  exact ⟨rfl, hb3.out⟩
set_option maxHeartbeats 2000000 in
theorem lreck_7ge (m code a b : Int) (e1 : code.tmod 6 = m) (e2 : (m + 6).tmod 6 = 4) (m0 : -6 < m) (m1 : m < 6) (w : World) (ha : in32 a) (hb : in32 b) (hab : ¬ a < b) :
    Calls Try.prog 9 #[.int .i64 code, .int .i32 a, .int .i32 b] w fun e w' => e = .returned (.bool true) ∧ Below w.heap.size w w' := by
  have hz := zeroState
  have HB := Lib.hid (begun9_any w)
  have HGM := Lib.hid (gThr_gam a b 99 ha hb (by unfold in32; omega))
  obtain ⟨a0, a1⟩ := ha
  obtain ⟨b0, b1⟩ := hb
  have HF : Hid ((frameN ⟨⟨#[114, 101, 99, 107, 111, 110]⟩, 0, []⟩ [⟨7, 5, 1, 2⟩] (gThr a b 99)).1 = (gThr a b 99).set 5 (0)) := by
    unfold Hid
    rw [frame_reck 7 a b (by omega) (by omega)]
    have hv : reckN 7 a b = 0 := by rw [reckN_7, decide_eq_false hab]; rfl
    rw [hv]
  go_enter Try.func9, Try.ntmps9
  go_upto_region 6 with (go_at_call 13; refine HB.out.mono ?_; rintro e w1 ⟨rfl, b1'⟩)
  obtain ⟨W, hW⟩ : ∃ W, W = (w1.alloc (.cells #[.int .i64 7, .int .i64 5, .int .i64 1, .int .i64 2] 44)).alloc (.cells #[.string ⟨#[114, 101, 99, 107, 111, 110]⟩, .slice (some ⟨w1.heap.size, 0, none⟩) 1 1] 24) := ⟨_, rfl⟩
  rw [← hW]
  obtain ⟨ro, pp0, pp1, bW, hs⟩ := one_new w1 7 5 1 2 _ W hW
  have G0 := Lib.hid (GA.new W 31 (zG 32))
  have G1 := Lib.hid (gThr_new W a b 99)
  have c1 : (W.alloc (.cells (gC (zG 32)) 31)).cell? ⟨W.heap.size, 1, none⟩ = some (.int .i32 0) := G0.out.cell 1 (by rw [zG_length]; omega)
  have f1 : (W.alloc (.cells (gC (zG 32)) 31)).frozen? ⟨W.heap.size, 1, none⟩ = false := G0.out.frozen 1
  have c2 : (W.alloc (.cells (gC (zG 32)) 31)).cell? ⟨W.heap.size, 2, none⟩ = some (.int .i32 0) := G0.out.cell 2 (by rw [zG_length]; omega)
  have f2 : (W.alloc (.cells (gC (zG 32)) 31)).frozen? ⟨W.heap.size, 2, none⟩ = false := G0.out.frozen 2
  have c5 : (W.alloc (.cells (gC (zG 32)) 31)).cell? ⟨W.heap.size, 5, none⟩ = some (.int .i32 0) := G0.out.cell 5 (by rw [zG_length]; omega)
  have f5 : (W.alloc (.cells (gC (zG 32)) 31)).frozen? ⟨W.heap.size, 5, none⟩ = false := G0.out.frozen 5
  have bA : Below W.heap.size W (W.alloc (.cells ((((gC (zG 32)).setIfInBounds 1 (.int .i32 a)).setIfInBounds 2 (.int .i32 b)).setIfInBounds 5 (.int .i32 99)) 31)) := (Below.refl _ _).alloc (Nat.le_refl _) _
  have p0 := (bA.cell (p := ⟨w1.heap.size + 1, 0, none⟩) (cell_lt pp0)).trans pp0
  have p1 := (bA.cell (p := ⟨w1.heap.size + 1, 1, none⟩) (cell_lt pp1)).trans pp1
  have hgl : Hid ((gThr a b 99).length = 32) := HGM.out.1
  have bw1 := b1'.trans (bW.mono b1'.size)
  have hsz1 := b1'.size
  have hbase := bw1.trans (bA.mono (by omega))
  have HS := Lib.hid (stepz_any (W.alloc (.cells ((((gC (zG 32)).setIfInBounds 1 (.int .i32 a)).setIfInBounds 2 (.int .i32 b)).setIfInBounds 5 (.int .i32 99)) 31)) (gThr a b 99) ⟨#[114, 101, 99, 107, 111, 110]⟩ 0 (some ⟨w1.heap.size, 0, none⟩) [⟨7, 5, 1, 2⟩] 1 W.heap.size (ro.below bA) bA.size (Nat.le_refl _) (by unfold maxLen; omega) (by decide) HGM.out)
  rw [HF.out] at HS
  have HHS := Lib.hid hs
  clear hs hW ro pp0 pp1 bW bw1 b1'
  go_wp2_with (with_reducible refine wpList_load_g rfl 31 (.tmp 9) rfl W.heap.size (by with_unfolding_all rfl) 31 (gThr a b 99) G1.out Try.underlying31 (by rw [hgl.out]; exact infoState) ?_)
  refine HS.out.mono ?_
  rintro e w2 ⟨rfl, b2⟩
  have bA2 := bA.size
  have bw2 := hbase.trans (b2.mono (by have := HHS.out; omega))
  have hs2 := b2.size
  have hss := HHS.out
  have hbase2 := bw2.size
  clear HS b2 hbase bA G0 G1 c1 f1 c2 f2 c5 f5 p0 p1 HB
  have G2 := Lib.hid (GA.new w2 31 (zG 32))
  have HZ1 : Hid (((gThr a b 99).set 5 (0)).length = (zG 32).length) := by unfold Hid; rw [List.length_set, hgl.out, zG_length]
  have HL1 : Hid (((gThr a b 99).set 5 (0)).length = 32) := by unfold Hid; rw [List.length_set, hgl.out]
  have X1 : Hid (((gThr a b 99).set 5 (0))[1]? = some a) := by unfold Hid gThr zG; simp
  have X2 : Hid (((gThr a b 99).set 5 (0))[2]? = some b) := by unfold Hid gThr zG; simp
  have X5 : Hid (((gThr a b 99).set 5 (0))[5]? = some (0)) := by unfold Hid gThr zG; simp
  obtain ⟨g', hg'⟩ : ∃ g', g' = (gThr a b 99).set 5 (0) := ⟨_, rfl⟩
  rw [← hg'] at HZ1 HL1 X1 X2 X5
  rw [← hg']
  clear hg'
  go_wp2_with (first
    | (with_reducible refine wpList_store_g rfl 31 (.tmp 10) (.tmp 33) rfl w2.heap.size (by with_unfolding_all rfl) 31 (zG 32) g' G2.out (by with_unfolding_all rfl) HZ1.out (by rw [HL1.out]; exact infoState) ?_; intro w3 G3 S3 R3; have H3 := Lib.hid G3; have SS := Lib.hid S3; have RR := Lib.hid R3; clear G3 S3 R3; have x1 := H3.out.cell_of X1.out; have x2 := H3.out.cell_of X2.out; have x5 := H3.out.cell_of X5.out; have hb3 := Lib.hid ((bw2.alloc (by omega) _).grown RR.out (by simp; omega) (by simp; omega)))
    | fail)
  go_ret
  exact ⟨rfl, hb3.out⟩
set_option maxHeartbeats 2000000 in
theorem lreck_8eq (m code a b : Int) (e1 : code.tmod 6 = m) (e2 : (m + 6).tmod 6 = 5) (m0 : -6 < m) (m1 : m < 6) (w : World) (ha : in32 a) (hb : in32 b) (hab : (a == b) = true) :
    Calls Try.prog 9 #[.int .i64 code, .int .i32 a, .int .i32 b] w fun e w' => e = .returned (.bool true) ∧ Below w.heap.size w w' := by
  have hz := zeroState
  have HB := Lib.hid (begun9_any w)
  have HGM := Lib.hid (gThr_gam a b 99 ha hb (by unfold in32; omega))
  obtain ⟨a0, a1⟩ := ha
  obtain ⟨b0, b1⟩ := hb
  have HF : Hid ((frameN ⟨⟨#[114, 101, 99, 107, 111, 110]⟩, 0, []⟩ [⟨8, 5, 1, 2⟩] (gThr a b 99)).1 = (gThr a b 99).set 5 (1)) := by
    unfold Hid
    rw [frame_reck 8 a b (by omega) (by omega)]
    have hv : reckN 8 a b = 1 := by rw [reckN_8, hab]; rfl
    rw [hv]
  go_enter Try.func9, Try.ntmps9
  go_upto_region 6 with (go_at_call 13; refine HB.out.mono ?_; rintro e w1 ⟨rfl, b1'⟩)
  obtain ⟨W, hW⟩ : ∃ W, W = (w1.alloc (.cells #[.int .i64 8, .int .i64 5, .int .i64 1, .int .i64 2] 44)).alloc (.cells #[.string ⟨#[114, 101, 99, 107, 111, 110]⟩, .slice (some ⟨w1.heap.size, 0, none⟩) 1 1] 24) := ⟨_, rfl⟩
  rw [← hW]
  obtain ⟨ro, pp0, pp1, bW, hs⟩ := one_new w1 8 5 1 2 _ W hW
  have G0 := Lib.hid (GA.new W 31 (zG 32))
  have G1 := Lib.hid (gThr_new W a b 99)
  have c1 : (W.alloc (.cells (gC (zG 32)) 31)).cell? ⟨W.heap.size, 1, none⟩ = some (.int .i32 0) := G0.out.cell 1 (by rw [zG_length]; omega)
  have f1 : (W.alloc (.cells (gC (zG 32)) 31)).frozen? ⟨W.heap.size, 1, none⟩ = false := G0.out.frozen 1
  have c2 : (W.alloc (.cells (gC (zG 32)) 31)).cell? ⟨W.heap.size, 2, none⟩ = some (.int .i32 0) := G0.out.cell 2 (by rw [zG_length]; omega)
  have f2 : (W.alloc (.cells (gC (zG 32)) 31)).frozen? ⟨W.heap.size, 2, none⟩ = false := G0.out.frozen 2
  have c5 : (W.alloc (.cells (gC (zG 32)) 31)).cell? ⟨W.heap.size, 5, none⟩ = some (.int .i32 0) := G0.out.cell 5 (by rw [zG_length]; omega)
  have f5 : (W.alloc (.cells (gC (zG 32)) 31)).frozen? ⟨W.heap.size, 5, none⟩ = false := G0.out.frozen 5
  have bA : Below W.heap.size W (W.alloc (.cells ((((gC (zG 32)).setIfInBounds 1 (.int .i32 a)).setIfInBounds 2 (.int .i32 b)).setIfInBounds 5 (.int .i32 99)) 31)) := (Below.refl _ _).alloc (Nat.le_refl _) _
  have p0 := (bA.cell (p := ⟨w1.heap.size + 1, 0, none⟩) (cell_lt pp0)).trans pp0
  have p1 := (bA.cell (p := ⟨w1.heap.size + 1, 1, none⟩) (cell_lt pp1)).trans pp1
  have hgl : Hid ((gThr a b 99).length = 32) := HGM.out.1
  have bw1 := b1'.trans (bW.mono b1'.size)
  have hsz1 := b1'.size
  have hbase := bw1.trans (bA.mono (by omega))
  have HS := Lib.hid (stepz_any (W.alloc (.cells ((((gC (zG 32)).setIfInBounds 1 (.int .i32 a)).setIfInBounds 2 (.int .i32 b)).setIfInBounds 5 (.int .i32 99)) 31)) (gThr a b 99) ⟨#[114, 101, 99, 107, 111, 110]⟩ 0 (some ⟨w1.heap.size, 0, none⟩) [⟨8, 5, 1, 2⟩] 1 W.heap.size (ro.below bA) bA.size (Nat.le_refl _) (by unfold maxLen; omega) (by decide) HGM.out)
  rw [HF.out] at HS
  have HHS := Lib.hid hs
  clear hs hW ro pp0 pp1 bW bw1 b1'
  go_wp2_with (with_reducible refine wpList_load_g rfl 31 (.tmp 9) rfl W.heap.size (by with_unfolding_all rfl) 31 (gThr a b 99) G1.out Try.underlying31 (by rw [hgl.out]; exact infoState) ?_)
  refine HS.out.mono ?_
  rintro e w2 ⟨rfl, b2⟩
  have bA2 := bA.size
  have bw2 := hbase.trans (b2.mono (by have := HHS.out; omega))
  have hs2 := b2.size
  have hss := HHS.out
  have hbase2 := bw2.size
  clear HS b2 hbase bA G0 G1 c1 f1 c2 f2 c5 f5 p0 p1 HB
  have G2 := Lib.hid (GA.new w2 31 (zG 32))
  have HZ1 : Hid (((gThr a b 99).set 5 (1)).length = (zG 32).length) := by unfold Hid; rw [List.length_set, hgl.out, zG_length]
  have HL1 : Hid (((gThr a b 99).set 5 (1)).length = 32) := by unfold Hid; rw [List.length_set, hgl.out]
  have X1 : Hid (((gThr a b 99).set 5 (1))[1]? = some a) := by unfold Hid gThr zG; simp
  have X2 : Hid (((gThr a b 99).set 5 (1))[2]? = some b) := by unfold Hid gThr zG; simp
  have X5 : Hid (((gThr a b 99).set 5 (1))[5]? = some (1)) := by unfold Hid gThr zG; simp
  obtain ⟨g', hg'⟩ : ∃ g', g' = (gThr a b 99).set 5 (1) := ⟨_, rfl⟩
  rw [← hg'] at HZ1 HL1 X1 X2 X5
  rw [← hg']
  clear hg'
  go_wp2_with (first
    | (with_reducible refine wpList_store_g rfl 31 (.tmp 10) (.tmp 33) rfl w2.heap.size (by with_unfolding_all rfl) 31 (zG 32) g' G2.out (by with_unfolding_all rfl) HZ1.out (by rw [HL1.out]; exact infoState) ?_; intro w3 G3 S3 R3; have H3 := Lib.hid G3; have SS := Lib.hid S3; have RR := Lib.hid R3; clear G3 S3 R3; have x1 := H3.out.cell_of X1.out; have x2 := H3.out.cell_of X2.out; have x5 := H3.out.cell_of X5.out; have hb3 := Lib.hid ((bw2.alloc (by omega) _).grown RR.out (by simp; omega) (by simp; omega)))
    | fail)
  go_ret
  exact ⟨rfl, hb3.out⟩
set_option maxHeartbeats 2000000 in
theorem lreck_8ne (m code a b : Int) (e1 : code.tmod 6 = m) (e2 : (m + 6).tmod 6 = 5) (m0 : -6 < m) (m1 : m < 6) (w : World) (ha : in32 a) (hb : in32 b) (hab : (a == b) = false) :
    Calls Try.prog 9 #[.int .i64 code, .int .i32 a, .int .i32 b] w fun e w' => e = .returned (.bool true) ∧ Below w.heap.size w w' := by
  have hz := zeroState
  have HB := Lib.hid (begun9_any w)
  have HGM := Lib.hid (gThr_gam a b 99 ha hb (by unfold in32; omega))
  obtain ⟨a0, a1⟩ := ha
  obtain ⟨b0, b1⟩ := hb
  have HF : Hid ((frameN ⟨⟨#[114, 101, 99, 107, 111, 110]⟩, 0, []⟩ [⟨8, 5, 1, 2⟩] (gThr a b 99)).1 = (gThr a b 99).set 5 (0)) := by
    unfold Hid
    rw [frame_reck 8 a b (by omega) (by omega)]
    have hv : reckN 8 a b = 0 := by rw [reckN_8, hab]; rfl
    rw [hv]
  go_enter Try.func9, Try.ntmps9
  go_upto_region 6 with (go_at_call 13; refine HB.out.mono ?_; rintro e w1 ⟨rfl, b1'⟩)
  obtain ⟨W, hW⟩ : ∃ W, W = (w1.alloc (.cells #[.int .i64 8, .int .i64 5, .int .i64 1, .int .i64 2] 44)).alloc (.cells #[.string ⟨#[114, 101, 99, 107, 111, 110]⟩, .slice (some ⟨w1.heap.size, 0, none⟩) 1 1] 24) := ⟨_, rfl⟩
  rw [← hW]
  obtain ⟨ro, pp0, pp1, bW, hs⟩ := one_new w1 8 5 1 2 _ W hW
  have G0 := Lib.hid (GA.new W 31 (zG 32))
  have G1 := Lib.hid (gThr_new W a b 99)
  have c1 : (W.alloc (.cells (gC (zG 32)) 31)).cell? ⟨W.heap.size, 1, none⟩ = some (.int .i32 0) := G0.out.cell 1 (by rw [zG_length]; omega)
  have f1 : (W.alloc (.cells (gC (zG 32)) 31)).frozen? ⟨W.heap.size, 1, none⟩ = false := G0.out.frozen 1
  have c2 : (W.alloc (.cells (gC (zG 32)) 31)).cell? ⟨W.heap.size, 2, none⟩ = some (.int .i32 0) := G0.out.cell 2 (by rw [zG_length]; omega)
  have f2 : (W.alloc (.cells (gC (zG 32)) 31)).frozen? ⟨W.heap.size, 2, none⟩ = false := G0.out.frozen 2
  have c5 : (W.alloc (.cells (gC (zG 32)) 31)).cell? ⟨W.heap.size, 5, none⟩ = some (.int .i32 0) := G0.out.cell 5 (by rw [zG_length]; omega)
  have f5 : (W.alloc (.cells (gC (zG 32)) 31)).frozen? ⟨W.heap.size, 5, none⟩ = false := G0.out.frozen 5
  have bA : Below W.heap.size W (W.alloc (.cells ((((gC (zG 32)).setIfInBounds 1 (.int .i32 a)).setIfInBounds 2 (.int .i32 b)).setIfInBounds 5 (.int .i32 99)) 31)) := (Below.refl _ _).alloc (Nat.le_refl _) _
  have p0 := (bA.cell (p := ⟨w1.heap.size + 1, 0, none⟩) (cell_lt pp0)).trans pp0
  have p1 := (bA.cell (p := ⟨w1.heap.size + 1, 1, none⟩) (cell_lt pp1)).trans pp1
  have hgl : Hid ((gThr a b 99).length = 32) := HGM.out.1
  have bw1 := b1'.trans (bW.mono b1'.size)
  have hsz1 := b1'.size
  have hbase := bw1.trans (bA.mono (by omega))
  have HS := Lib.hid (stepz_any (W.alloc (.cells ((((gC (zG 32)).setIfInBounds 1 (.int .i32 a)).setIfInBounds 2 (.int .i32 b)).setIfInBounds 5 (.int .i32 99)) 31)) (gThr a b 99) ⟨#[114, 101, 99, 107, 111, 110]⟩ 0 (some ⟨w1.heap.size, 0, none⟩) [⟨8, 5, 1, 2⟩] 1 W.heap.size (ro.below bA) bA.size (Nat.le_refl _) (by unfold maxLen; omega) (by decide) HGM.out)
  rw [HF.out] at HS
  have HHS := Lib.hid hs
  clear hs hW ro pp0 pp1 bW bw1 b1'
  go_wp2_with (with_reducible refine wpList_load_g rfl 31 (.tmp 9) rfl W.heap.size (by with_unfolding_all rfl) 31 (gThr a b 99) G1.out Try.underlying31 (by rw [hgl.out]; exact infoState) ?_)
  refine HS.out.mono ?_
  rintro e w2 ⟨rfl, b2⟩
  have bA2 := bA.size
  have bw2 := hbase.trans (b2.mono (by have := HHS.out; omega))
  have hs2 := b2.size
  have hss := HHS.out
  have hbase2 := bw2.size
  clear HS b2 hbase bA G0 G1 c1 f1 c2 f2 c5 f5 p0 p1 HB
  have G2 := Lib.hid (GA.new w2 31 (zG 32))
  have HZ1 : Hid (((gThr a b 99).set 5 (0)).length = (zG 32).length) := by unfold Hid; rw [List.length_set, hgl.out, zG_length]
  have HL1 : Hid (((gThr a b 99).set 5 (0)).length = 32) := by unfold Hid; rw [List.length_set, hgl.out]
  have X1 : Hid (((gThr a b 99).set 5 (0))[1]? = some a) := by unfold Hid gThr zG; simp
  have X2 : Hid (((gThr a b 99).set 5 (0))[2]? = some b) := by unfold Hid gThr zG; simp
  have X5 : Hid (((gThr a b 99).set 5 (0))[5]? = some (0)) := by unfold Hid gThr zG; simp
  obtain ⟨g', hg'⟩ : ∃ g', g' = (gThr a b 99).set 5 (0) := ⟨_, rfl⟩
  rw [← hg'] at HZ1 HL1 X1 X2 X5
  rw [← hg']
  clear hg'
  go_wp2_with (first
    | (with_reducible refine wpList_store_g rfl 31 (.tmp 10) (.tmp 33) rfl w2.heap.size (by with_unfolding_all rfl) 31 (zG 32) g' G2.out (by with_unfolding_all rfl) HZ1.out (by rw [HL1.out]; exact infoState) ?_; intro w3 G3 S3 R3; have H3 := Lib.hid G3; have SS := Lib.hid S3; have RR := Lib.hid R3; clear G3 S3 R3; have x1 := H3.out.cell_of X1.out; have x2 := H3.out.cell_of X2.out; have x5 := H3.out.cell_of X5.out; have hb3 := Lib.hid ((bw2.alloc (by omega) _).grown RR.out (by simp; omega) (by simp; omega)))
    | fail)
  go_ret
  exact ⟨rfl, hb3.out⟩
theorem reckon_law (code a b : Int) (w : World) (ha : in32 a) (hb : in32 b) :
    Calls Try.prog 9 #[.int .i64 code, .int .i32 a, .int .i32 b] w fun e w' => e = .returned (.bool true) ∧ Below w.heap.size w w' := by
  obtain ⟨m, hm⟩ : ∃ m, code.tmod 6 = m := ⟨_, rfl⟩
  have h6 := Int.tmod_eq_emod (a := code) (b := 6)
  have hmb : -6 < m ∧ m < 6 := by
    split at h6 <;> omega
  obtain ⟨m0, m1⟩ := hmb
  obtain ⟨r, hr⟩ : ∃ r, (m + 6).tmod 6 = r := ⟨_, rfl⟩
  have h7 := Int.tmod_eq_emod (a := m + 6) (b := 6)
  rw [if_pos (by omega)] at h7
  have hrb : r = 0 ∨ r = 1 ∨ r = 2 ∨ r = 3 ∨ r = 4 ∨ r = 5 := by omega
  clear h6 h7
  rcases hrb with rfl | rfl | rfl | rfl | rfl | rfl
  · exact lreck_3 m code a b hm hr m0 m1 w ha hb
  · exact lreck_4 m code a b hm hr m0 m1 w ha hb
  · exact lreck_5 m code a b hm hr m0 m1 w ha hb
  · exact lreck_6 m code a b hm hr m0 m1 w ha hb
  · by_cases hab : a < b
    · exact lreck_7lt m code a b hm hr m0 m1 w ha hb hab
    · exact lreck_7ge m code a b hm hr m0 m1 w ha hb hab
  · cases hab : (a == b) with
    | true => exact lreck_8eq m code a b hm hr m0 m1 w ha hb hab
    | false => exact lreck_8ne m code a b hm hr m0 m1 w ha hb hab
end Go.Proofs.Ytkfbepkejdmaeaa
