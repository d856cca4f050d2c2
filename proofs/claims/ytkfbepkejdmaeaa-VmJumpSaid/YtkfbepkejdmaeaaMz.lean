/- WALK of the law VmJump. -/
import Derived.Test.YtkfbepkejdmaeaaMy
namespace Go.Proofs.Ytkfbepkejdmaeaa
set_option maxRecDepth 100000
open Go.RowKit
set_option linter.unusedVariables false

set_option maxHeartbeats 4000000 in
theorem jump_law (a n : Int) (w : World) (ha : in32 a) (n0 : -9223372036854775808 ≤ n) (n1 : n ≤ 9223372036854775807) :
    Calls Try.prog 10 #[.int .i32 a, .int .i64 n] w fun e w' => e = .returned (.bool true) ∧ Below w.heap.size w w' := by
  have hz := zeroState
  have HB := Lib.hid (begun9_any w)
  by_cases g1 : n < 0
  · go_enter Try.func10, Try.ntmps10
    go_wp2_with (go_at_call 13; refine HB.out.mono ?_; rintro e w1 ⟨rfl, b1⟩)
    go_ret
    exact ⟨rfl, b1⟩
  by_cases g2 : n > 20
  · go_enter Try.func10, Try.ntmps10
    go_wp2_with (go_at_call 13; refine HB.out.mono ?_; rintro e w1 ⟨rfl, b1⟩)
    go_ret
    exact ⟨rfl, b1⟩
  obtain ⟨N, hN⟩ : ∃ N : Nat, n = N := ⟨n.toNat, by omega⟩
  subst hN
  have hN20 : N ≤ 20 := by omega
  have HGM := Lib.hid (jumG_gam a ha)
  obtain ⟨a0, a1⟩ := ha
  go_enter Try.func10, Try.ntmps10
  go_wp2_with (go_at_call 13; refine HB.out.mono ?_; rintro e w1 ⟨rfl, b1⟩)
  have hbs1 := b1.size
  obtain ⟨W0, hW0⟩ : ∃ W0, W0 = (w1.alloc (.cells #[.int .i64 10, .int .i64 0, .int .i64 ((N : Int) + 1), .int .i64 0] 44)).alloc (.cells #[.string ⟨#[106, 117, 109, 112]⟩, .slice (some ⟨w1.heap.size, 0, none⟩) 1 1] 24) := ⟨_, rfl⟩
  rw [← hW0]
  have hW1 : W0 = (w1.alloc (oObj (zerO N))).alloc (.cells #[.string ⟨#[106, 117, 109, 112]⟩, .slice (some ⟨w1.heap.size, 0, none⟩) 1 1] 24) := hW0
  clear hW0
  have hrow0 : Hid (W0.rowIs (w1.heap.size + 1) 24 2 (pF ⟨#[106, 117, 109, 112]⟩ (.slice (some ⟨w1.heap.size, 0, none⟩) 1 1))) := by
    rw [hW1]; have h := pRow (w1.alloc (oObj (zerO N))) ⟨#[106, 117, 109, 112]⟩ (.slice (some ⟨w1.heap.size, 0, none⟩) 1 1); rw [World.size_alloc] at h; exact h
  have hown0 : Hid (OO W0 w1.heap.size (.slice (some ⟨w1.heap.size, 0, none⟩) 1 1) (jumOs N 0)) := by rw [hW1]; exact World.ownsRow.alloc (OO.lit w1 (zerO N) w1.heap.size (Nat.le_refl _)) _
  have hb0 : Below w1.heap.size w1 W0 := by rw [hW1]; exact ((Below.refl _ _).alloc (Nat.le_refl _) _).alloc (by simp) _
  have hs0 : (w1.heap.size + 1) < W0.heap.size := by rw [hW1]; simp
  have hne0 : Hid ((Value.slice (some ⟨w1.heap.size, 0, none⟩) 1 1).ownBlock ≠ some (w1.heap.size + 1)) := fun e => by have h : some w1.heap.size = some (w1.heap.size + 1) := e; have := Option.some.inj h; omega
  clear hW1
  go_loopw [7] (fun i wr => ∃ (k : Nat) (v : Value), i = .int .i64 k ∧ k ≤ N ∧ Hid (wr.rowIs (w1.heap.size + 1) 24 2 (pF ⟨#[106, 117, 109, 112]⟩ v)) ∧ Hid (OO wr w1.heap.size v (jumOs N k)) ∧ Hid (v.ownBlock ≠ some (w1.heap.size + 1)) ∧ Below w1.heap.size w1 wr ∧ (w1.heap.size + 1) < wr.heap.size) (fun i _ => N - (intOf i).toNat)
  case atStart => exact ⟨0, _, rfl, by omega, hrow0, hown0, hne0, hb0, hs0⟩
  case round =>
    obtain ⟨k, v, rfl, hk, hrow, hown, HNB, hb, hsz⟩ := hrel
    clear hrow0 hown0 hne0 hb0 hs0
    have q0 : wr.cell? ⟨(w1.heap.size + 1), 0, none⟩ = some (.string ⟨#[106, 117, 109, 112]⟩) := World.rowIs.cell hrow.out (show 0 < 2 by omega)
    have q1 : wr.cell? ⟨(w1.heap.size + 1), 1, none⟩ = some v := World.rowIs.cell hrow.out (show 1 < 2 by omega)
    have qf := World.rowIs.frozen hrow.out 1
    have hrem : k < 20 → (k : Int).tmod 20 = (k : Int) := fun h => by rw [Int.tmod_eq_emod_of_nonneg (by omega)]; omega
    by_cases hlt : k < N
    · have hkn : (k : Int) < (N : Int) := by omega
      have hrem := hrem (by omega)
      have HX := Lib.hid (hown.out.alloc (oObj (setO k)))
      have HQ := Lib.hid (oObj_reads wr (setO k))
      have HK := Lib.hid (show (jumOs N k : List O4).length + [(setO k)].length ≤ 1000000 by rw [jumOs_len]; simp; omega)
      have HBs := Lib.hid (show w1.heap.size ≤ (wr.alloc (oObj (setO k))).heap.size by simp; omega)
      have HRw := Lib.hid (World.rowIs.alloc hrow.out (oObj (setO k)))
      have hbw := hb.alloc (by omega) (oObj (setO k))
      have HN2 : Hid ((jumOs N k ++ [(setO k)]).length = k + 1 + 1) := by unfold Hid; rw [List.length_append, jumOs_len]; rfl
      go_wp2_with (at_builtin; refine wpList_append_ops rfl (.tmp 32) (.tmp 37) rfl w1.heap.size v (jumOs N k) [(setO k)] rfl HX.out (wr.heap.size + 1) (some ⟨wr.heap.size, 0, none⟩) 1 rfl HQ.out HK.out HBs.out ?_; intro v2 w2 o2 g2 x2; obtain ⟨A2, c2, rfl⟩ := o2.form_n (k + 1 + 1) HN2.out; have hrw2 : w2.rowIs (w1.heap.size + 1) 24 2 (pF ⟨#[106, 117, 109, 112]⟩ v) := World.rowIs.of_block HRw.out (g2.block _ (World.rowIs.lt HRw.out) (fun e => HNB.out e.symm)); have t1 := World.rowIs.cell hrw2 (show 1 < 2 by omega); have t2 := World.rowIs.frozen hrw2 1; have HRw2 := Lib.hid hrw2; clear hrw2; have HO2 := Lib.hid o2; clear o2; have hb3 := hbw.grown g2 hbw.size (fun j hj => (World.ownsRow.lt HX.out _ hj).1); have hsz2 := g2.size; have HX2 := Lib.hid x2; clear g2 x2)
      have HNE : Hid ((Value.slice A2 (k + 1 + 1) c2).ownBlock ≠ some (w1.heap.size + 1)) := fun e => by
        rcases HX2.out with h | h
        · rw [h] at e; exact HNB.out e
        · rw [h] at e
          have := Option.some.inj e
          simp at this
          omega
      simp only [World.size_alloc] at hsz2
      go_roundw
      case rel =>
        refine ⟨k + 1, .slice A2 (k + 1 + 1) c2, by go_num, by omega, ?_, ?_, HNE, hb3.setCell (by show w1.heap.size ≤ w1.heap.size + 1; omega) _, by simp; omega⟩
        · refine (World.rowIs.set HRw2.out 1 _).congr (fun i hi => ?_)
          obtain rfl | rfl : i = 0 ∨ i = 1 := by omega
          all_goals rfl
        · have := HO2.out
          unfold Hid
          rw [jumOs_snoc]
          exact ownsRow_setCell_other this HNE.out _
      case measure => simp [intOf]; omega
    · obtain rfl : k = N := by omega
      clear hrem
      have HX := Lib.hid (hown.out.alloc (oObj lasO))
      have HQ := Lib.hid (oObj_reads wr lasO)
      have HK := Lib.hid (show (jumOs k k : List O4).length + [lasO].length ≤ 1000000 by rw [jumOs_len]; simp; omega)
      have HBs := Lib.hid (show w1.heap.size ≤ (wr.alloc (oObj lasO)).heap.size by simp; omega)
      have HRw := Lib.hid (World.rowIs.alloc hrow.out (oObj lasO))
      have hbw := hb.alloc (by omega) (oObj lasO)
      have HN2 : Hid ((jumOs k k ++ [lasO]).length = k + 1 + 1) := by unfold Hid; rw [List.length_append, jumOs_len]; rfl
      go_upto_region 12 with (at_builtin; refine wpList_append_ops rfl (.tmp 41) (.tmp 43) rfl w1.heap.size v (jumOs k k) [lasO] rfl HX.out (wr.heap.size + 1) (some ⟨wr.heap.size, 0, none⟩) 1 rfl HQ.out HK.out HBs.out ?_; intro v2 w2 o2 g2 x2; obtain ⟨A2, c2, rfl⟩ := o2.form_n (k + 1 + 1) HN2.out; have hrw2 : w2.rowIs (w1.heap.size + 1) 24 2 (pF ⟨#[106, 117, 109, 112]⟩ v) := World.rowIs.of_block HRw.out (g2.block _ (World.rowIs.lt HRw.out) (fun e => HNB.out e.symm)); have t1 := World.rowIs.cell hrw2 (show 1 < 2 by omega); have t2 := World.rowIs.frozen hrw2 1; have HRw2 := Lib.hid hrw2; clear hrw2; have HO2 := Lib.hid o2; clear o2; have hb3 := hbw.grown g2 hbw.size (fun j hj => (World.ownsRow.lt HX.out _ hj).1); have hsz2 := g2.size; have HX2 := Lib.hid x2; clear g2 x2)
      have HNE : Hid ((Value.slice A2 (k + 1 + 1) c2).ownBlock ≠ some (w1.heap.size + 1)) := fun e => by
        rcases HX2.out with h | h
        · rw [h] at e; exact HNB.out e
        · rw [h] at e
          have := Option.some.inj e
          simp at this
          omega
      simp only [World.size_alloc] at hsz2
      obtain ⟨W, hW⟩ : ∃ W, W = w2.setCell ⟨w1.heap.size + 1, 1, none⟩ (.slice A2 (k + 1 + 1) c2) := ⟨_, rfl⟩
      rw [← hW]
      have hoW : OO W w1.heap.size (.slice A2 (k + 1 + 1) c2) (jumAll k) := by rw [hW]; exact ownsRow_setCell_other HO2.out HNE.out _
      have hrW : W.rowIs (w1.heap.size + 1) 24 2 (pF ⟨#[106, 117, 109, 112]⟩ (.slice A2 (k + 1 + 1) c2)) := by
        rw [hW]
        refine (World.rowIs.set HRw2.out 1 _).congr (fun i hi => ?_)
        obtain rfl | rfl : i = 0 ∨ i = 1 := by omega
        all_goals rfl
      have hsW : W.heap.size = w2.heap.size := by rw [hW]; simp
      have hbW : Below w1.heap.size w1 W := by rw [hW]; exact hb3.setCell (by show w1.heap.size ≤ w1.heap.size + 1; omega) _
      obtain ⟨hl1, hl2, hl3, roW⟩ := hoW.reads
      have pp0 := World.rowIs.cell hrW (show 0 < 2 by omega)
      have pp1 := World.rowIs.cell hrW (show 1 < 2 by omega)
      have hwW : w1.heap.size + 1 < W.heap.size := by omega
      clear hW hoW hrW hsW hb3 HO2 HRw2 t1 t2 hbw HX HQ HK HBs HRw hown hrow q0 q1 qf hb HNE HNB HN2 hsz hsz2 HX2
      have G0 := Lib.hid (GA.new W 31 (zG 32))
      have G1 : Hid (GA (W.alloc (.cells ((gC (zG 32)).setIfInBounds 0 (.int .i32 a)) 31)) W.heap.size 31 (jumG a)) := by rw [gC_set]; exact GA.new W _ _
      have c0 : (W.alloc (.cells (gC (zG 32)) 31)).cell? ⟨W.heap.size, 0, none⟩ = some (.int .i32 0) := G0.out.cell 0 (by rw [zG_length]; omega)
      have f0 : (W.alloc (.cells (gC (zG 32)) 31)).frozen? ⟨W.heap.size, 0, none⟩ = false := G0.out.frozen 0
      have bA : Below W.heap.size W (W.alloc (.cells ((gC (zG 32)).setIfInBounds 0 (.int .i32 a)) 31)) := (Below.refl _ _).alloc (Nat.le_refl _) _
      have p0 : _ = some (Value.string ⟨#[106, 117, 109, 112]⟩) := (bA.cell (p := ⟨w1.heap.size + 1, 0, none⟩) hwW).trans pp0
      have p1 : _ = some (Value.slice A2 (k + 1 + 1) c2) := (bA.cell (p := ⟨w1.heap.size + 1, 1, none⟩) hwW).trans pp1
      have hgl : Hid ((jumG a).length = 32) := HGM.out.1
      obtain ⟨FG, hFG⟩ : ∃ FG, FG = jumR k (if a = 0 then 0 else 7) a := ⟨_, rfl⟩
      have hfr := (jum_frame k hN20 a).trans hFG.symm
      have HS : Hid (Calls Try.prog 18 #[.agg #[.string ⟨#[106, 117, 109, 112]⟩, .slice A2 (k + 1 + 1) c2], .agg (gC (jumG a)), .int .i64 0, .slice none 0 0] (W.alloc (.cells ((gC (zG 32)).setIfInBounds 0 (.int .i32 a)) 31)) fun e w' => e = .returned (.agg (gC FG)) ∧ Below (W.alloc (.cells ((gC (zG 32)).setIfInBounds 0 (.int .i32 a)) 31)).heap.size (W.alloc (.cells ((gC (zG 32)).setIfInBounds 0 (.int .i32 a)) 31)) w') := by
        have h := stepz_any (W.alloc (.cells ((gC (zG 32)).setIfInBounds 0 (.int .i32 a)) 31)) (jumG a) ⟨#[106, 117, 109, 112]⟩ 0 A2 (jumAll k) c2 W.heap.size (roW.below bA) bA.size (by omega) hl3 (by decide) HGM.out
        have hfr2 : (frameN ⟨⟨#[106, 117, 109, 112]⟩, 0, []⟩ (jumAll k) (jumG a)).1 = FG := hfr
        rw [hfr2, hl1] at h
        exact h
      have HL1 : Hid (FG.length = 32) := by rw [hFG]; exact jumR_len _ _ _ (by omega)
      have HZ1 : Hid (FG.length = (zG 32).length) := by unfold Hid; rw [HL1.out, zG_length]
      have HX0 : Hid (FG[0]? = some a) := by rw [hFG]; rfl
      have HX1 : Hid (FG[1]? = some 5) := by rw [hFG]; rfl
      have HXI : Hid (∀ i, i < k → FG[2 + i]? = some (if a = 0 then 0 else 7)) := by rw [hFG]; exact fun i hi => jumR_at k _ a i hi
      clear roW pp0 pp1 hFG hfr
      go_wp2_with (with_reducible refine wpList_load_g rfl 31 (.tmp 8) rfl W.heap.size (by with_unfolding_all rfl) 31 (jumG a) G1.out Try.underlying31 (by rw [hgl.out]; exact infoState) ?_)
      refine HS.out.mono ?_
      rintro e w5 ⟨rfl, b5⟩
      have hAs := bA.size
      have hb5 := b5.size
      have hbw5 : Below w1.heap.size w1 w5 := hbW.trans ((bA.trans (b5.mono bA.size)).mono hbW.size)
      have G2 := Lib.hid (GA.new w5 31 (zG 32))
      have bz0 := hbw5.alloc (by omega) (.cells (gC (zG 32)) 31)
      clear HS b5 bA G0 G1 c0 f0 p0 p1 HB hbW hl1 hl2 hl3
      go_wp2_with (with_reducible refine wpList_store_g rfl 31 (.tmp 9) (.tmp 50) rfl w5.heap.size (by with_unfolding_all rfl) 31 (zG 32) FG G2.out (by with_unfolding_all rfl) HZ1.out (by rw [HL1.out]; exact infoState) ?_; intro w6 G3 S3 R3; have H3 := Lib.hid G3; have hb6 := Lib.hid (bz0.grown R3 (by simp; omega) (by simp; omega)); clear G3 S3 R3)
      have x0 := H3.out.cell_of HX0.out
      have x1 := H3.out.cell_of HX1.out
      have X0 := Lib.hid x0; have X1 := Lib.hid x1
      clear x0 x1
      go_loop [10] (fun i => ∃ j : Nat, j ≤ k ∧ i = .int .i64 j) (fun i => k - (intOf i).toNat)
      case atStart => exact ⟨0, by omega, rfl⟩
      case round =>
        obtain ⟨j, hj, rfl⟩ := hrel
        by_cases hjk : j < k
        · have hjc : (j : Int) < (k : Int) := by omega
          have hrem : (j : Int).tmod 20 = (j : Int) := by rw [Int.tmod_eq_emod_of_nonneg (by omega)]; omega
          have xi := H3.out.cell_of (HXI.out j hjk)
          have hto : (2 + (j : Int)).toNat = 2 + j := by omega
          by_cases haz : a = 0
          · rw [if_pos haz] at xi
            have hab : (a == 0) = true := by rw [beq_iff_eq]; exact haz
            clear haz
            go_wp2
            go_round
            case rel => exact ⟨j + 1, by omega, by go_num⟩
            case measure => simp [intOf]; omega
          · rw [if_neg haz] at xi
            have hab : (a == 0) = false := by rw [beq_eq_false_iff_ne]; exact haz
            clear haz
            go_wp2
            go_round
            case rel => exact ⟨j + 1, by omega, by go_num⟩
            case measure => simp [intOf]; omega
        · have hjc : ¬ (j : Int) < (k : Int) := by omega
          have x0 := X0.out
          have x1 := X1.out
          go_wp2
          go_ret
          exact ⟨rfl, b1.trans (hb6.out.mono hbs1)⟩
end Go.Proofs.Ytkfbepkejdmaeaa
