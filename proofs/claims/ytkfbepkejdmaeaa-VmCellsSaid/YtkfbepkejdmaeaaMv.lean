/- WALK of the law VmCells. -/
import Derived.Test.YtkfbepkejdmaeaaMu
namespace Go.Proofs.Ytkfbepkejdmaeaa
set_option maxRecDepth 100000
open Go.RowKit
set_option linter.unusedVariables false

set_option maxHeartbeats 4000000 in
theorem cells_law (at_ v : Int) (w : World) (hat : in32 at_) (hv : in32 v) :
    Calls Try.prog 7 #[.int .i32 at_, .int .i32 v] w fun e w' => e = .returned (.bool true) ∧ Below w.heap.size w w' := by
  have hz := zeroState
  have hz2 := zeroGame
  have HB := Lib.hid (begun9_any w)
  have HGM := Lib.hid (gTwo_gam at_ v hat hv)
  have HCG := Lib.hid (cG_gam at_ v hat hv)
  have HMD := Lib.hid (fun W => refmod_any at_ 32 W hat.1 hat.2 (by omega) (by omega))
  have HFAR := Lib.hid (cG_far at_ v)
  clear hat hv
  go_enter Try.func7, Try.ntmps7
  go_upto_region 5 with (go_at_call 13; refine HB.out.mono ?_; rintro e w1 ⟨rfl, b1⟩)
  obtain ⟨W, hW⟩ : ∃ W, W = (w1.alloc (.cells #[.int .i64 13, .int .i64 0, .int .i64 1, .int .i64 0, .int .i64 12, .int .i64 2, .int .i64 0, .int .i64 0] 44)).alloc (.cells #[.string ⟨#[99, 101, 108, 108, 115]⟩, .slice (some ⟨w1.heap.size, 0, none⟩) 2 2] 24) := ⟨_, rfl⟩
  rw [← hW]
  obtain ⟨ro, pp0, pp1, bW, hs⟩ := progs_new w1 cOps 2 _ _ (by rfl) W hW
  have G0 := Lib.hid (GA.new W 31 (zG 32))
  have G1 := Lib.hid (gTwo_new W at_ v)
  have c0 : (W.alloc (.cells (gC (zG 32)) 31)).cell? ⟨W.heap.size, 0, none⟩ = some (.int .i32 0) := G0.out.cell 0 (by rw [zG_length]; omega)
  have f0 : (W.alloc (.cells (gC (zG 32)) 31)).frozen? ⟨W.heap.size, 0, none⟩ = false := G0.out.frozen 0
  have c1 : (W.alloc (.cells (gC (zG 32)) 31)).cell? ⟨W.heap.size, 1, none⟩ = some (.int .i32 0) := G0.out.cell 1 (by rw [zG_length]; omega)
  have f1 : (W.alloc (.cells (gC (zG 32)) 31)).frozen? ⟨W.heap.size, 1, none⟩ = false := G0.out.frozen 1
  have bA : Below W.heap.size W (W.alloc (.cells (((gC (zG 32)).setIfInBounds 0 (.int .i32 at_)).setIfInBounds 1 (.int .i32 v)) 31)) := (Below.refl _ _).alloc (Nat.le_refl _) _
  have p0 := (bA.cell (p := ⟨w1.heap.size + 1, 0, none⟩) (cell_lt pp0)).trans pp0
  have p1 := (bA.cell (p := ⟨w1.heap.size + 1, 1, none⟩) (cell_lt pp1)).trans pp1
  have hgl : Hid ((gTwo at_ v).length = 32) := HGM.out.1
  have bw1 := b1.trans (bW.mono b1.size)
  have hsz1 := b1.size
  have hbase := bw1.trans (bA.mono (by omega))
  have roA := ro.below bA
  have HRO := Lib.hid roA
  have HS : Hid (Calls Try.prog 18 #[.agg #[.string ⟨#[99, 101, 108, 108, 115]⟩, .slice (some ⟨w1.heap.size, 0, none⟩) 2 2], .agg (gC (gTwo at_ v)), .int .i64 0, .slice none 0 0] (W.alloc (.cells (((gC (zG 32)).setIfInBounds 0 (.int .i32 at_)).setIfInBounds 1 (.int .i32 v)) 31)) fun e w' => e = .returned (.agg (gC (cG at_ v))) ∧ Below (W.alloc (.cells (((gC (zG 32)).setIfInBounds 0 (.int .i32 at_)).setIfInBounds 1 (.int .i32 v)) 31)).heap.size (W.alloc (.cells (((gC (zG 32)).setIfInBounds 0 (.int .i32 at_)).setIfInBounds 1 (.int .i32 v)) 31)) w') := stepz_any (W.alloc (.cells (((gC (zG 32)).setIfInBounds 0 (.int .i32 at_)).setIfInBounds 1 (.int .i32 v)) 31)) (gTwo at_ v) ⟨#[99, 101, 108, 108, 115]⟩ 0 (some ⟨w1.heap.size, 0, none⟩) cOps 2 W.heap.size roA bA.size (by decide) (by unfold maxLen; omega) (by decide) HGM.out
  have HHS := Lib.hid hs
  have HP0 := Lib.hid p0; have HP1 := Lib.hid p1
  clear hs hW ro pp0 pp1 bW bw1 b1 roA
  go_wp2_with (with_reducible refine wpList_load_g rfl 31 (.tmp 7) rfl W.heap.size (by with_unfolding_all rfl) 31 (gTwo at_ v) G1.out Try.underlying31 (by rw [hgl.out]; exact infoState) ?_)
  refine HS.out.mono ?_
  rintro e w2 ⟨rfl, b2⟩
  have bA2 := bA.size
  have bw2 := hbase.trans (b2.mono (by have := HHS.out; omega))
  have hs2 := b2.size
  have hbase2 := bw2.size
  have hAs : W.heap.size < (W.alloc (.cells (((gC (zG 32)).setIfInBounds 0 (.int .i32 at_)).setIfInBounds 1 (.int .i32 v)) 31)).heap.size := by simp
  have G1b := Lib.hid (G1.out.below b2 hAs)
  have K0 := Lib.hid ((b2.cell (p := ⟨w1.heap.size + 1, 0, none⟩) (cell_lt HP0.out)).trans HP0.out)
  have K1 := Lib.hid ((b2.cell (p := ⟨w1.heap.size + 1, 1, none⟩) (cell_lt HP1.out)).trans HP1.out)
  have HRO2 := Lib.hid (HRO.out.below (b2.mono bA2))
  have hw12 : w1.heap.size + 1 < w2.heap.size := by have := HHS.out; omega
  have hW2 : W.heap.size < w2.heap.size := by omega
  clear HS b2 hbase bA G0 c0 f0 c1 f1 p0 p1 HB G1 HP0 HP1 HRO hAs
  have G2 := Lib.hid (GA.new w2 31 (zG 32))
  obtain ⟨g', hg'⟩ : ∃ g', g' = cG at_ v := ⟨_, rfl⟩
  have HL1 : Hid (g'.length = 32) := by unfold Hid; rw [hg']; exact HCG.out.1
  have HZ1 : Hid (g'.length = (zG 32).length) := by unfold Hid; rw [hg', HCG.out.1, zG_length]
  have HFR : Hid ((frameN ⟨⟨#[99, 101, 108, 108, 115]⟩, 0, []⟩ cOps (gTwo at_ v)).1 = g') := hg'.symm
  rw [← hg'] at HFAR
  rw [← hg']
  clear hg' HCG
  have bz : Below w2.heap.size w2 (w2.alloc (.cells (gC (zG 32)) 31)) := (Below.refl _ _).alloc (Nat.le_refl _) _
  go_upto_region 9 with (first
    | (with_reducible refine wpList_store_g rfl 31 (.tmp 8) (.tmp 25) rfl w2.heap.size (by with_unfolding_all rfl) 31 (zG 32) g' G2.out (by with_unfolding_all rfl) HZ1.out (by rw [HL1.out]; exact infoState) ?_; intro w3 G3 S3 R3; have H3 := Lib.hid G3; have SS := Lib.hid S3; have RR := Lib.hid R3; clear G3 S3 R3; have hb3 := Lib.hid ((bw2.alloc (by omega) _).grown RR.out (by simp; omega) (by simp; omega)))
    | (go_at_call 20; with_reducible refine (HMD.out _).mono ?_; rintro e w3' ⟨rfl, rfl⟩))
  have hs3 : w3.heap.size = w2.heap.size + 1 := by have := SS.out; simp at this; exact this
  have b23 : Below w2.heap.size w2 w3 := bz.grown RR.out (by simp) (by simp)
  have k0 := (b23.cell (p := ⟨w1.heap.size + 1, 0, none⟩) (show w1.heap.size + 1 < w2.heap.size by omega)).trans K0.out
  have k1 := (b23.cell (p := ⟨w1.heap.size + 1, 1, none⟩) (show w1.heap.size + 1 < w2.heap.size by omega)).trans K1.out
  have G1c := Lib.hid (G1b.out.below b23 hW2)
  have HRO3 := Lib.hid (HRO2.out.below (b23.mono (by omega)))
  obtain ⟨m0, m1⟩ := md32 at_
  have hhb3 := hb3.out.size
  generalize md at_ 32 = kk at *
  have HHs3 := Lib.hid hs3
  clear hs3 b23 K0 K1 G1b HRO2 bz RR SS
  by_cases hn : kk = 0 ∨ kk = 1 ∨ kk = 2
  · have HRS : Hid (Calls Try.prog 17 #[.agg #[.string ⟨#[99, 101, 108, 108, 115]⟩, .slice (some ⟨w1.heap.size, 0, none⟩) 2 2], .agg (gC (gTwo at_ v)), .int .i64 0, .slice none 0 0] w3 fun e w' => e = .returned (.tuple #[.agg (gC g'), .int .i64 ((frameN ⟨⟨#[99, 101, 108, 108, 115]⟩, 0, []⟩ cOps (gTwo at_ v)).2 : Nat)]) ∧ Below w3.heap.size w3 w') := by
      have h := refstep_any w3 (gTwo at_ v) ⟨⟨#[99, 101, 108, 108, 115]⟩, 0, []⟩ (some ⟨w1.heap.size, 0, none⟩) cOps 2 none 0 (HRO3.out.more (by have := HHs3.out; omega)) (by decide) (by unfold maxLen; omega) (by decide) HGM.out (RB.nil _ _ _) (Nat.le_refl _) (by unfold maxLen; omega)
      rw [HFR.out] at h
      exact h
    generalize (((frameN ⟨⟨#[99, 101, 108, 108, 115]⟩, 0, []⟩ cOps (gTwo at_ v)).2 : Nat) : Int) = cnt at *
    clear HFAR HRO3
    rcases hn with rfl | rfl | rfl
    all_goals
      go_wp2_with (with_reducible refine wpList_load_g rfl 31 (.tmp 7) rfl W.heap.size (by with_unfolding_all rfl) 31 (gTwo at_ v) G1c.out Try.underlying31 (by rw [hgl.out]; exact infoState) ?_)
      refine HRS.out.mono ?_
      rintro e w4 ⟨rfl, b4⟩
      have H4 := Lib.hid (H3.out.below b4 (by have := HHs3.out; omega))
      have Z4 := Lib.hid (GA.new w4 33 (zG 32))
      have hs4 := b4.size
      have hbw4 := hb3.out.trans (b4.mono (by have := HHs3.out; omega))
      have hlt4 : Hid (w2.heap.size < w4.heap.size) := by unfold Hid; have := HHs3.out; omega
      have hbs4 := hbw4.size
      clear b4 hs4
      go_wp2_with (first
        | (with_reducible refine wpList_store_g rfl 33 (.tmp 10) (.tmp 42) rfl w4.heap.size (by with_unfolding_all rfl) 33 (zG 32) g' Z4.out (by with_unfolding_all rfl) HZ1.out (by rw [HL1.out]; exact infoGame) ?_; intro w5 G5 S5 R5; have H5 := Lib.hid G5; have RR5 := Lib.hid R5; have HB5 := Lib.hid ((hbw4.alloc (by omega) _).grown R5 (by simp; omega) (by simp; omega)); have T5 := Lib.hid ((H4.out.alloc (.cells (gC (zG 32)) 33)).grown R5 (by have := hlt4.out; simp; omega)); clear G5 S5 R5)
        | (with_reducible refine wpList_load_g rfl 31 (.tmp 8) rfl w2.heap.size (by with_unfolding_all rfl) 31 g' T5.out Try.underlying31 (by rw [HL1.out]; exact infoState) ?_)
        | (with_reducible refine wpList_load_g rfl 33 (.tmp 10) rfl w4.heap.size (by with_unfolding_all rfl) 33 g' H5.out Try.underlying33 (by rw [HL1.out]; exact infoGame) ?_; have hq : ∀ W : World, (binOp .eql 33 (.agg (gC g')) (.agg (gC g'))).run Try.prog W = .ok (.bool true) W := fun W => by rw [eql_g 33 Try.underlying33 Try.underlying21 (by kernel_rfl) g' g' HL1.out HL1.out W]; simp))
      go_ret
      exact ⟨rfl, HB5.out⟩
  · obtain ⟨X, X2, X0, X1⟩ := HFAR.out (fun e => hn (.inl e)) (fun e => hn (.inr (.inl e))) (fun e => hn (.inr (.inr e)))
    have e0 : (kk == 0) = false := by rw [beq_eq_false_iff_ne]; exact fun e => hn (.inl e)
    have e1 : (kk == 1) = false := by rw [beq_eq_false_iff_ne]; exact fun e => hn (.inr (.inl e))
    have e2 : (kk == 2) = false := by rw [beq_eq_false_iff_ne]; exact fun e => hn (.inr (.inr e))
    have x := H3.out.cell_of X
    have x0 := H3.out.cell_of X0
    have x1 := H3.out.cell_of X1
    have x2 := H3.out.cell_of X2
    clear X X0 X1 X2 hn HFAR k0 k1
    go_wp2
    go_ret
    exact ⟨rfl, hb3.out⟩
end Go.Proofs.Ytkfbepkejdmaeaa
