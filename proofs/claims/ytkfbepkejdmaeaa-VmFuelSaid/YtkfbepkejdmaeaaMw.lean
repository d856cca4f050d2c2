/- WALK of the law VmFuel. -/
import Derived.Test.YtkfbepkejdmaeaaMu
import Derived.Test.YtkfbepkejdmaeaaMx
import Derived.BigQuiet
namespace Go.Proofs.Ytkfbepkejdmaeaa
set_option maxRecDepth 100000
open Go.RowKit
set_option linter.unusedVariables false

def addO : O4 := ⟨3, 0, 0, 1⟩
def jmpO : O4 := ⟨9, 0, 0, 0⟩
def fuelOs (N : Nat) : List O4 := List.replicate N addO ++ [jmpO]
def fuelG : List Int := (zG 32).set 1 1
def fuelV (N : Nat) : Nat := 200 / (N + 1) * N + min (200 % (N + 1)) N
theorem fuelG_gam : gam fuelG := gam.zero.set 1 (by unfold in32; omega)
theorem fuel_all : ∀ N, N < 61 → 1 ≤ N → (frameN ⟨⟨#[114, 111, 117, 110, 100]⟩, 0, []⟩ (fuelOs N) fuelG).2 = 200 ∧ (frameN ⟨⟨#[114, 111, 117, 110, 100]⟩, 0, []⟩ (fuelOs N) fuelG).1[0]? = some ((fuelV N : Nat) : Int) := by decide +kernel

theorem fuel_div (k : Nat) : (200 : Int).tdiv ((k : Int) + 1) = ((200 / (k + 1) : Nat) : Int) := by
  rw [Int.tdiv_eq_ediv_of_nonneg (by omega)]
  exact (Int.natCast_ediv 200 (k + 1)).symm
theorem fuel_mod (k : Nat) : (200 : Int).tmod ((k : Int) + 1) = ((200 % (k + 1) : Nat) : Int) := by
  rw [Int.tmod_eq_emod_of_nonneg (by omega)]
  exact (Int.natCast_emod 200 (k + 1)).symm
theorem fuel_le (k : Nat) : 200 / (k + 1) * k + min (200 % (k + 1)) k ≤ 200 := by
  have h1 := Nat.div_add_mod 200 (k + 1)
  have h2 : 200 / (k + 1) * k ≤ (k + 1) * (200 / (k + 1)) := by rw [Nat.mul_comm]; exact Nat.mul_le_mul (by omega) (Nat.le_refl _)
  have h3 := Nat.min_le_left (200 % (k + 1)) k
  omega
set_option maxHeartbeats 4000000 in
theorem fuel_law (n : Int) (w : World) (n0 : -9223372036854775808 ≤ n) (n1 : n ≤ 9223372036854775807) :
    Calls Try.prog 5 #[.int .i64 n] w fun e w' => e = .returned (.bool true) ∧ Below w.heap.size w w' := by
  have hz := zeroState
  have HB := Lib.hid (begun9_any w)
  by_cases g1 : n < 1
  · go_enter Try.func5, Try.ntmps5
    go_wp2_with (go_at_call 13; refine HB.out.mono ?_; rintro e w1 ⟨rfl, b1⟩)
    go_ret
    exact ⟨rfl, b1⟩
  by_cases g2 : n > 60
  · go_enter Try.func5, Try.ntmps5
    go_wp2_with (go_at_call 13; refine HB.out.mono ?_; rintro e w1 ⟨rfl, b1⟩)
    go_ret
    exact ⟨rfl, b1⟩
  obtain ⟨N, hN⟩ : ∃ N : Nat, n = N := ⟨n.toNat, by omega⟩
  subst hN
  have hN1 : 1 ≤ N := by omega
  have hN60 : N ≤ 60 := by omega
  go_enter Try.func5, Try.ntmps5
  go_wp2_with (go_at_call 13; refine HB.out.mono ?_; rintro e w1 ⟨rfl, b1⟩)
  have hbs1 := b1.size
  have hrow0 : Hid ((w1.alloc (.cells #[.string ⟨#[114, 111, 117, 110, 100]⟩, .slice none 0 0] 24)).rowIs w1.heap.size 24 2 (pF ⟨#[114, 111, 117, 110, 100]⟩ (.slice none 0 0))) := pRow w1 _ _
  have hb0 : Below w1.heap.size w1 (w1.alloc (.cells #[.string ⟨#[114, 111, 117, 110, 100]⟩, .slice none 0 0] 24)) := (Below.refl _ _).alloc (Nat.le_refl _) _
  go_loopw [5] (fun i wr => ∃ (k : Nat) (v : Value), i = .int .i64 k ∧ k ≤ N ∧ Hid (wr.rowIs w1.heap.size 24 2 (pF ⟨#[114, 111, 117, 110, 100]⟩ v)) ∧ Hid (OO wr (w1.heap.size + 1) v (List.replicate k addO)) ∧ Below w1.heap.size w1 wr ∧ w1.heap.size + 1 ≤ wr.heap.size) (fun i _ => N - (intOf i).toNat)
  case atStart => exact ⟨0, _, rfl, by omega, hrow0, OO.nil _ _, hb0, by simp⟩
  case round =>
    obtain ⟨k, v, rfl, hk, hrow, hown, hb, hsz⟩ := hrel
    clear hrow0 hb0
    have hgl := World.rowIs.lt hrow.out
    have q0 : wr.cell? ⟨w1.heap.size, 0, none⟩ = some (.string ⟨#[114, 111, 117, 110, 100]⟩) := World.rowIs.cell hrow.out (show 0 < 2 by omega)
    have q1 : wr.cell? ⟨w1.heap.size, 1, none⟩ = some v := World.rowIs.cell hrow.out (show 1 < 2 by omega)
    have qf := World.rowIs.frozen hrow.out 1
    have HNB : Hid (v.ownBlock ≠ some w1.heap.size) := fun e => by have := hown.out.ge _ e; omega
    by_cases hlt : k < N
    · have hkn : (k : Int) < (N : Int) := by omega
      have HX := Lib.hid (hown.out.alloc (oObj addO))
      have HQ := Lib.hid (oObj_reads wr addO)
      have HK := Lib.hid (show (List.replicate k addO : List O4).length + [addO].length ≤ 1000000 by simp; omega)
      have HBs := Lib.hid (show w1.heap.size + 1 ≤ (wr.alloc (oObj addO)).heap.size by simp; omega)
      have HRw := Lib.hid (World.rowIs.alloc hrow.out (oObj addO))
      have hbw := hb.alloc (by omega) (oObj addO)
      have HN2 : Hid ((List.replicate k addO ++ [addO]).length = k + 1) := by unfold Hid; simp
      go_wp2_with (at_builtin; refine wpList_append_ops rfl (.tmp 26) (.tmp 28) rfl (w1.heap.size + 1) v (List.replicate k addO) [addO] rfl HX.out (wr.heap.size + 1) (some ⟨wr.heap.size, 0, none⟩) 1 rfl HQ.out HK.out HBs.out ?_; intro v2 w2 o2 g2 x2; obtain ⟨A2, c2, rfl⟩ := o2.form_n (k + 1) HN2.out; have hrw2 : w2.rowIs w1.heap.size 24 2 (pF ⟨#[114, 111, 117, 110, 100]⟩ v) := World.rowIs.of_block HRw.out (g2.block _ (World.rowIs.lt HRw.out) (fun e => HNB.out e.symm)); have t1 := World.rowIs.cell hrw2 (show 1 < 2 by omega); have t2 := World.rowIs.frozen hrw2 1; have HRw2 := Lib.hid hrw2; clear hrw2; have HO2 := Lib.hid o2; clear o2; have hb3 := hbw.grown g2 hbw.size (fun j hj => by have := (World.ownsRow.lt HX.out _ hj).1; omega); have hsz2 := g2.size; clear g2 x2)
      have HNE : Hid ((Value.slice A2 (k + 1) c2).ownBlock ≠ some w1.heap.size) := fun e => by have := HO2.out.ge _ e; omega
      simp only [World.size_alloc] at hsz2
      go_roundw
      case rel =>
        refine ⟨k + 1, .slice A2 (k + 1) c2, by go_num, by omega, ?_, ?_, hb3.setCell (Nat.le_refl _) _, by simp; omega⟩
        · refine (World.rowIs.set HRw2.out 1 _).congr (fun i hi => ?_)
          obtain rfl | rfl : i = 0 ∨ i = 1 := by omega
          all_goals rfl
        · have := HO2.out
          unfold Hid
          rw [List.replicate_succ']
          exact ownsRow_setCell_other this HNE.out _
      case measure => simp [intOf]; omega
    · obtain rfl : k = N := by omega
      have HX := Lib.hid (hown.out.alloc (oObj jmpO))
      have HQ := Lib.hid (oObj_reads wr jmpO)
      have HK := Lib.hid (show (List.replicate k addO : List O4).length + [jmpO].length ≤ 1000000 by simp; omega)
      have HBs := Lib.hid (show w1.heap.size + 1 ≤ (wr.alloc (oObj jmpO)).heap.size by simp; omega)
      have HRw := Lib.hid (World.rowIs.alloc hrow.out (oObj jmpO))
      have hbw := hb.alloc (by omega) (oObj jmpO)
      have HN2 : Hid ((List.replicate k addO ++ [jmpO]).length = k + 1) := by unfold Hid; simp
      go_upto_region 12 with (at_builtin; refine wpList_append_ops rfl (.tmp 32) (.tmp 34) rfl (w1.heap.size + 1) v (List.replicate k addO) [jmpO] rfl HX.out (wr.heap.size + 1) (some ⟨wr.heap.size, 0, none⟩) 1 rfl HQ.out HK.out HBs.out ?_; intro v2 w2 o2 g2 x2; obtain ⟨A2, c2, rfl⟩ := o2.form_n (k + 1) HN2.out; have hrw2 : w2.rowIs w1.heap.size 24 2 (pF ⟨#[114, 111, 117, 110, 100]⟩ v) := World.rowIs.of_block HRw.out (g2.block _ (World.rowIs.lt HRw.out) (fun e => HNB.out e.symm)); have t1 := World.rowIs.cell hrw2 (show 1 < 2 by omega); have t2 := World.rowIs.frozen hrw2 1; have HRw2 := Lib.hid hrw2; clear hrw2; have HO2 := Lib.hid o2; clear o2; have hb3 := hbw.grown g2 hbw.size (fun j hj => by have := (World.ownsRow.lt HX.out _ hj).1; omega); have hsz2 := g2.size; clear g2 x2)
      simp only [World.size_alloc] at hsz2
      obtain ⟨W, hW⟩ : ∃ W, W = w2.setCell ⟨w1.heap.size, 1, none⟩ (.slice A2 (k + 1) c2) := ⟨_, rfl⟩
      rw [← hW]
      have HNE : (Value.slice A2 (k + 1) c2).ownBlock ≠ some w1.heap.size := fun e => by have := HO2.out.ge _ e; omega
      have hoW : OO W (w1.heap.size + 1) (.slice A2 (k + 1) c2) (fuelOs k) := by rw [hW]; exact ownsRow_setCell_other HO2.out HNE _
      have hrW : W.rowIs w1.heap.size 24 2 (pF ⟨#[114, 111, 117, 110, 100]⟩ (.slice A2 (k + 1) c2)) := by
        rw [hW]
        refine (World.rowIs.set HRw2.out 1 _).congr (fun i hi => ?_)
        obtain rfl | rfl : i = 0 ∨ i = 1 := by omega
        all_goals rfl
      have hsW : W.heap.size = w2.heap.size := by rw [hW]; simp
      have hbW : Below w1.heap.size w1 W := by rw [hW]; exact hb3.setCell (Nat.le_refl _) _
      obtain ⟨hl1, hl2, hl3, roW⟩ := hoW.reads
      have pp0 := World.rowIs.cell hrW (show 0 < 2 by omega)
      have pp1 := World.rowIs.cell hrW (show 1 < 2 by omega)
      have hwW : w1.heap.size < W.heap.size := by omega
      clear hW hoW hrW hsW hb3 HO2 HRw2 t1 t2 hbw HX HQ HK HBs HRw hown hrow q0 q1 qf hb HNE HNB HN2 hgl hsz hsz2
      have G0 := Lib.hid (GA.new W 31 (zG 32))
      have hset : (gC (zG 32)).setIfInBounds 1 (.int .i32 1) = gC fuelG := gC_set _ _ _
      have G1 : Hid (GA (W.alloc (.cells ((gC (zG 32)).setIfInBounds 1 (.int .i32 1)) 31)) W.heap.size 31 fuelG) := by rw [hset]; exact GA.new W _ _
      have c1 : (W.alloc (.cells (gC (zG 32)) 31)).cell? ⟨W.heap.size, 1, none⟩ = some (.int .i32 0) := G0.out.cell 1 (by rw [zG_length]; omega)
      have f1 : (W.alloc (.cells (gC (zG 32)) 31)).frozen? ⟨W.heap.size, 1, none⟩ = false := G0.out.frozen 1
      have bA : Below W.heap.size W (W.alloc (.cells ((gC (zG 32)).setIfInBounds 1 (.int .i32 1)) 31)) := (Below.refl _ _).alloc (Nat.le_refl _) _
      have p0 : _ = some (Value.string ⟨#[114, 111, 117, 110, 100]⟩) := (bA.cell (p := ⟨w1.heap.size, 0, none⟩) hwW).trans pp0
      have p1 : _ = some (Value.slice A2 (k + 1) c2) := (bA.cell (p := ⟨w1.heap.size, 1, none⟩) hwW).trans pp1
      have hgl : Hid (fuelG.length = 32) := fuelG_gam.1
      obtain ⟨FG, hFG⟩ : ∃ FG, FG = (frameN ⟨⟨#[114, 111, 117, 110, 100]⟩, 0, []⟩ (fuelOs k) fuelG).1 := ⟨_, rfl⟩
      obtain ⟨hF2, hF1⟩ := fuel_all k (by omega) hN1
      have hFgam : gam FG := by rw [hFG]; exact frameN_gam _ _ fuelG_gam
      rw [← hFG] at hF1
      have HS : Hid (Calls Try.prog 18 #[.agg #[.string ⟨#[114, 111, 117, 110, 100]⟩, .slice A2 (k + 1) c2], .agg (gC fuelG), .int .i64 0, .slice none 0 0] (W.alloc (.cells ((gC (zG 32)).setIfInBounds 1 (.int .i32 1)) 31)) fun e w' => e = .returned (.agg (gC FG)) ∧ Below (W.alloc (.cells ((gC (zG 32)).setIfInBounds 1 (.int .i32 1)) 31)).heap.size (W.alloc (.cells ((gC (zG 32)).setIfInBounds 1 (.int .i32 1)) 31)) w') := by
        have h := stepz_any (W.alloc (.cells ((gC (zG 32)).setIfInBounds 1 (.int .i32 1)) 31)) fuelG ⟨#[114, 111, 117, 110, 100]⟩ 0 A2 (fuelOs k) c2 W.heap.size (roW.below bA) bA.size (by omega) hl3 (by decide) fuelG_gam
        rw [← hFG, hl1] at h
        exact h
      have HRO := Lib.hid (roW.below bA)
      have HL1 := Lib.hid hFgam.1
      have HZ1 := Lib.hid (gam_len hFgam)
      have HF2 := Lib.hid hF2; have HF1 := Lib.hid hF1
      have HP0 := Lib.hid p0; have HP1 := Lib.hid p1
      clear hset roW pp0 pp1 hFG hF2 hF1 hFgam
      go_wp2_with (with_reducible refine wpList_load_g rfl 31 (.tmp 6) rfl W.heap.size (by with_unfolding_all rfl) 31 fuelG G1.out Try.underlying31 (by rw [hgl.out]; exact infoState) ?_)
      refine HS.out.mono ?_
      rintro e w5 ⟨rfl, b5⟩
      have hAs := bA.size
      have hb5 := b5.size
      have hbw5 : Below w1.heap.size w1 w5 := hbW.trans ((bA.trans (b5.mono bA.size)).mono hbW.size)
      have K0 := Lib.hid ((b5.cell (p := ⟨w1.heap.size, 0, none⟩) (cell_lt HP0.out)).trans HP0.out)
      have K1 := Lib.hid ((b5.cell (p := ⟨w1.heap.size, 1, none⟩) (cell_lt HP1.out)).trans HP1.out)
      have hAlt : W.heap.size < (W.alloc (.cells ((gC (zG 32)).setIfInBounds 1 (.int .i32 1)) 31)).heap.size := by simp
      have G1b := Lib.hid (G1.out.below b5 hAlt)
      have HRO5 := Lib.hid (HRO.out.below (b5.mono hAs))
      have hW5 : W.heap.size < w5.heap.size := by omega
      have G2 := Lib.hid (GA.new w5 31 (zG 32))
      have bz : Below w5.heap.size w5 (w5.alloc (.cells (gC (zG 32)) 31)) := (Below.refl _ _).alloc (Nat.le_refl _) _
      have bz0 := hbw5.alloc (by omega) (.cells (gC (zG 32)) 31)
      clear HS b5 bA G0 G1 HP0 HP1 HRO c1 f1 p0 p1 HB hbW hAlt
      go_upto_region 15 with (with_reducible refine wpList_store_g rfl 31 (.tmp 7) (.tmp 40) rfl w5.heap.size (by with_unfolding_all rfl) 31 (zG 32) FG G2.out (by with_unfolding_all rfl) HZ1.out (by rw [HL1.out]; exact infoState) ?_; intro w6 G3 S3 R3; have H3 := Lib.hid G3; have SS := Lib.hid S3; have RR := Lib.hid R3; clear G3 S3 R3; have hb6 := Lib.hid (bz0.grown RR.out (by simp; omega) (by simp; omega)))
      have b56 : Below w5.heap.size w5 w6 := bz.grown RR.out (by simp) (by simp)
      have k0 := (b56.cell (p := ⟨w1.heap.size, 0, none⟩) (show w1.heap.size < w5.heap.size by omega)).trans K0.out
      have k1 := (b56.cell (p := ⟨w1.heap.size, 1, none⟩) (show w1.heap.size < w5.heap.size by omega)).trans K1.out
      have K0 := Lib.hid k0; have K1 := Lib.hid k1
      have G1c := Lib.hid (G1b.out.below b56 hW5)
      have HRO6 := Lib.hid (HRO5.out.below (b56.mono (by omega)))
      have hs6 : w5.heap.size + 1 = w6.heap.size := by have := SS.out; simp at this; exact this.symm
      have HS6 := Lib.hid hs6
      clear k0 k1 b56 G1b HRO5 bz bz0 hs6 SS RR
      have hd1 := fuel_div k
      have hd2 := fuel_mod k
      have hq := fuel_le k
      have hVq : fuelV k = 200 / (k + 1) * k + min (200 % (k + 1)) k := rfl
      have hdr : 200 % (k + 1) ≤ k := by have := Nat.mod_lt 200 (show 0 < k + 1 by omega); omega
      have hdq : 200 / (k + 1) ≤ 200 := Nat.div_le_self _ _
      generalize 200 / (k + 1) = dq at *
      generalize 200 % (k + 1) = dr at *
      have hm : (dq : Int) * (k : Int) = ((dq * k : Nat) : Int) := by simp
      generalize dq * k = dm at *
      have hnz : ¬ ((k : Int) + 1 = 0) := by omega
      have hw1 : IntKind.i64.wrap ((k : Int) + 1) = (k : Int) + 1 := by rw [IntKind.wrap_i64]; omega
      have hw2 : IntKind.i64.wrap (dq : Int) = (dq : Int) := by rw [IntKind.wrap_i64]; omega
      have hw3 : IntKind.i64.wrap (dm : Int) = (dm : Int) := by rw [IntKind.wrap_i64]; omega
      have hw4 : IntKind.i64.wrap (dr : Int) = (dr : Int) := by rw [IntKind.wrap_i64]; omega
      have hkd : ¬ (k : Int) < (dr : Int) := by omega
      have hw5 : IntKind.i64.wrap ((dm : Int) + (dr : Int)) = (dm : Int) + (dr : Int) := by rw [IntKind.wrap_i64]; omega
      have hw6 : IntKind.i32.wrap ((dm : Int) + (dr : Int)) = (dm : Int) + (dr : Int) := by rw [IntKind.wrap_i32]; omega
      have HV : Hid (((fuelV k : Nat) : Int) = (dm : Int) + (dr : Int)) := by unfold Hid; rw [hVq]; omega
      go_quiet (fail)
      have HX1 : Hid (FG[0]? = some ((dm : Int) + (dr : Int))) := by rw [← HV.out]; exact HF1.out
      clear hw1 hw2 hw3 hw4 hw5 hw6 HF1 HV hVq hd1 hd2 hm hq hdr hdq
      obtain ⟨W7, hW7⟩ : ∃ W7, W7 = w6.drewN nq := ⟨_, rfl⟩
      rw [← hW7]
      have H7 : GA W7 w5.heap.size 31 FG := by rw [hW7]; exact H3.out
      have G7 : Hid (GA W7 W.heap.size 31 fuelG) := by rw [hW7]; exact G1c.out
      have q0 : W7.cell? ⟨w1.heap.size, 0, none⟩ = some (.string ⟨#[114, 111, 117, 110, 100]⟩) := by rw [hW7]; exact K0.out
      have q1 : W7.cell? ⟨w1.heap.size, 1, none⟩ = some (.slice A2 (k + 1) c2) := by rw [hW7]; exact K1.out
      have RO7 : Hid (RO W7 W.heap.size A2 (fuelOs k)) := by rw [hW7]; exact HRO6.out
      have hb7 : Hid (Below w1.heap.size w1 W7) := by rw [hW7]; exact below_drewN hb6.out _
      have hs7 : W7.heap.size = w5.heap.size + 1 := by rw [hW7]; exact HS6.out.symm
      clear hW7 H3 G1c K0 K1 HRO6 hb6
      have b8 : Below W7.heap.size W7 (W7.alloc (.cells (gM fuelG [.bool false]) 39)) := (Below.refl _ _).alloc (Nat.le_refl _) _
      have x0 := (H7.alloc (.cells (gM fuelG [.bool false]) 39)).cell_of HX1.out
      have p0 := (b8.cell (p := ⟨w1.heap.size, 0, none⟩) (cell_lt q0)).trans q0
      have p1 := (b8.cell (p := ⟨w1.heap.size, 1, none⟩) (cell_lt q1)).trans q1
      have HRn : Hid (Calls Try.prog 19 #[.agg #[.string ⟨#[114, 111, 117, 110, 100]⟩, .slice A2 (k + 1) c2], .iface 37 (.pointer (some ⟨W7.heap.size, 0, none⟩)), .int .i64 0, .slice none 0 0] (W7.alloc (.cells (gM fuelG [.bool false]) 39)) fun e w' => e = .returned (.int .i64 200) ∧ GH w' W7.heap.size 39 (frameN ⟨⟨#[114, 111, 117, 110, 100]⟩, 0, []⟩ (fuelOs k) fuelG).1 [.bool false] ∧ (W7.alloc (.cells (gM fuelG [.bool false]) 39)).grownBy w' (some W7.heap.size)) := by
        have h := run_m (W7.alloc (.cells (gM fuelG [.bool false]) 39)) W7.heap.size fuelG ⟨⟨#[114, 111, 117, 110, 100]⟩, 0, []⟩ A2 (fuelOs k) c2 W.heap.size none 0 (RO7.out.below (b8.mono (by omega))) (by have := b8.size; omega) (by omega) hl3 (by decide) (GH.new_m W7 _ _ _) fuelG_gam (RB.nil _ _ _) (Nat.le_refl _) (by unfold maxLen; omega)
        rw [HF2.out, hl1] at h
        exact h
      have HB8 := Lib.hid (hb7.out.trans (b8.mono (by omega)))
      have HS7 := Lib.hid hs7
      clear b8 hs7 H7 q0 q1 hb7 RO7
      go_wp2_with (first
        | (with_reducible refine wpList_load_g rfl 31 (.tmp 6) rfl W.heap.size (by with_unfolding_all rfl) 31 fuelG G7.out Try.underlying31 (by rw [hgl.out]; exact infoState) ?_)
        | (with_reducible refine wpList_build_mem rfl (.tmp 53) rfl fuelG (by with_unfolding_all rfl) hgl.out ?_)
        | (go_at_call 19; with_reducible refine HRn.out.mono ?_; rintro e w9 ⟨rfl, h9, r9⟩))
      go_ret
      exact ⟨rfl, b1.trans ((HB8.out.grown r9 HB8.out.size (by simp; have := HS7.out; omega)).mono hbs1)⟩
end Go.Proofs.Ytkfbepkejdmaeaa
