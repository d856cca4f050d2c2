/- WALKS over package quintainref1: Step. -/
import Derived.Test.YtbmhdinaofepdaaMm
import Derived.Test.YtbmhdinaofepdaaMh
import Derived.Test.YtbmhdinaofepdaaMl
import Derived.Test.YtbmhdinaofepdaaGi
import Derived.Test.YtbmhdinaofepdaaEf
import Derived.StillTailTactics
namespace Go.Proofs.Ytbmhdinaofepdaa
set_option maxRecDepth 100000
open Go.RowKit
set_option linter.unusedVariables false

theorem infoGame : (Try.prog.info? 33).map (·.size) = some 32 := by kernel_rfl
theorem zeroGame (w : World) : (zeroValue 33).run Try.prog w = .ok (.agg (gC (zG 32))) w :=
  (zero_of_info (P := Try.prog) (t := 33) (v := .agg (gC (zG 32))) (n := 32) (by kernel_rfl)).1 w
theorem grown_under {w w' : World} {r B : Nat} (h : w.grownBy w' (some r)) (hB : B ≤ w.heap.size) (hr : B ≤ r) : Below B w w' :=
  ⟨h.os, h.tape, h.output, h.size, fun k hk => h.block k (by omega) (fun e => by injection e with e; omega)⟩
/-- a game's cell, by its number -/
theorem GA.at_ {w : World} {b : Nat} {t : TypeId} {g : List Int} (h : GA w b t g) (hg : gam g) (z : Int) (z0 : 0 ≤ z) (z1 : z < 32) : w.cell? ⟨b, z.toNat, none⟩ = some (.int .i32 (cel g z)) := by
  have hk : z.toNat < g.length := by have := hg.1; omega
  rw [h.cell z.toNat hk, cel_of g z z.toNat (by omega) hk]
theorem GA.fz {w : World} {b : Nat} {t : TypeId} {g : List Int} (h : GA w b t g) (z : Int) : w.frozen? ⟨b, z.toNat, none⟩ = false := h.frozen _

/-- what the loop's round knows of its world -/
structure RefAt (w w0 wr : World) (g' : List Int) (E : Env) (A : Option Addr) (os : List O4) (cap : Nat) (PA : Option Addr) (tb : Nat) : Prop where
  g : gam g'
  G : GA wr (w.heap.size + 1) 33 g'
  Z : GA wr (w.heap.size + 1 + 1) 33 (zG 32)
  P0 : wr.cell? ⟨w.heap.size, 0, none⟩ = some (.string E.t)
  P1 : wr.cell? ⟨w.heap.size, 1, none⟩ = some (.slice A os.length cap)
  O : RO wr w.heap.size A os
  L : RB wr w.heap.size PA E.l
  T : ∀ k (h : k < (rns E.t).length), wr.cell? ⟨tb, k, none⟩ = some (.int .i32 (((rns E.t)[k]'h).1 : Int))
  W : w0.grownBy wr (some (w.heap.size + 1))
  lt : w.heap.size + 1 + 1 < wr.heap.size
  ne : w.heap.size + 1 < tb
theorem RefAt.alloc {w w0 wr : World} {g' : List Int} {E : Env} {A : Option Addr} {os : List O4} {cap : Nat} {PA : Option Addr} {tb : Nat} (R : RefAt w w0 wr g' E A os cap PA tb) (o : Obj) : RefAt w w0 (wr.alloc o) g' E A os cap PA tb := by
  have hb : Below wr.heap.size wr (wr.alloc o) := (Below.refl _ _).alloc (Nat.le_refl _) o
  have hl := R.lt
  exact ⟨R.g, R.G.alloc o, R.Z.alloc o, (hb.cell (p := ⟨w.heap.size, 0, none⟩) (cell_lt R.P0)).trans R.P0, (hb.cell (p := ⟨w.heap.size, 1, none⟩) (cell_lt R.P1)).trans R.P1, R.O.below (hb.mono (by omega)), R.L.below (hb.mono (by omega)),
    fun k h => (hb.cell (p := ⟨tb, k, none⟩) (cell_lt (R.T k h))).trans (R.T k h), grown_trans R.W (World.grownBy_alloc _ _ _), by simp; omega, R.ne⟩
theorem RefAt.drew {w w0 wr : World} {g' : List Int} {E : Env} {A : Option Addr} {os : List O4} {cap : Nat} {PA : Option Addr} {tb : Nat} (R : RefAt w w0 wr g' E A os cap PA tb) : RefAt w w0 wr.drew g' E A os cap PA tb :=
  ⟨R.g, R.G, R.Z, R.P0, R.P1, R.O, R.L, R.T, grown_trans R.W (grown_drew _ _), R.lt, R.ne⟩
theorem RefAt.set {w w0 wr : World} {g' : List Int} {E : Env} {A : Option Addr} {os : List O4} {cap : Nat} {PA : Option Addr} {tb : Nat} (R : RefAt w w0 wr g' E A os cap PA tb) (k : Nat) (x : Int) (hx : in32 x) :
    RefAt w w0 (wr.setCell ⟨w.heap.size + 1, k, none⟩ (.int .i32 x)) (g'.set k x) E A os cap PA tb := by
  have hs := grown_set wr ⟨w.heap.size + 1, k, none⟩ (.int .i32 x)
  have hne := R.ne
  have hb : Below w.heap.size wr (wr.setCell ⟨w.heap.size + 1, k, none⟩ (.int .i32 x)) := (Below.refl _ _).setCell (by show w.heap.size ≤ w.heap.size + 1; omega) _
  exact ⟨R.g.set k hx, R.G.set k x, R.Z.other _ _ (by show w.heap.size + 1 + 1 ≠ w.heap.size + 1; omega), grown_cell hs R.P0 (by simp), grown_cell hs R.P1 (by simp), R.O.below hb, R.L.below hb,
    fun j h => grown_cell hs (R.T j h) (by simp; omega), grown_trans R.W hs, by simp [World.setCell]; exact R.lt, R.ne⟩

set_option maxHeartbeats 4000000 in
theorem refstep_may (w : World) (g : List Int) (E : Env) (A : Option Addr) (os : List O4) (cap B : Nat) (PA : Option Addr) (pc : Nat) (hr : RO w w.heap.size A os) (hc : os.length ≤ cap) (hm : cap ≤ maxLen) (ht : E.t.size ≤ 1000000)
    (hg : gam g) (hl : RB w w.heap.size PA E.l) (hpl : E.l.length ≤ pc) (hpm : pc ≤ maxLen) (hf : faultN (titB E.t) os = -1) :
    Calls Try.prog 15 #[progV E.t A os.length cap, .agg (gC g), .int .i64 E.fr, .slice PA E.l.length pc] w fun e w' => e = .returned (.tuple #[.agg (gC (goN E os 200 0 g).1), .int .i64 ((goN E os 200 0 g).2 : Nat)]) ∧ Below w.heap.size w w' := by
  obtain ⟨hfit, hmay⟩ := may_all hf
  obtain ⟨htit, hl1, hl64, hsm⟩ := (fitsB_iff _ _).1 hfit
  have hrl : 1 ≤ (rns E.t).length ∧ (rns E.t).length ≤ 20 := by
    unfold titB at htit
    simp only [Bool.and_eq_true, decide_eq_true_eq] at htit
    exact htit.1.2
  have hz := zeroGame
  obtain ⟨W0, hW0⟩ : ∃ W0, W0 = (((w.alloc (.cells #[.string E.t, .slice A os.length cap] 24)).alloc (.cells (gC g) 33)).alloc (.cells (gC (zG 32)) 33)) := ⟨_, rfl⟩
  have bw : Below w.heap.size w W0 := by rw [hW0]; exact (((Below.refl _ _).alloc (Nat.le_refl _) _).alloc (by simp) _).alloc (by simp; omega) _
  have G5 : GA W0 (w.heap.size + 1) 33 g := by rw [hW0]; have := (GA.new (w.alloc (.cells #[.string E.t, .slice A os.length cap] 24)) 33 g).alloc (.cells (gC (zG 32)) 33); simpa only [World.size_alloc] using this
  have G8 : GA W0 (w.heap.size + 1 + 1) 33 (zG 32) := by rw [hW0]; have := GA.new ((w.alloc (.cells #[.string E.t, .slice A os.length cap] 24)).alloc (.cells (gC g) 33)) 33 (zG 32); simpa only [World.size_alloc] using this
  have P0 : W0.cell? ⟨w.heap.size, 0, none⟩ = some (.string E.t) := by rw [hW0]; simp [go_sem]
  have P1 : W0.cell? ⟨w.heap.size, 1, none⟩ = some (.slice A os.length cap) := by rw [hW0]; simp [go_sem]
  have hs0 : W0.heap.size = w.heap.size + 1 + 1 + 1 := by rw [hW0]; simp
  have HFt := Lib.hid (reffault_any E.t A os cap w.heap.size W0 (hr.below bw) bw.size hc hm (by omega))
  rw [hf] at HFt
  unfold progV at HFt ⊢
  have HR := Lib.hid hr; have HL := Lib.hid hl; have HG := Lib.hid hg; have HMY := Lib.hid hmay; have HSM := Lib.hid hsm; have HW0 := Lib.hid hW0
  have HG5 := Lib.hid G5; have HG8 := Lib.hid G8; have HP0 := Lib.hid P0; have HP1 := Lib.hid P1
  have HF1 := Lib.hid (goN_gam E os (fun j hj => ⟨hmay j hj, (hsm _ (List.getElem_mem hj)).2.2.1⟩) 200 0 g hg).1
  have HGL := Lib.hid hg.1
  clear hr hl hg hmay hsm G5 G8 hf hfit htit hW0 P0 P1
  go_enter Try.func15, Try.ntmps15
  go_wp2_with fail
  rw [← HW0.out]
  clear hz
  refine HFt.out.mono ?_
  rintro e w1 ⟨rfl, hb1⟩
  have p0 := (hb1.cell (p := ⟨w.heap.size, 0, none⟩) (show w.heap.size < W0.heap.size by omega)).trans HP0.out
  have p1 := (hb1.cell (p := ⟨w.heap.size, 1, none⟩) (show w.heap.size < W0.heap.size by omega)).trans HP1.out
  have g5 := Lib.hid (HG5.out.below hb1 (by omega))
  have g8 := Lib.hid (HG8.out.below hb1 (by omega))
  have bw1 := bw.trans (hb1.mono bw.size)
  have hs1 := hb1.size
  have HRu := Lib.hid (runes_any E.t w1 (by omega))
  clear hb1 HFt HG5 HG8 HP0 HP1 bw
  go_wp2_with (go_at_call 20; refine HRu.out.mono ?_; rintro e w2 ⟨v, rfl, hown, hb2⟩; obtain ⟨tb, tcap, rfl, htb1, htb2⟩ := hown.form hrl.1)
  have hto : ∀ k (h : k < (rns E.t).length), w2.cell? ⟨tb, k, none⟩ = some (.int .i32 (((rns E.t)[k]'h).1 : Int)) := fun k h => by
    have := hown.cellAt k (by omega)
    rw [rcell_at h] at this
    exact this
  have hs2 := hb2.size
  have R2 : Hid (RefAt w w2 w2 g E A os cap PA tb) := ⟨HG.out, g5.out.below hb2 (show w.heap.size + 1 < w1.heap.size by omega), g8.out.below hb2 (show w.heap.size + 1 + 1 < w1.heap.size by omega), (hb2.cell (p := ⟨w.heap.size, 0, none⟩) (show w.heap.size < w1.heap.size by omega)).trans p0, (hb2.cell (p := ⟨w.heap.size, 1, none⟩) (show w.heap.size < w1.heap.size by omega)).trans p1,
    HR.out.below (bw1.trans (hb2.mono bw1.size)), HL.out.below (bw1.trans (hb2.mono bw1.size)), hto, ⟨rfl, rfl, rfl, Nat.le_refl _, fun _ _ _ => rfl⟩, by omega, by omega⟩
  have bw2 := bw1.trans (hb2.mono bw1.size)
  clear hown hb2 g5 g8 p0 p1 bw1 hto htb2 HRu
  go_loopw [10, 11] (fun s n wr => ∃ (p k : Nat) (g' : List Int), s = .int .i64 p ∧ n = .int .i64 k ∧ p ≤ os.length ∧ k ≤ 200 ∧ Hid (RefAt w w2 wr g' E A os cap PA tb) ∧ Hid ((goN E os (200 - k) p g').1 = (goN E os 200 0 g).1 ∧ (goN E os (200 - k) p g').2 + k = (goN E os 200 0 g).2)) (fun _ n _ => 200 - (intOf n).toNat)
  case atStart => exact ⟨0, 0, g, rfl, rfl, by omega, by omega, R2, rfl, rfl⟩
  case round =>
    obtain ⟨p, k, g', rfl, rfl, hp, hk, HRA, HE⟩ := hrel
    clear R2
    have p1 := HRA.out.P1
    by_cases h1 : p < os.length
    · have h1c : (p : Int) < (os.length : Int) := by omega
      by_cases h2 : k < 200
      · have h2c : (k : Int) < 200 := by omega
        obtain ⟨bb, off, rfl, hbB, hcell⟩ := HRA.out.O (by omega)
        obtain ⟨q1, q2, q3, q4⟩ := hcell p h1
        clear hcell
        have hst := goN_step E os (200 - (k + 1)) p g' h1
        rw [show 200 - (k + 1) + 1 = 200 - k by omega] at hst
        have HST : Hid ((goN E os (200 - (k + 1)) (nxtN os.length g' p os[p]) (gmN E g' os[p])).1 = (goN E os 200 0 g).1 ∧ (goN E os (200 - (k + 1)) (nxtN os.length g' p os[p]) (gmN E g' os[p])).2 + (k + 1) = (goN E os 200 0 g).2) := by
          refine ⟨?_, ?_⟩
          · rw [← HE.out.1, hst]
          · rw [← HE.out.2, hst]; omega
        have hmo := HMY.out p h1
        have hso := (HSM.out _ (List.getElem_mem h1)).2.2.1
        have HNX := Lib.hid (hmo.nxt g' p h1)
        have HVA := Lib.hid (hmo.val hso E HRA.out.g)
        clear hst HE
        generalize os[p]'h1 = o at *
        obtain ⟨kk, oa, ob, oc⟩ := o
        simp only at q1 q2 q3 q4
        have ⟨m0, m1, ma, mj, mb, mz, mc⟩ := hmo
        simp only at m0 m1 ma mj mb mz mc
        clear hmo
        by_cases e0 : kk = 0
        · subst e0
          have HX := Lib.hid (HRA.out.alloc (.cells #[.int .i64 0, .int .i64 oa, .int .i64 ob, .int .i64 oc] 46))
          have HL0 := Lib.hid (gam_len HRA.out.g)
          have HL1 := Lib.hid HRA.out.g.1
          have e1 : Hid (g' = (goN E os 200 0 g).1) := by have h := HST.out.1; rw [show nxtN os.length g' p ⟨0, oa, ob, oc⟩ = os.length from rfl, goN_end E os _ _ _ (.inr (Nat.le_refl _))] at h; exact h
          have e2 : Hid (k + 1 = (goN E os 200 0 g).2) := by have h := HST.out.2; rw [show nxtN os.length g' p ⟨0, oa, ob, oc⟩ = os.length from rfl, goN_end E os _ _ _ (.inr (Nat.le_refl _)), Nat.zero_add] at h; exact h
          clear ma mj mb mz mc m0 m1
          go_wp2_with (first
            | (with_reducible refine wpList_load_g rfl 33 (.tmp 5) rfl (w.heap.size + 1) (by with_unfolding_all rfl) 33 g' HX.out.G Try.underlying33 (by rw [HL1.out]; exact infoGame) ?_)
            | (with_reducible refine wpList_store_g rfl 33 (.tmp 8) (.tmp 62) rfl (w.heap.size + 1 + 1) (by with_unfolding_all rfl) 33 (zG 32) g' HX.out.Z (by with_unfolding_all rfl) HL0.out (by rw [HL1.out]; exact infoGame) ?_; intro w7 G7 S7 R7))
          have hbe := (bw2.trans (grown_under HX.out.W (by omega) (by omega))).grown R7 (by have := HX.out.lt; omega) (by simp; omega)
          refine bodyPost_ret (results_g2 rfl G7 rfl (v := .int .i64 ((k : Int) + 1)) rfl Try.underlying33 (by rw [HL1.out]; exact infoGame)) rfl ⟨?_, hbe⟩
          rw [← e1.out, ← e2.out]
          rfl
        by_cases e1 : kk = 1
        · subst e1
          obtain ⟨a0, a1⟩ := ma (by omega) (by omega)
          have s0 : -2147483648 ≤ ob := hso.1
          have s1 : ob ≤ 2147483647 := hso.2
          clear ma mj mb mz mc m0 m1
          have HX := Lib.hid (HRA.out.alloc (.cells #[.int .i64 1, .int .i64 oa, .int .i64 ob, .int .i64 oc] 46))
          have ca := HX.out.G.at_ HX.out.g oa a0 a1
          have fa := HX.out.G.fz oa
          go_wp2
          go_roundw
          case rel => exact ⟨p + 1, k + 1, _, by go_num, by go_num, by omega, by omega, HX.out.set oa.toNat _ HVA.out, HST⟩
          case measure => simp [intOf]; omega
        by_cases e2 : kk = 2
        · subst e2
          obtain ⟨a0, a1⟩ := ma (by omega) (by omega)
          obtain ⟨b0, b1⟩ := mb (by omega) (by omega) (by omega) (by omega) (by omega)
          clear ma mj mb mz mc m0 m1
          obtain ⟨D, hD⟩ : ∃ D, D = (wr.alloc (.cells #[.int .i64 2, .int .i64 oa, .int .i64 ob, .int .i64 oc] 46)).drew := ⟨_, rfl⟩
          have HXD : Hid (RefAt w w2 D g' E (some ⟨bb, off, none⟩) os cap PA tb) := by rw [hD]; exact (HRA.out.alloc (.cells #[.int .i64 2, .int .i64 oa, .int .i64 ob, .int .i64 oc] 46)).drew
          have o0 : D.cell? ⟨wr.heap.size, 0, none⟩ = some (.int .i64 2) := by rw [hD]; exact (op_box wr 2 oa ob oc 46).1
          have o1 : D.cell? ⟨wr.heap.size, 1, none⟩ = some (.int .i64 oa) := by rw [hD]; exact (op_box wr 2 oa ob oc 46).2.1
          have o2 : D.cell? ⟨wr.heap.size, 2, none⟩ = some (.int .i64 ob) := by rw [hD]; exact (op_box wr 2 oa ob oc 46).2.2.1
          have o3 : D.cell? ⟨wr.heap.size, 3, none⟩ = some (.int .i64 oc) := by rw [hD]; exact (op_box wr 2 oa ob oc 46).2.2.2
          have HHD := Lib.hid hD
          clear hD
          have ca := HXD.out.G.at_ HXD.out.g oa a0 a1
          have fa := HXD.out.G.fz oa
          have cb := HXD.out.G.at_ HXD.out.g ob b0 b1
          have fb := HXD.out.G.fz ob
          go_wp2_with fail
          refine wp_region_still_tail 7 (by kernel_rfl) (by kernel_rfl) ?_
          simp only [List.take_succ_cons, List.take_zero, List.drop_succ_cons, List.drop_zero]
          change wpStill _ _ (wr.alloc (.cells #[.int .i64 2, .int .i64 oa, .int .i64 ob, .int .i64 oc] 46)).drew (fun a' => wpList _ _ _ _ a' (wr.alloc (.cells #[.int .i64 2, .int .i64 oa, .int .i64 ob, .int .i64 oc] 46)).drew) _ _
          rw [← HHD.out]
          repeat still_step
          refine wpStill_nil ?_
          clear cb fb q1 q2 q3 q4 p1 HRA o0 o1 o2 o3 HHD
          go_wp2
          go_roundw
          case rel => exact ⟨p + 1, k + 1, _, by go_num, by go_num, by omega, by omega, HXD.out.set oa.toNat _ HVA.out, HST⟩
          case measure => simp [intOf]; omega
        by_cases e9 : kk = 9
        · subst e9
          obtain ⟨j0, j1⟩ := mj rfl
          have HJ : Hid (oa = (oa.toNat : Int)) := by unfold Hid; omega
          clear ma mj mb mz mc m0 m1
          have HX := Lib.hid (HRA.out.alloc (.cells #[.int .i64 9, .int .i64 oa, .int .i64 ob, .int .i64 oc] 46))
          go_wp2
          go_roundw
          case rel => exact ⟨oa.toNat, k + 1, _, by rw [← HJ.out], by go_num, by omega, by omega, HX.out, HST⟩
          case measure => simp [intOf]; omega
        by_cases e10 : kk = 10
        · subst e10
          obtain ⟨a0, a1⟩ := ma (by omega) (by omega)
          obtain ⟨j0, j1⟩ := mz rfl
          have HJ : Hid (ob = (ob.toNat : Int)) := by unfold Hid; omega
          clear ma mj mb mz mc m0 m1
          have HX := Lib.hid (HRA.out.alloc (.cells #[.int .i64 10, .int .i64 oa, .int .i64 ob, .int .i64 oc] 46))
          have ca := HX.out.G.at_ HX.out.g oa a0 a1
          cases hzz : (cel g' oa == 0) with
          | true =>
            have hn : Hid (nxtN os.length g' p ⟨10, oa, ob, oc⟩ = ob.toNat) := by
              unfold Hid nxtN
              rw [if_neg (by show ¬ (10 : Int) = 0; omega), if_neg (by show ¬ (10 : Int) = 9; omega), if_pos ⟨rfl, by simpa using hzz⟩]
            rw [hn.out] at HST
            go_wp2
            go_roundw
            case rel => exact ⟨ob.toNat, k + 1, _, by rw [← HJ.out], by go_num, by omega, by omega, HX.out, HST⟩
            case measure => simp [intOf]; omega
          | false =>
            have hn : Hid (nxtN os.length g' p ⟨10, oa, ob, oc⟩ = p + 1) := by
              unfold Hid nxtN
              rw [if_neg (by show ¬ (10 : Int) = 0; omega), if_neg (by show ¬ (10 : Int) = 9; omega), if_neg (fun h => by have h2 : cel g' oa = 0 := h.2; rw [h2] at hzz; cases hzz)]
            rw [hn.out] at HST
            go_wp2
            go_roundw
            case rel => exact ⟨p + 1, k + 1, _, by go_num, by go_num, by omega, by omega, HX.out, HST⟩
            case measure => simp [intOf]; omega
        by_cases e11 : kk = 11
        · subst e11
          obtain ⟨a0, a1⟩ := ma (by omega) (by omega)
          obtain ⟨b0, b1⟩ := mb (by omega) (by omega) (by omega) (by omega) (by omega)
          clear ma mj mb mz mc m0 m1
          obtain ⟨D, hD⟩ : ∃ D, D = (wr.alloc (.cells #[.int .i64 11, .int .i64 oa, .int .i64 ob, .int .i64 oc] 46)).drew := ⟨_, rfl⟩
          have HXD : Hid (RefAt w w2 D g' E (some ⟨bb, off, none⟩) os cap PA tb) := by rw [hD]; exact (HRA.out.alloc (.cells #[.int .i64 11, .int .i64 oa, .int .i64 ob, .int .i64 oc] 46)).drew
          have o0 : D.cell? ⟨wr.heap.size, 0, none⟩ = some (.int .i64 11) := by rw [hD]; exact (op_box wr 11 oa ob oc 46).1
          have o1 : D.cell? ⟨wr.heap.size, 1, none⟩ = some (.int .i64 oa) := by rw [hD]; exact (op_box wr 11 oa ob oc 46).2.1
          have o2 : D.cell? ⟨wr.heap.size, 2, none⟩ = some (.int .i64 ob) := by rw [hD]; exact (op_box wr 11 oa ob oc 46).2.2.1
          have o3 : D.cell? ⟨wr.heap.size, 3, none⟩ = some (.int .i64 oc) := by rw [hD]; exact (op_box wr 11 oa ob oc 46).2.2.2
          have HHD := Lib.hid hD
          clear hD
          have ca := HXD.out.G.at_ HXD.out.g oa a0 a1
          have fa := HXD.out.G.fz oa
          have cb := HXD.out.G.at_ HXD.out.g ob b0 b1
          have fb := HXD.out.G.fz ob
          have HPR := Lib.hid (refpressed_any PA E.l pc w.heap.size (cel g' ob) D HXD.out.L hpl hpm (HXD.out.g.cel ob))
          go_wp2_with fail
          refine wp_region_still_tail 9 (by kernel_rfl) (by kernel_rfl) ?_
          simp only [List.take_succ_cons, List.take_zero, List.drop_succ_cons, List.drop_zero]
          change wpStill _ _ (wr.alloc (.cells #[.int .i64 11, .int .i64 oa, .int .i64 ob, .int .i64 oc] 46)).drew (fun a' => wpList _ _ _ _ a' (wr.alloc (.cells #[.int .i64 11, .int .i64 oa, .int .i64 ob, .int .i64 oc] 46)).drew) _ _
          rw [← HHD.out]
          repeat still_step
          still_call (HPR.out.mono fun _ _ h => ⟨h.1, h.2.symm⟩)
          repeat still_step
          refine wpStill_nil ?_
          clear cb fb q1 q2 q3 q4 p1 HRA o0 o1 o2 o3 HHD
          go_wp2
          go_roundw
          case rel => exact ⟨p + 1, k + 1, _, by go_num, by go_num, by omega, by omega, HXD.out.set oa.toNat _ HVA.out, HST⟩
          case measure => simp [intOf]; omega
        by_cases e12 : kk = 12
        · subst e12
          obtain ⟨a0, a1⟩ := ma (by omega) (by omega)
          obtain ⟨b0, b1⟩ := mb (by omega) (by omega) (by omega) (by omega) (by omega)
          clear ma mj mb mz mc m0 m1
          obtain ⟨D, hD⟩ : ∃ D, D = (wr.alloc (.cells #[.int .i64 12, .int .i64 oa, .int .i64 ob, .int .i64 oc] 46)).drew := ⟨_, rfl⟩
          have HXD : Hid (RefAt w w2 D g' E (some ⟨bb, off, none⟩) os cap PA tb) := by rw [hD]; exact (HRA.out.alloc (.cells #[.int .i64 12, .int .i64 oa, .int .i64 ob, .int .i64 oc] 46)).drew
          have o0 : D.cell? ⟨wr.heap.size, 0, none⟩ = some (.int .i64 12) := by rw [hD]; exact (op_box wr 12 oa ob oc 46).1
          have o1 : D.cell? ⟨wr.heap.size, 1, none⟩ = some (.int .i64 oa) := by rw [hD]; exact (op_box wr 12 oa ob oc 46).2.1
          have o2 : D.cell? ⟨wr.heap.size, 2, none⟩ = some (.int .i64 ob) := by rw [hD]; exact (op_box wr 12 oa ob oc 46).2.2.1
          have o3 : D.cell? ⟨wr.heap.size, 3, none⟩ = some (.int .i64 oc) := by rw [hD]; exact (op_box wr 12 oa ob oc 46).2.2.2
          have HHD := Lib.hid hD
          clear hD
          have ca := HXD.out.G.at_ HXD.out.g oa a0 a1
          have fa := HXD.out.G.fz oa
          have cb := HXD.out.G.at_ HXD.out.g ob b0 b1
          have fb := HXD.out.G.fz ob
          obtain ⟨d0, d1⟩ := md32 (cel g' ob)
          have HMD := Lib.hid (refmod_any (cel g' ob) 32 D (HXD.out.g.cel ob).1 (HXD.out.g.cel ob).2 (by omega) (by omega))
          have cm := HXD.out.G.at_ HXD.out.g (md (cel g' ob) 32) d0 d1
          have fm := HXD.out.G.fz (md (cel g' ob) 32)
          go_wp2_with fail
          refine wp_region_still_tail 10 (by kernel_rfl) (by kernel_rfl) ?_
          simp only [List.take_succ_cons, List.take_zero, List.drop_succ_cons, List.drop_zero]
          change wpStill _ _ (wr.alloc (.cells #[.int .i64 12, .int .i64 oa, .int .i64 ob, .int .i64 oc] 46)).drew (fun a' => wpList _ _ _ _ a' (wr.alloc (.cells #[.int .i64 12, .int .i64 oa, .int .i64 ob, .int .i64 oc] 46)).drew) _ _
          rw [← HHD.out]
          repeat still_step
          still_call (HMD.out.mono fun _ _ h => ⟨h.1, h.2.symm⟩)
          repeat still_step
          refine wpStill_nil ?_
          clear cb fb cm fm q1 q2 q3 q4 p1 HRA o0 o1 o2 o3 HHD
          go_wp2
          go_roundw
          case rel => exact ⟨p + 1, k + 1, _, by go_num, by go_num, by omega, by omega, HXD.out.set oa.toNat _ HVA.out, HST⟩
          case measure => simp [intOf]; omega
        by_cases e13 : kk = 13
        · subst e13
          obtain ⟨a0, a1⟩ := ma (by omega) (by omega)
          obtain ⟨b0, b1⟩ := mb (by omega) (by omega) (by omega) (by omega) (by omega)
          clear ma mj mb mz mc m0 m1
          obtain ⟨D, hD⟩ : ∃ D, D = (wr.alloc (.cells #[.int .i64 13, .int .i64 oa, .int .i64 ob, .int .i64 oc] 46)).drew := ⟨_, rfl⟩
          have HXD : Hid (RefAt w w2 D g' E (some ⟨bb, off, none⟩) os cap PA tb) := by rw [hD]; exact (HRA.out.alloc (.cells #[.int .i64 13, .int .i64 oa, .int .i64 ob, .int .i64 oc] 46)).drew
          have o0 : D.cell? ⟨wr.heap.size, 0, none⟩ = some (.int .i64 13) := by rw [hD]; exact (op_box wr 13 oa ob oc 46).1
          have o1 : D.cell? ⟨wr.heap.size, 1, none⟩ = some (.int .i64 oa) := by rw [hD]; exact (op_box wr 13 oa ob oc 46).2.1
          have o2 : D.cell? ⟨wr.heap.size, 2, none⟩ = some (.int .i64 ob) := by rw [hD]; exact (op_box wr 13 oa ob oc 46).2.2.1
          have o3 : D.cell? ⟨wr.heap.size, 3, none⟩ = some (.int .i64 oc) := by rw [hD]; exact (op_box wr 13 oa ob oc 46).2.2.2
          have HHD := Lib.hid hD
          clear hD
          have ca := HXD.out.G.at_ HXD.out.g oa a0 a1
          have fa := HXD.out.G.fz oa
          have cb := HXD.out.G.at_ HXD.out.g ob b0 b1
          have fb := HXD.out.G.fz ob
          obtain ⟨d0, d1⟩ := md32 (cel g' oa)
          have HMD := Lib.hid (refmod_any (cel g' oa) 32 D (HXD.out.g.cel oa).1 (HXD.out.g.cel oa).2 (by omega) (by omega))
          have cm := HXD.out.G.at_ HXD.out.g (md (cel g' oa) 32) d0 d1
          have fm := HXD.out.G.fz (md (cel g' oa) 32)
          go_wp2_with fail
          refine wp_region_still_tail 10 (by kernel_rfl) (by kernel_rfl) ?_
          simp only [List.take_succ_cons, List.take_zero, List.drop_succ_cons, List.drop_zero]
          change wpStill _ _ (wr.alloc (.cells #[.int .i64 13, .int .i64 oa, .int .i64 ob, .int .i64 oc] 46)).drew (fun a' => wpList _ _ _ _ a' (wr.alloc (.cells #[.int .i64 13, .int .i64 oa, .int .i64 ob, .int .i64 oc] 46)).drew) _ _
          rw [← HHD.out]
          repeat still_step
          still_call (HMD.out.mono fun _ _ h => ⟨h.1, h.2.symm⟩)
          repeat still_step
          refine wpStill_nil ?_
          clear cb fb ca fa q1 q2 q3 q4 p1 HRA o0 o1 o2 o3 HHD
          go_wp2
          go_roundw
          case rel => exact ⟨p + 1, k + 1, _, by go_num, by go_num, by omega, by omega, HXD.out.set (md (cel g' oa) 32).toNat _ (HXD.out.g.cel ob), HST⟩
          case measure => simp [intOf]; omega
        by_cases e14 : kk = 14
        · subst e14
          obtain ⟨a0, a1⟩ := ma (by omega) (by omega)
          obtain ⟨b0, b1⟩ := mb (by omega) (by omega) (by omega) (by omega) (by omega)
          clear ma mj mb mz mc m0 m1
          have HX := Lib.hid (HRA.out.alloc (.cells #[.int .i64 14, .int .i64 oa, .int .i64 ob, .int .i64 oc] 46))
          have ca := HX.out.G.at_ HX.out.g oa a0 a1
          have fa := HX.out.G.fz oa
          have cb := HX.out.G.at_ HX.out.g ob b0 b1
          obtain ⟨z0, z1⟩ := HX.out.g.cel ob
          have HAT : Hid (valN E g' ⟨14, oa, ob, oc⟩ = atR E.t (cel g' ob)) := rfl
          have HGS : Hid (gmN E g' ⟨14, oa, ob, oc⟩ = g'.set oa.toNat (valN E g' ⟨14, oa, ob, oc⟩)) := rfl
          rw [HGS.out, HAT.out] at HST
          rw [HAT.out] at HVA
          by_cases hr0 : cel g' ob ≥ 0
          · by_cases hr1 : cel g' ob < ((rns E.t).length : Int)
            · have hkl : (cel g' ob).toNat < (rns E.t).length := by omega
              have hv : Hid (atR E.t (cel g' ob) = (((rns E.t)[(cel g' ob).toNat]'hkl).1 : Int)) := by
                unfold Hid atR
                rw [if_pos hr0, List.getElem?_eq_getElem hkl]; rfl
              have ct := HX.out.T _ hkl
              rw [hv.out] at HST HVA
              obtain ⟨r0, r1⟩ := HVA.out
              generalize (((rns E.t)[(cel g' ob).toNat]'hkl).1 : Int) = rr at *
              go_wp2
              go_roundw
              case rel => exact ⟨p + 1, k + 1, _, by go_num, by go_num, by omega, by omega, HX.out.set oa.toNat _ HVA.out, HST⟩
              case measure => simp [intOf]; omega
            · have hv : Hid (atR E.t (cel g' ob) = 0) := by
                unfold Hid atR
                rw [if_pos hr0, List.getElem?_eq_none (by omega)]; rfl
              rw [hv.out] at HST HVA
              go_wp2
              go_roundw
              case rel => exact ⟨p + 1, k + 1, _, by go_num, by go_num, by omega, by omega, HX.out.set oa.toNat _ HVA.out, HST⟩
              case measure => simp [intOf]; omega
          · have hv : Hid (atR E.t (cel g' ob) = 0) := by
              unfold Hid atR
              rw [if_neg hr0]
            rw [hv.out] at HST HVA
            go_wp2
            go_roundw
            case rel => exact ⟨p + 1, k + 1, _, by go_num, by go_num, by omega, by omega, HX.out.set oa.toNat _ HVA.out, HST⟩
            case measure => simp [intOf]; omega
        by_cases e15 : kk = 15
        · subst e15
          obtain ⟨a0, a1⟩ := ma (by omega) (by omega)
          clear ma mj mb mz mc m0 m1
          obtain ⟨D, hD⟩ : ∃ D, D = (wr.alloc (.cells #[.int .i64 15, .int .i64 oa, .int .i64 ob, .int .i64 oc] 46)).drew := ⟨_, rfl⟩
          have HXD : Hid (RefAt w w2 D g' E (some ⟨bb, off, none⟩) os cap PA tb) := by rw [hD]; exact (HRA.out.alloc (.cells #[.int .i64 15, .int .i64 oa, .int .i64 ob, .int .i64 oc] 46)).drew
          have o0 : D.cell? ⟨wr.heap.size, 0, none⟩ = some (.int .i64 15) := by rw [hD]; exact (op_box wr 15 oa ob oc 46).1
          have o1 : D.cell? ⟨wr.heap.size, 1, none⟩ = some (.int .i64 oa) := by rw [hD]; exact (op_box wr 15 oa ob oc 46).2.1
          have o2 : D.cell? ⟨wr.heap.size, 2, none⟩ = some (.int .i64 ob) := by rw [hD]; exact (op_box wr 15 oa ob oc 46).2.2.1
          have o3 : D.cell? ⟨wr.heap.size, 3, none⟩ = some (.int .i64 oc) := by rw [hD]; exact (op_box wr 15 oa ob oc 46).2.2.2
          have HHD := Lib.hid hD
          clear hD
          have ca := HXD.out.G.at_ HXD.out.g oa a0 a1
          have fa := HXD.out.G.fz oa
          have HRD := Lib.hid (round_any E.fr D)
          go_wp2_with fail
          refine wp_region_still_tail 5 (by kernel_rfl) (by kernel_rfl) ?_
          simp only [List.take_succ_cons, List.take_zero, List.drop_succ_cons, List.drop_zero]
          change wpStill _ _ (wr.alloc (.cells #[.int .i64 15, .int .i64 oa, .int .i64 ob, .int .i64 oc] 46)).drew (fun a' => wpList _ _ _ _ a' (wr.alloc (.cells #[.int .i64 15, .int .i64 oa, .int .i64 ob, .int .i64 oc] 46)).drew) _ _
          rw [← HHD.out]
          repeat still_step
          still_call (HRD.out.mono fun _ _ h => ⟨h.1, h.2.symm⟩)
          repeat still_step
          refine wpStill_nil ?_
          clear q1 q2 q3 q4 p1 HRA o0 o1 o2 o3 HHD
          go_wp2
          go_roundw
          case rel => exact ⟨p + 1, k + 1, _, by go_num, by go_num, by omega, by omega, HXD.out.set oa.toNat _ HVA.out, HST⟩
          case measure => simp [intOf]; omega
        have k3 : 3 ≤ kk := by omega
        have k8 : kk ≤ 8 := by omega
        obtain ⟨a0, a1⟩ := ma (by omega) (by omega)
        obtain ⟨b0, b1⟩ := mb (by omega) (by omega) (by omega) (by omega) (by omega)
        obtain ⟨d0, d1⟩ := mc k3 k8
        have y0 : (kk == 0) = false := by rw [beq_eq_false_iff_ne]; exact e0
        have y1 : (kk == 1) = false := by rw [beq_eq_false_iff_ne]; exact e1
        have y2 : (kk == 2) = false := by rw [beq_eq_false_iff_ne]; exact e2
        have y9 : (kk == 9) = false := by rw [beq_eq_false_iff_ne]; exact e9
        have y10 : (kk == 10) = false := by rw [beq_eq_false_iff_ne]; exact e10
        have y11 : (kk == 11) = false := by rw [beq_eq_false_iff_ne]; exact e11
        have y12 : (kk == 12) = false := by rw [beq_eq_false_iff_ne]; exact e12
        have y13 : (kk == 13) = false := by rw [beq_eq_false_iff_ne]; exact e13
        have y14 : (kk == 14) = false := by rw [beq_eq_false_iff_ne]; exact e14
        have y15 : (kk == 15) = false := by rw [beq_eq_false_iff_ne]; exact e15
        have hv : valN E g' ⟨kk, oa, ob, oc⟩ = reckN kk (cel g' ob) (cel g' oc) := by
          unfold valN
          simp only
          rw [if_neg e1, if_neg e2, if_neg e11, if_neg e12, if_neg e14, if_neg e15]
        have hn : nxtN os.length g' p ⟨kk, oa, ob, oc⟩ = p + 1 := by
          unfold nxtN; simp only
          rw [if_neg e0, if_neg e9, if_neg (fun h => e10 h.1)]
        have hgm : gmN E g' ⟨kk, oa, ob, oc⟩ = g'.set oa.toNat (valN E g' ⟨kk, oa, ob, oc⟩) := by
          unfold gmN; simp only
          rw [if_neg (by omega), if_neg e13]
        rw [hn, hgm, hv] at HST
        clear hv hn hgm e0 e1 e2 e9 e10 e11 e12 e13 e14 e15 ma mj mb mz mc m0 m1
        obtain ⟨D, hD⟩ : ∃ D, D = (wr.alloc (.cells #[.int .i64 kk, .int .i64 oa, .int .i64 ob, .int .i64 oc] 46)).drew := ⟨_, rfl⟩
        have HXD : Hid (RefAt w w2 D g' E (some ⟨bb, off, none⟩) os cap PA tb) := by rw [hD]; exact (HRA.out.alloc (.cells #[.int .i64 kk, .int .i64 oa, .int .i64 ob, .int .i64 oc] 46)).drew
        have o0 : D.cell? ⟨wr.heap.size, 0, none⟩ = some (.int .i64 kk) := by rw [hD]; exact (op_box wr kk oa ob oc 46).1
        have o1 : D.cell? ⟨wr.heap.size, 1, none⟩ = some (.int .i64 oa) := by rw [hD]; exact (op_box wr kk oa ob oc 46).2.1
        have o2 : D.cell? ⟨wr.heap.size, 2, none⟩ = some (.int .i64 ob) := by rw [hD]; exact (op_box wr kk oa ob oc 46).2.2.1
        have o3 : D.cell? ⟨wr.heap.size, 3, none⟩ = some (.int .i64 oc) := by rw [hD]; exact (op_box wr kk oa ob oc 46).2.2.2
        have HHD := Lib.hid hD
        clear hD
        have ca := HXD.out.G.at_ HXD.out.g oa a0 a1
        have fa := HXD.out.G.fz oa
        have cb := HXD.out.G.at_ HXD.out.g ob b0 b1
        have fb := HXD.out.G.fz ob
        have cc := HXD.out.G.at_ HXD.out.g oc d0 d1
        have fc := HXD.out.G.fz oc
        have HRK := Lib.hid (refreckon_any kk (cel g' ob) (cel g' oc) D k3 k8 (HXD.out.g.cel ob) (HXD.out.g.cel oc))
        go_wp2_with fail
        refine wp_region_still_tail 14 (by kernel_rfl) (by kernel_rfl) ?_
        simp only [List.take_succ_cons, List.take_zero, List.drop_succ_cons, List.drop_zero]
        change wpStill _ _ (wr.alloc (.cells #[.int .i64 kk, .int .i64 oa, .int .i64 ob, .int .i64 oc] 46)).drew (fun a' => wpList _ _ _ _ a' (wr.alloc (.cells #[.int .i64 kk, .int .i64 oa, .int .i64 ob, .int .i64 oc] 46)).drew) _ _
        rw [← HHD.out]
        repeat still_step
        still_call (HRK.out.mono fun _ _ h => ⟨h.1, h.2.symm⟩)
        repeat still_step
        refine wpStill_nil ?_
        clear cb fb cc fc q1 q2 q3 q4 p1 HRA o0 o1 o2 o3 HHD
        go_wp2
        go_roundw
        case rel => exact ⟨p + 1, k + 1, _, by go_num, by go_num, by omega, by omega, HXD.out.set oa.toNat _ (in32_reckN _ _ _), HST⟩
        case measure => simp [intOf]; omega
      · have h2c : ¬ (k : Int) < 200 := by omega
        have hend := goN_end E os (200 - k) p g' (.inl (by omega))
        rw [hend] at HE
        have e1 : Hid (g' = (goN E os 200 0 g).1) := HE.out.1
        have e2 : Hid (k = (goN E os 200 0 g).2) := by have h : 0 + k = (goN E os 200 0 g).2 := HE.out.2; rw [Nat.zero_add] at h; exact h
        have HX := Lib.hid HRA.out
        have HL0 := Lib.hid (gam_len HRA.out.g)
        have HL1 := Lib.hid HRA.out.g.1
        clear hend HE
        go_wp2_with (first
          | (with_reducible refine wpList_load_g rfl 33 (.tmp 5) rfl (w.heap.size + 1) (by with_unfolding_all rfl) 33 g' HX.out.G Try.underlying33 (by rw [HL1.out]; exact infoGame) ?_)
          | (with_reducible refine wpList_store_g rfl 33 (.tmp 8) (.tmp 164) rfl (w.heap.size + 1 + 1) (by with_unfolding_all rfl) 33 (zG 32) g' HX.out.Z (by with_unfolding_all rfl) HL0.out (by rw [HL1.out]; exact infoGame) ?_; intro w7 G7 S7 R7))
        have hbe := (bw2.trans (grown_under HX.out.W (by omega) (by omega))).grown R7 (by have := HX.out.lt; omega) (by simp; omega)
        refine bodyPost_ret (results_g2 rfl G7 rfl (v := .int .i64 (k : Int)) rfl Try.underlying33 (by rw [HL1.out]; exact infoGame)) rfl ⟨?_, hbe⟩
        rw [← e1.out, ← e2.out]
    · have h1c : ¬ (p : Int) < (os.length : Int) := by omega
      by_cases h2 : k < 200
      · have h2c : (k : Int) < 200 := by omega
        have hend := goN_end E os (200 - k) p g' (.inr (by omega))
        rw [hend] at HE
        have e1 : Hid (g' = (goN E os 200 0 g).1) := HE.out.1
        have e2 : Hid (k = (goN E os 200 0 g).2) := by have h : 0 + k = (goN E os 200 0 g).2 := HE.out.2; rw [Nat.zero_add] at h; exact h
        have HX := Lib.hid HRA.out
        have HL0 := Lib.hid (gam_len HRA.out.g)
        have HL1 := Lib.hid HRA.out.g.1
        clear hend HE
        go_wp2_with (first
          | (with_reducible refine wpList_load_g rfl 33 (.tmp 5) rfl (w.heap.size + 1) (by with_unfolding_all rfl) 33 g' HX.out.G Try.underlying33 (by rw [HL1.out]; exact infoGame) ?_)
          | (with_reducible refine wpList_store_g rfl 33 (.tmp 8) (.tmp 164) rfl (w.heap.size + 1 + 1) (by with_unfolding_all rfl) 33 (zG 32) g' HX.out.Z (by with_unfolding_all rfl) HL0.out (by rw [HL1.out]; exact infoGame) ?_; intro w7 G7 S7 R7))
        have hbe := (bw2.trans (grown_under HX.out.W (by omega) (by omega))).grown R7 (by have := HX.out.lt; omega) (by simp; omega)
        refine bodyPost_ret (results_g2 rfl G7 rfl (v := .int .i64 (k : Int)) rfl Try.underlying33 (by rw [HL1.out]; exact infoGame)) rfl ⟨?_, hbe⟩
        rw [← e1.out, ← e2.out]
      · have h2c : ¬ (k : Int) < 200 := by omega
        have hend := goN_end E os (200 - k) p g' (.inr (by omega))
        rw [hend] at HE
        have e1 : Hid (g' = (goN E os 200 0 g).1) := HE.out.1
        have e2 : Hid (k = (goN E os 200 0 g).2) := by have h : 0 + k = (goN E os 200 0 g).2 := HE.out.2; rw [Nat.zero_add] at h; exact h
        have HX := Lib.hid HRA.out
        have HL0 := Lib.hid (gam_len HRA.out.g)
        have HL1 := Lib.hid HRA.out.g.1
        clear hend HE
        go_wp2_with (first
          | (with_reducible refine wpList_load_g rfl 33 (.tmp 5) rfl (w.heap.size + 1) (by with_unfolding_all rfl) 33 g' HX.out.G Try.underlying33 (by rw [HL1.out]; exact infoGame) ?_)
          | (with_reducible refine wpList_store_g rfl 33 (.tmp 8) (.tmp 164) rfl (w.heap.size + 1 + 1) (by with_unfolding_all rfl) 33 (zG 32) g' HX.out.Z (by with_unfolding_all rfl) HL0.out (by rw [HL1.out]; exact infoGame) ?_; intro w7 G7 S7 R7))
        have hbe := (bw2.trans (grown_under HX.out.W (by omega) (by omega))).grown R7 (by have := HX.out.lt; omega) (by simp; omega)
        refine bodyPost_ret (results_g2 rfl G7 rfl (v := .int .i64 (k : Int)) rfl Try.underlying33 (by rw [HL1.out]; exact infoGame)) rfl ⟨?_, hbe⟩
        rw [← e1.out, ← e2.out]
end Go.Proofs.Ytbmhdinaofepdaa
