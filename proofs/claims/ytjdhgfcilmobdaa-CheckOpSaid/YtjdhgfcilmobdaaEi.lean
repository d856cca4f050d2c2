/- WALK of the law CheckOp. -/
import Derived.Test.YtjdhgfcilmobdaaEg
import Derived.Test.YtjdhgfcilmobdaaKo
namespace Go.Proofs.Ytjdhgfcilmobdaa
set_option maxRecDepth 100000
open Go.RowKit
set_option linter.unusedVariables false
attribute [local go_sem ↓] Go.wp_at_zero Go.wp_at_succ

def oneT : ByteArray := ⟨#[111, 110, 101]⟩
/-- operations that keep the time, in cells 0 to n - 1 -/
def timeOs (n : Nat) : List O4 := (List.range n).map fun (i : Nat) => ⟨15, (i : Int), 0, 0⟩
theorem timeOs_len (n : Nat) : (timeOs n).length = n := by unfold timeOs; simp
theorem timeOs_succ (n : Nat) : timeOs (n + 1) = timeOs n ++ [⟨15, (n : Int), 0, 0⟩] := by unfold timeOs; rw [List.range_succ, List.map_append]; rfl
theorem timeOs_at (n j : Nat) (h : j < (timeOs n).length) : (timeOs n)[j] = ⟨15, (j : Int), 0, 0⟩ := by
  have e : (timeOs n)[j]? = some ⟨15, (j : Int), 0, 0⟩ := by
    rw [timeOs_len] at h
    unfold timeOs
    rw [List.getElem?_map, List.getElem?_range h]; rfl
  rw [List.getElem?_eq_getElem h] at e
  exact Option.some.inj e
/-- what is owned reads so -/
theorem OO.reads {w : World} {base : Nat} {A : Option Addr} {n c : Nat} {os : List O4} (h : OO w base (.slice A n c) os) : os.length = n ∧ n ≤ c ∧ c ≤ maxLen ∧ RO w w.heap.size A os := by
  obtain ⟨A', c', e, h1, h2, h3⟩ := h.form
  injection e with e1 e2 e3
  subst e1 e2 e3
  exact ⟨rfl, h1, h2, h3⟩
theorem time_may (j : Nat) (hj : j < 32) (m : Int) : mayB ⟨15, (j : Int), 0, 0⟩ m = true := by
  unfold mayB
  have e : hasB (kd (15 : Int).toNat 0) (j : Int) m = true := by
    show hasB 2 (j : Int) m = true
    unfold hasB
    rw [if_neg (by decide), if_pos rfl, show decide ((0 : Int) ≤ j) = true by rw [decide_eq_true_iff]; omega, show decide ((j : Int) < 32) = true by rw [decide_eq_true_iff]; omega]
    rfl
  simp only [e]
  rfl
/-- behind operations that may be the last one alone is told -/
theorem one_fault (tb : Bool) (n : Nat) (hn : n ≤ 20) (o : O4) : faultN tb (timeOs n ++ [o]) = -1 ∨ faultN tb (timeOs n ++ [o]) = n ∨ faultN tb (timeOs n ++ [o]) = -2 := by
  unfold faultN
  by_cases hf : fitsB tb (timeOs n ++ [o]) = true
  · rw [if_pos hf]
    rcases firstN_eq (fun p => mayB p (timeOs n ++ [o]).length) (timeOs n ++ [o]) with ⟨k, hk, e, hbad, _⟩ | ⟨e, _⟩
    · rw [e]
      have hl : (timeOs n ++ [o]).length = n + 1 := by rw [List.length_append, timeOs_len]; rfl
      by_cases h : k < n
      · have h2 : k < (timeOs n).length := by rw [timeOs_len]; exact h
        rw [List.getElem_append_left h2, timeOs_at, time_may k (by omega)] at hbad
        cases hbad
      · have : k = n := by omega
        subst this
        exact .inr (.inl rfl)
    · exact .inl e
  · rw [if_neg hf]; exact .inr (.inr rfl)
set_option maxHeartbeats 4000000 in
theorem checkop_law (o : O4) (n : Int) (w : World) (n1 : -9223372036854775808 ≤ n) (n2 : n ≤ 9223372036854775807) :
    Calls Try.prog 4 #[opV o, .int .i64 n] w fun e w' => e = .returned (.bool true) ∧ Below w.heap.size w w' := by
  unfold opV
  have b0 : Below w.heap.size w (w.alloc (oObj o)) := (Below.refl _ _).alloc (Nat.le_refl _) _
  by_cases hn : n < 0 ∨ 20 < n
  · by_cases h0 : n < 0
    · clear hn
      go_enter Try.func4, Try.ntmps4
      go_wp2_with fail
      refine (begun7_any _).mono ?_
      rintro e w1 ⟨rfl, hb1⟩
      go_wp2_with fail
      go_ret
      exact ⟨rfl, b0.trans (hb1.mono (by simp))⟩
    · have h20 : 20 < n := by omega
      clear hn
      go_enter Try.func4, Try.ntmps4
      go_wp2_with fail
      refine (begun7_any _).mono ?_
      rintro e w1 ⟨rfl, hb1⟩
      go_wp2_with fail
      go_ret
      exact ⟨rfl, b0.trans (hb1.mono (by simp))⟩
  obtain ⟨N, hN⟩ : ∃ N : Nat, n = N := ⟨n.toNat, by omega⟩
  have h20 : N ≤ 20 := by omega
  have g1 : ¬ n < 0 := by omega
  have g2 : ¬ 20 < n := by omega
  have hr0 := oObj_reads w o
  have HR0 := Lib.hid hr0; clear hr0 hn n1 n2
  subst hN
  go_enter Try.func4, Try.ntmps4
  go_wp2_with fail
  refine (begun7_any _).mono ?_
  rintro e w1 ⟨rfl, hb1⟩
  have hs1 := hb1.size
  rw [World.size_alloc] at hs1
  have HR1 := Lib.hid (HR0.out.below (hb1.mono (by simp)))
  have hb2 := b0.trans (hb1.mono (by simp))
  have HP := Lib.hid (pRow w1 oneT (.slice none 0 0))
  clear hb1 HR0 b0
  have HB := Lib.hid ((Below.refl w1.heap.size w1).alloc (Nat.le_refl _) (.cells #[.string oneT, .slice none 0 0] 24))
  go_wp2_with fail
  go_loopw [7] (fun i wr => ∃ (k : Nat) (v : Value), i = .int .i64 k ∧ k ≤ N ∧ Hid (wr.rowIs w1.heap.size 24 2 (pF oneT v)) ∧ Hid (OO wr (w1.heap.size + 1) v (timeOs k)) ∧ Below w1.heap.size w1 wr) (fun i _ => N - (intOf i).toNat)
  case atStart => exact ⟨0, _, rfl, by omega, HP, OO.nil _ _, HB.out⟩
  case round =>
    obtain ⟨k, v, rfl, hk, hrow, hown, hb⟩ := hrel
    clear HP HB
    have hgl := World.rowIs.lt hrow.out
    have p0 := World.rowIs.cell hrow.out (show 0 < 2 by omega)
    have p1 := World.rowIs.cell hrow.out (show 1 < 2 by omega)
    have pf := World.rowIs.frozen hrow.out 1
    unfold pF at p0 p1
    simp only [if_true, if_neg (show ¬ (1 : Nat) = 0 by omega)] at p0 p1
    by_cases hlt : k < N
    · have hkn : (k : Int) < (N : Int) := by omega
      have HX := Lib.hid (hown.out.alloc (oObj (O4.mk 15 (k : Int) 0 0)))
      have hq := oObj_reads wr (O4.mk 15 (k : Int) 0 0)
      have hsz : (wr.alloc (oObj (O4.mk 15 (k : Int) 0 0))).heap.size = wr.heap.size + 1 := by simp
      have HQ := Lib.hid (show RO (wr.alloc (oObj (O4.mk 15 (k : Int) 0 0))) (wr.alloc (oObj (O4.mk 15 (k : Int) 0 0))).heap.size (some ⟨wr.heap.size, 0, none⟩) [O4.mk 15 (k : Int) 0 0] by rw [hsz]; exact hq)
      have hkl : (timeOs k).length ≤ 1000000 := by rw [timeOs_len]; omega
      have HK := Lib.hid hkl
      have hbase : w1.heap.size + 1 ≤ (wr.alloc (oObj (O4.mk 15 (k : Int) 0 0))).heap.size := by rw [hsz]; omega
      have HBs := Lib.hid hbase
      have hrow2 := World.rowIs.alloc hrow.out (oObj (O4.mk 15 (k : Int) 0 0))
      have HRw := Lib.hid hrow2
      have hbw := hb.alloc (Nat.le_of_lt hgl) (oObj (O4.mk 15 (k : Int) 0 0))
      have HN2 : Hid ((timeOs k ++ [O4.mk 15 (k : Int) 0 0]).length = k + 1) := by unfold Hid; rw [← timeOs_succ, timeOs_len]
      clear hq hsz hkl hbase hrow2
      go_wp2_with (at_builtin; refine wpList_append_op rfl (.tmp 25) (.tmp 28) rfl (w1.heap.size + 1) v (timeOs k) (O4.mk 15 (k : Int) 0 0) rfl HX.out wr.heap.size 1 rfl HQ.out HK.out HBs.out ?_; intro v2 w2 o2 g2; obtain ⟨A2, c2, rfl⟩ := o2.form_n (k + 1) HN2.out; have hrw2 : w2.rowIs w1.heap.size 24 2 (pF oneT v) := World.rowIs.of_block HRw.out (g2.block _ (World.rowIs.lt HRw.out) (fun e => by have := (World.ownsRow.lt HX.out _ e.symm).1; omega)); have t1 := World.rowIs.cell hrw2 (show 1 < 2 by omega); have t2 := World.rowIs.frozen hrw2 1; have HRw2 := Lib.hid hrw2; clear hrw2; have HO2 := Lib.hid o2; clear o2; have hb3 := hbw.grown g2 (by simp; omega) (fun j hj => by have := (World.ownsRow.lt HX.out _ hj).1; omega); clear g2)
      go_roundw
      case rel =>
        refine ⟨k + 1, .slice A2 (k + 1) c2, by go_num, by omega, ?_, ?_, hb3.setCell (by simp) _⟩
        · refine (World.rowIs.set HRw2.out 1 _).congr (fun i hi => ?_)
          obtain rfl | rfl : i = 0 ∨ i = 1 := by omega
          all_goals rfl
        · have := HO2.out
          rw [← timeOs_succ] at this
          exact ownsRow_setCell_below this (by simp) _
      case measure => simp [intOf]; omega
    · obtain rfl : k = N := by omega
      have hfar := HR1.out.below (hb.mono hs1)
      obtain ⟨b, off, e, _, hc⟩ := hfar (by simp)
      injection e with e
      injection e with e1 e2
      subst e1 e2
      obtain ⟨q1, q2, q3, q4⟩ := hc 0 (by simp)
      simp only [Nat.zero_mul, Nat.zero_add, List.getElem_cons_zero] at q1 q2 q3 q4
      clear hc hfar hlt hk
      have HX := Lib.hid (hown.out.alloc (oObj o))
      have hq := oObj_reads wr o
      have hsz : (wr.alloc (oObj o)).heap.size = wr.heap.size + 1 := by simp
      have HQ := Lib.hid (show RO (wr.alloc (oObj o)) (wr.alloc (oObj o)).heap.size (some ⟨wr.heap.size, 0, none⟩) [o] by rw [hsz]; exact hq)
      have hkl : (timeOs k).length ≤ 1000000 := by rw [timeOs_len]; omega
      have HK := Lib.hid hkl
      have hbase : w1.heap.size + 1 ≤ (wr.alloc (oObj o)).heap.size := by rw [hsz]; omega
      have HBs := Lib.hid hbase
      have hrow2 := World.rowIs.alloc hrow.out (oObj o)
      have HRw := Lib.hid hrow2
      have hbw := hb.alloc (Nat.le_of_lt hgl) (oObj o)
      have HN2 : Hid ((timeOs k ++ [o]).length = k + 1) := by unfold Hid; rw [List.length_append, timeOs_len]; rfl
      clear hq hsz hkl hbase hrow2
      go_wp2_with (at_builtin; refine wpList_append_op rfl (.tmp 32) (.tmp 34) rfl (w1.heap.size + 1) v (timeOs k) o rfl HX.out wr.heap.size 1 rfl HQ.out HK.out HBs.out ?_; intro v2 w2 o2 g2; obtain ⟨A2, c2, rfl⟩ := o2.form_n (k + 1) HN2.out; have hrw2 : w2.rowIs w1.heap.size 24 2 (pF oneT v) := World.rowIs.of_block HRw.out (g2.block _ (World.rowIs.lt HRw.out) (fun e => by have := (World.ownsRow.lt HX.out _ e.symm).1; omega)); have t0 : w2.cell? ⟨w1.heap.size, 0, none⟩ = some (.string oneT) := World.rowIs.cell hrw2 (show 0 < 2 by omega); have t1 := World.rowIs.cell hrw2 (show 1 < 2 by omega); have t2 := World.rowIs.frozen hrw2 1; have HRw2 := Lib.hid hrw2; clear hrw2; have HO2 := Lib.hid o2; clear o2; have hb3 := hbw.grown g2 (by simp; omega) (fun j hj => by have := (World.ownsRow.lt HX.out _ hj).1; omega); clear g2)
      obtain ⟨W, hW⟩ : ∃ W, W = w2.setCell ⟨w1.heap.size, 1, none⟩ (.slice A2 (k + 1) c2) := ⟨_, rfl⟩
      have hOW : OO W (w1.heap.size + 1) (.slice A2 (k + 1) c2) (timeOs k ++ [o]) := by rw [hW]; exact ownsRow_setCell_below HO2.out (by simp) _
      obtain ⟨hl, hcc, hcm, hRW⟩ := hOW.reads
      have hRowW : W.rowIs w1.heap.size 24 2 (pF oneT (.slice A2 (k + 1) c2)) := by
        rw [hW]
        refine (World.rowIs.set HRw2.out 1 _).congr (fun i hi => ?_)
        obtain rfl | rfl : i = 0 ∨ i = 1 := by omega
        all_goals rfl
      have u0 : W.cell? ⟨w1.heap.size, 0, none⟩ = some (.string oneT) := World.rowIs.cell hRowW (show 0 < 2 by omega)
      have u1 : W.cell? ⟨w1.heap.size, 1, none⟩ = some (.slice A2 (k + 1) c2) := World.rowIs.cell hRowW (show 1 < 2 by omega)
      have uL := World.rowIs.lt hRowW
      have hbW : Below w1.heap.size w1 W := by rw [hW]; exact hb3.setCell (by simp) _
      obtain ⟨z, hz⟩ : ∃ z, faultN (titB oneT) (timeOs k ++ [o]) = z := ⟨_, rfl⟩
      have hone := one_fault (titB oneT) k h20 o
      rw [hz] at hone
      have hE : ∀ W', Below W.heap.size W W' → Calls Try.prog 10 #[progV oneT A2 (timeOs k ++ [o]).length c2] W' fun e w' => e = .returned (.int .i64 z) ∧ Below W'.heap.size W' w' := fun W' hW' => by
        have := reffault_any oneT A2 (timeOs k ++ [o]) c2 W.heap.size W' (hRW.below hW') hW'.size (by omega) hcm (by decide)
        rw [hz] at this
        exact this
      have hF : ∀ W', Below W.heap.size W W' → Calls Try.prog 11 #[progV oneT A2 (timeOs k ++ [o]).length c2] W' fun e w' => e = .returned (.int .i64 z) ∧ Below W'.heap.size W' w' := fun W' hW' => by
        have := fault_any oneT A2 (timeOs k ++ [o]) c2 W.heap.size W' (hRW.below hW') hW'.size (by omega) hcm (by decide)
        rw [hz] at this
        exact this
      rw [hl] at hE hF
      unfold progV at hE hF
      have HE := Lib.hid hE; have HF := Lib.hid hF; have U0 := Lib.hid u0; have U1 := Lib.hid u1
      rw [← hW]
      clear hE hF hz hRW hOW hl hcc hcm hRowW t0 t1 t2 HRw2 HO2 hb3 hW hrow hown HX HQ HK HBs HRw HN2 u0 u1 p0 p1 pf q1 q2 q3 q4
      (with_reducible refine (HE.out W (Below.refl _ _)).mono ?_)
      rintro e w4 ⟨rfl, hb5⟩
      have p0 := (hb5.cell (p := ⟨w1.heap.size, 0, none⟩) uL).trans U0.out
      have p1 := (hb5.cell (p := ⟨w1.heap.size, 1, none⟩) uL).trans U1.out
      go_wp2_with fail
      (with_reducible refine (HF.out w4 hb5).mono ?_)
      rintro e w5 ⟨rfl, hb6⟩
      have hfin : Below w.heap.size w w5 := hb2.trans ((hbW.trans ((hb5.trans (hb6.mono hb5.size)).mono hbW.size)).mono hb2.size)
      clear p0 p1 HE HF U0 U1 hb5 hb6
      rcases hone with rfl | rfl | rfl
      · go_wp2
        go_ret
        exact ⟨rfl, hfin⟩
      · have k1 : ((k : Int) == -1) = false := by rw [beq_eq_false_iff_ne]; omega
        go_wp2
        go_ret
        exact ⟨by simp, hfin⟩
      · have k2 : ((-2 : Int) == (k : Int)) = false := by rw [beq_eq_false_iff_ne]; omega
        go_wp2
        go_ret
        exact ⟨by simp, hfin⟩
end Go.Proofs.Ytjdhgfcilmobdaa
