/- WALK of the law CheckFirst. -/
import Derived.Test.YtjdhgfcilmobdaaEg
import Derived.Test.YtjdhgfcilmobdaaKo
import Derived.Deep.DeepCutAuto
namespace Go.Proofs.Ytjdhgfcilmobdaa
set_option maxRecDepth 100000
open Go.RowKit
set_option linter.unusedVariables false
attribute [local go_sem ↓] Go.wp_at_zero Go.wp_at_succ

def firstT : ByteArray := ⟨#[102, 105, 114, 115, 116]⟩
theorem k_first : titB firstT = true := by decide +kernel
/-- is i among the first k? -/
def among (zs : List Int) (k i : Nat) : Bool := (zs.take k).any fun z => z == (i : Int)
def badA (zs : List Int) (k i : Nat) : Int := if among zs k i then 32 else (i : Int)
theorem among_zero (zs : List Int) (i : Nat) : among zs 0 i = false := rfl
theorem among_hit {zs : List Int} {k i : Nat} (h : k < zs.length) (he : zs[k] = (i : Int)) : among zs (k + 1) i = true := by
  unfold among
  rw [List.take_succ_eq_append_getElem h, List.any_append, he]; simp
theorem among_miss {zs : List Int} {k i : Nat} (h : k < zs.length) (he : zs[k] ≠ (i : Int)) : among zs (k + 1) i = among zs k i := by
  unfold among
  rw [List.take_succ_eq_append_getElem h, List.any_append]
  simp [he]
def firstO (zs : List Int) (i : Nat) : O4 := ⟨15, badA zs (min 5 zs.length) i, 0, 0⟩
def firstOs (zs : List Int) (n : Nat) : List O4 := (List.range n).map (firstO zs)
theorem firstOs_len (zs : List Int) (n : Nat) : (firstOs zs n).length = n := by unfold firstOs; simp
theorem firstOs_succ (zs : List Int) (n : Nat) : firstOs zs (n + 1) = firstOs zs n ++ [firstO zs n] := by unfold firstOs; rw [List.range_succ, List.map_append]; rfl
theorem firstOs_mem {zs : List Int} {n : Nat} {o : O4} (h : o ∈ firstOs zs n) : ∃ i, i < n ∧ o = firstO zs i := by
  unfold firstOs at h
  obtain ⟨i, hi, rfl⟩ := List.mem_map.1 h
  exact ⟨i, List.mem_range.1 hi, rfl⟩
def not32 (o : O4) : Bool := !(o.a == 32)
theorem firstN_snoc (p : O4 → Bool) (os : List O4) (o : O4) : firstN p (os ++ [o]) = if firstN p os < 0 then (if p o then -1 else (os.length : Int)) else firstN p os := by
  have hl : (os ++ [o]).length = os.length + 1 := by rw [List.length_append]; rfl
  rcases firstN_eq p os with ⟨k, hk, e, hb, hall⟩ | ⟨e, hall⟩
  · rw [e, if_neg (by omega)]
    refine firstN_hit _ _ k (by omega) (by rw [List.getElem_append_left hk]; exact hb) (fun j h hj => ?_)
    rw [List.getElem_append_left (by omega)]
    exact hall j (by omega) hj
  · rw [e, if_pos (by omega)]
    cases hp : p o with
    | true =>
      rw [if_pos rfl]
      refine firstN_miss _ _ (fun j h => ?_)
      by_cases hj : j < os.length
      · rw [List.getElem_append_left hj]; exact hall j hj
      · have : j = os.length := by omega
        subst this
        simpa using hp
    | false =>
      rw [if_neg (by decide)]
      refine firstN_hit _ _ os.length (by omega) (by simpa using hp) (fun j h hj => ?_)
      rw [List.getElem_append_left hj]
      exact hall j hj
theorem firstN_congr {p q : O4 → Bool} {os : List O4} (h : ∀ o ∈ os, p o = q o) : firstN p os = firstN q os := by
  rcases firstN_eq p os with ⟨k, hk, e, hb, hall⟩ | ⟨e, hall⟩
  · rw [e]
    exact (firstN_hit q os k hk ((h _ (List.getElem_mem hk)).symm.trans hb) (fun j hj hjk => (h _ (List.getElem_mem hj)).symm.trans (hall j hj hjk))).symm
  · rw [e]
    exact (firstN_miss q os (fun j hj => (h _ (List.getElem_mem hj)).symm.trans (hall j hj))).symm
theorem time_may2 (a m : Int) : mayB ⟨15, a, 0, 0⟩ m = (decide (0 ≤ a) && decide (a < 32)) := by
  unfold mayB
  have e : hasB (kd (15 : Int).toNat 0) a m = (decide (0 ≤ a) && decide (a < 32)) := by
    show hasB 2 a m = _
    unfold hasB
    rw [if_neg (by decide), if_pos rfl]
  simp only [e]
  cases (decide (0 ≤ a) && decide (a < 32)) <;> rfl
theorem first_fault (zs : List Int) (n : Nat) (h1 : 1 ≤ n) (h2 : n ≤ 30) : faultN (titB firstT) (firstOs zs n) = firstN not32 (firstOs zs n) := by
  unfold faultN
  have hb : ∀ o ∈ firstOs zs n, o.k = 15 ∧ o.b = 0 ∧ o.c = 0 ∧ 0 ≤ o.a ∧ o.a ≤ 32 := fun o ho => by
    obtain ⟨i, hi, rfl⟩ := firstOs_mem ho
    refine ⟨rfl, rfl, rfl, ?_⟩
    show 0 ≤ badA zs _ i ∧ badA zs _ i ≤ 32
    unfold badA
    split <;> omega
  rw [if_pos ((fitsB_iff _ _).2 ⟨k_first, by rw [firstOs_len]; omega, by rw [firstOs_len]; omega, fun o ho => by
    obtain ⟨e1, e2, e3, e4, e5⟩ := hb o ho
    unfold smlO sml
    rw [e1, e2, e3]
    omega⟩)]
  refine firstN_congr (fun o ho => ?_)
  obtain ⟨e1, e2, e3, e4, e5⟩ := hb o ho
  obtain ⟨k, a, b, c⟩ := o
  simp only at e1 e2 e3 e4 e5
  subst e1 e2 e3
  rw [time_may2]
  unfold not32
  by_cases h : a = 32
  · subst h; rfl
  · rw [decide_eq_true e4, decide_eq_true (show a < 32 by omega), beq_eq_false_iff_ne.2 h]; rfl
theorem first_ge (zs : List Int) (n : Nat) : -1 ≤ firstN not32 (firstOs zs n) ∧ firstN not32 (firstOs zs n) < (n : Int) := by
  rcases firstN_eq not32 (firstOs zs n) with ⟨k, hk, e, _⟩ | ⟨e, _⟩
  · rw [firstOs_len] at hk; rw [e]; omega
  · rw [e]; omega
theorem opRow_of (w : World) (o : O4) : (w.alloc (oObj o)).rowIs w.heap.size 30 4 (opF o) := World.rowIs_alloc w _ _ _ (fun i hi => by
  have hi : i < 4 := hi
  obtain rfl | rfl | rfl | rfl : i = 0 ∨ i = 1 ∨ i = 2 ∨ i = 3 := by omega
  all_goals rfl)
set_option maxHeartbeats 4000000 in
theorem checkfirst_law (n : Int) (A : Option Addr) (zs : List Int) (cap : Nat) (w : World) (n1 : -9223372036854775808 ≤ n) (n2 : n ≤ 9223372036854775807) (hr : RI w w.heap.size A zs) (hc : zs.length ≤ cap) (hm : cap ≤ maxLen) :
    Calls Try.prog 7 #[.int .i64 n, .slice A zs.length cap] w fun e w' => e = .returned (.bool true) ∧ Below w.heap.size w w' := by
  unfold maxLen at hm
  by_cases g1 : n < 1
  · go_enter Try.func7, Try.ntmps7
    go_wp2_with fail
    refine (begun7_any _).mono ?_
    rintro e w1 ⟨rfl, hb1⟩
    go_wp2_with fail
    go_ret
    exact ⟨rfl, hb1⟩
  by_cases g2 : 30 < n
  · go_enter Try.func7, Try.ntmps7
    go_wp2_with fail
    refine (begun7_any _).mono ?_
    rintro e w1 ⟨rfl, hb1⟩
    go_wp2_with fail
    go_ret
    exact ⟨rfl, hb1⟩
  obtain ⟨N, hN⟩ : ∃ N : Nat, n = N := ⟨n.toNat, by omega⟩
  have hN1 : 1 ≤ N := by omega
  have hN30 : N ≤ 30 := by omega
  subst hN
  have HR0 := Lib.hid hr
  clear n1 n2 hr
  go_enter Try.func7, Try.ntmps7
  go_wp2_with fail
  refine (begun7_any _).mono ?_
  rintro e w1 ⟨rfl, hb1⟩
  have HR1 := Lib.hid (HR0.out.below hb1)
  have hs1 := hb1.size
  clear HR0
  have HP := Lib.hid (pRow w1 firstT (.slice none 0 0))
  have HB := Lib.hid ((Below.refl w1.heap.size w1).alloc (Nat.le_refl _) (.cells #[.string firstT, .slice none 0 0] 24))
  go_wp2_with fail
  go_loopw [7, 8] (fun fv i wr => ∃ (k : Nat) (v : Value) (f : Int), i = .int .i64 k ∧ fv = .int .i64 f ∧ k ≤ N ∧ Hid (f = firstN not32 (firstOs zs k)) ∧ Hid (wr.rowIs w1.heap.size 24 2 (pF firstT v)) ∧ Hid (OO wr (w1.heap.size + 1) v (firstOs zs k)) ∧ Below w1.heap.size w1 wr) (fun _ i _ => N - (intOf i).toNat)
  case atStart => exact ⟨0, _, -1, rfl, rfl, by omega, rfl, HP, OO.nil _ _, HB.out⟩
  case round =>
    obtain ⟨k, v, f, rfl, rfl, hk, HF, hrow, hown, hb⟩ := hrel
    clear HP HB
    have hgl := World.rowIs.lt hrow.out
    by_cases hlt : k < N
    · have hkn : (k : Int) < (N : Int) := by omega
      obtain ⟨W0, rfl⟩ : ∃ W0, W0 = wr := ⟨wr, rfl⟩
      have HRW := Lib.hid (HR1.out.below (hb.mono hs1))
      have HOB := Lib.hid (opRow_of W0 ⟨15, (k : Int), 0, 0⟩)
      have HBI := Lib.hid ((Below.refl W0.heap.size W0).alloc (Nat.le_refl _) (oObj ⟨15, (k : Int), 0, 0⟩))
      have HB0 := Lib.hid hb; clear hb
      go_wp2_with fail
      go_loopw [10] (fun i wi => ∃ q : Nat, i = .int .i64 q ∧ q ≤ min 5 zs.length ∧ Hid (wi.rowIs W0.heap.size 30 4 (opF ⟨15, badA zs q k, 0, 0⟩)) ∧ Below W0.heap.size W0 wi) (fun i _ => 5 - (intOf i).toNat)
      case atStart => exact ⟨0, rfl, by omega, HOB, HBI.out⟩
      case round =>
        obtain ⟨q, rfl, hq, hrw, hbi⟩ := hrel
        clear HOB HBI
        have c0 : wr.cell? ⟨W0.heap.size, 0, none⟩ = some (.int .i64 15) := World.rowIs.cell hrw.out (show 0 < 4 by omega)
        have c1 : wr.cell? ⟨W0.heap.size, 1, none⟩ = some (.int .i64 (badA zs q k)) := World.rowIs.cell hrw.out (show 1 < 4 by omega)
        have c2 : wr.cell? ⟨W0.heap.size, 2, none⟩ = some (.int .i64 0) := World.rowIs.cell hrw.out (show 2 < 4 by omega)
        have c3 : wr.cell? ⟨W0.heap.size, 3, none⟩ = some (.int .i64 0) := World.rowIs.cell hrw.out (show 3 < 4 by omega)
        have f1 := World.rowIs.frozen hrw.out 1
        by_cases hq2 : q < min 5 zs.length
        · have h5 : (q : Int) < 5 := by omega
          have hl : (q : Int) < (zs.length : Int) := by omega
          have hl2 : q < zs.length := by omega
          obtain ⟨b, off, rfl, hbB, hcell⟩ := (HRW.out.below (hbi.mono (Nat.le_trans hs1 HB0.out.size))) (by omega)
          have hcq := hcell q hl2
          clear hcell
          obtain ⟨zv, hzv⟩ : ∃ zv, zs[q] = zv := ⟨_, rfl⟩
          rw [hzv] at hcq
          by_cases he : zv = (k : Int)
          · have hz1 : (zv == (k : Int)) = true := by rw [he]; exact beq_self_eq_true _
            have HNX : Hid (badA zs (q + 1) k = 32) := by unfold Hid badA; rw [among_hit hl2 (hzv.trans he)]; rfl
            clear he hzv
            go_wp2
            go_roundw
            case rel =>
              refine ⟨q + 1, by go_num, by omega, ?_, hbi.setCell (Nat.le_refl _) _⟩
              unfold Hid
              rw [HNX.out]
              refine (World.rowIs.set hrw.out 1 _).congr (fun i hi => ?_)
              obtain rfl | rfl | rfl | rfl : i = 0 ∨ i = 1 ∨ i = 2 ∨ i = 3 := by omega
              all_goals rfl
            case measure => simp [intOf]; omega
          · have hz1 : (zv == (k : Int)) = false := by rw [beq_eq_false_iff_ne]; exact he
            have HNX : Hid (badA zs (q + 1) k = badA zs q k) := by unfold Hid badA; rw [among_miss hl2 (by rw [hzv]; exact he)]
            clear he hzv
            go_wp2
            go_roundw
            case rel =>
              refine ⟨q + 1, by go_num, by omega, ?_, hbi⟩
              unfold Hid
              rw [HNX.out]
              exact hrw.out
            case measure => simp [intOf]; omega
        · have hqM : q = min 5 zs.length := by omega
          obtain ⟨a, ha⟩ : ∃ a, badA zs q k = a := ⟨_, rfl⟩
          rw [ha] at c1
          have hOk : firstO zs k = ⟨15, a, 0, 0⟩ := by unfold firstO; rw [← hqM, ha]
          have hf' : ∃ f', f' = firstN not32 (firstOs zs (k + 1)) ∧ (a = 32 → f < 0 → f' = (k : Int)) ∧ (a = 32 → ¬ f < 0 → f' = f) ∧ (a ≠ 32 → f' = f) := by
            refine ⟨_, rfl, ?_, ?_, ?_⟩
            all_goals
              rw [firstOs_succ, firstN_snoc, hOk, firstOs_len, ← HF.out]
            · intro h1 h2
              rw [if_pos h2, h1]; rfl
            · intro h1 h2
              rw [if_neg h2]
            · intro h1
              by_cases h2 : f < 0
              · have := (first_ge zs k).1
                rw [← HF.out] at this
                rw [if_pos h2, show not32 ⟨15, a, 0, 0⟩ = true by unfold not32; simp [h1]]
                simp
                omega
              · rw [if_neg h2]
          obtain ⟨f', hf1, hf2, hf3, hf4⟩ := hf'
          have HF1 := Lib.hid hf1
          have HOK := Lib.hid hOk
          have hb := HB0.out.trans (hbi.mono HB0.out.size)
          have hrow3 : wr.rowIs w1.heap.size 24 2 (pF firstT v) := World.rowIs.of_block hrow.out (hbi.block _ hgl)
          have p1 : wr.cell? ⟨w1.heap.size, 1, none⟩ = some v := World.rowIs.cell hrow3 (show 1 < 2 by omega)
          have pf := World.rowIs.frozen hrow3 1
          have HROW := Lib.hid hrow3
          have HX := Lib.hid ((OO.below hown.out hbi (Nat.le_refl _)).alloc (oObj ⟨15, a, 0, 0⟩))
          have HQ := Lib.hid (oObj_reads wr ⟨15, a, 0, 0⟩)
          have HK := Lib.hid (show (firstOs zs k).length + [(⟨15, a, 0, 0⟩ : O4)].length ≤ 1000000 by rw [firstOs_len]; simp; omega)
          have hsz3 : w1.heap.size < wr.heap.size := Nat.lt_of_lt_of_le hgl hbi.size
          have HBs := Lib.hid (show w1.heap.size + 1 ≤ (wr.alloc (oObj ⟨15, a, 0, 0⟩)).heap.size by simp; omega)
          have HRw := Lib.hid (World.rowIs.alloc hrow3 (oObj ⟨15, a, 0, 0⟩))
          have HBW := Lib.hid (hb.alloc (Nat.le_of_lt hsz3) (oObj ⟨15, a, 0, 0⟩))
          have HN2 : Hid ((firstOs zs k ++ [(⟨15, a, 0, 0⟩ : O4)]).length = k + 1) := by unfold Hid; rw [List.length_append, firstOs_len]; rfl
          clear hrow3 hf1 hOk ha hrw hrow hown hb
          have hex : (q : Int) < (zs.length : Int) ∧ ¬ (q : Int) < 5 ∨ ¬ (q : Int) < (zs.length : Int) := by omega
          clear hqM hq hq2 HRW HF
          by_cases h32 : a = 32
          · subst h32
            by_cases hf0 : f < 0
            · have e := hf2 rfl hf0
              subst e
              clear hf2 hf3 hf4
              rcases hex with ⟨x1, x2⟩ | x1
              all_goals
                (
                go_wp2_with (at_builtin; refine wpList_append_ops rfl (.tmp 54) (.tmp 56) rfl (w1.heap.size + 1) v (firstOs zs k) [⟨15, 32, 0, 0⟩] rfl HX.out (wr.heap.size + 1) (some ⟨wr.heap.size, 0, none⟩) 1 rfl HQ.out HK.out HBs.out ?_; intro v2 w2 o2 g2 x2; obtain ⟨A2, c2, rfl⟩ := o2.form_n (k + 1) HN2.out; have hrw2 : w2.rowIs w1.heap.size 24 2 (pF firstT v) := World.rowIs.of_block HRw.out (g2.block _ (World.rowIs.lt HRw.out) (fun e => by have := (World.ownsRow.lt HX.out _ e.symm).1; omega)); have t1 := World.rowIs.cell hrw2 (show 1 < 2 by omega); have t2 := World.rowIs.frozen hrw2 1; have HRw2 := Lib.hid hrw2; clear hrw2; have HO2 := Lib.hid o2; clear o2; have hb3 := HBW.out.grown g2 (by simp; omega) (fun j hj => by have := (World.ownsRow.lt HX.out _ hj).1; omega); clear g2 x2)
                go_roundw
                case rel =>
                  refine ⟨k + 1, .slice A2 (k + 1) c2, _, by go_num, rfl, by omega, HF1, ?_, ?_, hb3.setCell (Nat.le_refl _) _⟩
                  · refine (World.rowIs.set HRw2.out 1 _).congr (fun i hi => ?_)
                    obtain rfl | rfl : i = 0 ∨ i = 1 := by omega
                    all_goals rfl
                  · have := HO2.out
                    unfold Hid
                    rw [firstOs_succ, HOK.out]
                    exact ownsRow_setCell_below this (by simp) _
                case measure => simp [intOf]; omega)
            · have e := hf3 rfl hf0
              subst e
              clear hf2 hf3 hf4
              rcases hex with ⟨x1, x2⟩ | x1
              all_goals
                (
                go_wp2_with (at_builtin; refine wpList_append_ops rfl (.tmp 54) (.tmp 56) rfl (w1.heap.size + 1) v (firstOs zs k) [⟨15, 32, 0, 0⟩] rfl HX.out (wr.heap.size + 1) (some ⟨wr.heap.size, 0, none⟩) 1 rfl HQ.out HK.out HBs.out ?_; intro v2 w2 o2 g2 x2; obtain ⟨A2, c2, rfl⟩ := o2.form_n (k + 1) HN2.out; have hrw2 : w2.rowIs w1.heap.size 24 2 (pF firstT v) := World.rowIs.of_block HRw.out (g2.block _ (World.rowIs.lt HRw.out) (fun e => by have := (World.ownsRow.lt HX.out _ e.symm).1; omega)); have t1 := World.rowIs.cell hrw2 (show 1 < 2 by omega); have t2 := World.rowIs.frozen hrw2 1; have HRw2 := Lib.hid hrw2; clear hrw2; have HO2 := Lib.hid o2; clear o2; have hb3 := HBW.out.grown g2 (by simp; omega) (fun j hj => by have := (World.ownsRow.lt HX.out _ hj).1; omega); clear g2 x2)
                go_roundw
                case rel =>
                  refine ⟨k + 1, .slice A2 (k + 1) c2, _, by go_num, rfl, by omega, HF1, ?_, ?_, hb3.setCell (Nat.le_refl _) _⟩
                  · refine (World.rowIs.set HRw2.out 1 _).congr (fun i hi => ?_)
                    obtain rfl | rfl : i = 0 ∨ i = 1 := by omega
                    all_goals rfl
                  · have := HO2.out
                    unfold Hid
                    rw [firstOs_succ, HOK.out]
                    exact ownsRow_setCell_below this (by simp) _
                case measure => simp [intOf]; omega)
          · have e := hf4 h32
            subst e
            have h32b : (a == 32) = false := by rw [beq_eq_false_iff_ne]; exact h32
            clear hf2 hf3 hf4
            rcases hex with ⟨x1, x2⟩ | x1
            all_goals
              (
                go_wp2_with (at_builtin; refine wpList_append_ops rfl (.tmp 54) (.tmp 56) rfl (w1.heap.size + 1) v (firstOs zs k) [⟨15, a, 0, 0⟩] rfl HX.out (wr.heap.size + 1) (some ⟨wr.heap.size, 0, none⟩) 1 rfl HQ.out HK.out HBs.out ?_; intro v2 w2 o2 g2 x2; obtain ⟨A2, c2, rfl⟩ := o2.form_n (k + 1) HN2.out; have hrw2 : w2.rowIs w1.heap.size 24 2 (pF firstT v) := World.rowIs.of_block HRw.out (g2.block _ (World.rowIs.lt HRw.out) (fun e => by have := (World.ownsRow.lt HX.out _ e.symm).1; omega)); have t1 := World.rowIs.cell hrw2 (show 1 < 2 by omega); have t2 := World.rowIs.frozen hrw2 1; have HRw2 := Lib.hid hrw2; clear hrw2; have HO2 := Lib.hid o2; clear o2; have hb3 := HBW.out.grown g2 (by simp; omega) (fun j hj => by have := (World.ownsRow.lt HX.out _ hj).1; omega); clear g2 x2)
                go_roundw
                case rel =>
                  refine ⟨k + 1, .slice A2 (k + 1) c2, _, by go_num, rfl, by omega, HF1, ?_, ?_, hb3.setCell (Nat.le_refl _) _⟩
                  · refine (World.rowIs.set HRw2.out 1 _).congr (fun i hi => ?_)
                    obtain rfl | rfl : i = 0 ∨ i = 1 := by omega
                    all_goals rfl
                  · have := HO2.out
                    unfold Hid
                    rw [firstOs_succ, HOK.out]
                    exact ownsRow_setCell_below this (by simp) _
                case measure => simp [intOf]; omega)
    · obtain rfl : k = N := by omega
      obtain ⟨A2, cap2, rfl, hlc, hcm, hRW⟩ := hown.out.form
      have hfin := first_fault zs k hN1 hN30
      rw [← HF.out] at hfin
      have p0 : wr.cell? ⟨w1.heap.size, 0, none⟩ = some (.string firstT) := World.rowIs.cell hrow.out (show 0 < 2 by omega)
      have p1 : wr.cell? ⟨w1.heap.size, 1, none⟩ = some (.slice A2 (firstOs zs k).length cap2) := World.rowIs.cell hrow.out (show 1 < 2 by omega)
      generalize firstOs zs k = os at *
      have hE : ∀ W', Below wr.heap.size wr W' → Calls Try.prog 11 #[progV firstT A2 os.length cap2] W' fun e w' => e = .returned (.int .i64 f) ∧ Below W'.heap.size W' w' := fun W' hW' => by
        have := fault_any firstT A2 os cap2 wr.heap.size W' (hRW.below hW') hW'.size (by omega) hcm (by decide)
        rw [hfin] at this
        exact this
      have hM : ∀ W', Below wr.heap.size wr W' → Calls Try.prog 12 #[progV firstT A2 os.length cap2] W' fun e w' => e = .returned (.bool (f == -1)) ∧ Below W'.heap.size W' w' := fun W' hW' => by
        have := may_any firstT A2 os cap2 wr.heap.size W' (hRW.below hW') hW'.size (by omega) hcm (by decide)
        rw [hfin] at this
        exact this
      unfold progV at hE hM
      have HE := Lib.hid hE; have HM := Lib.hid hM; have P0 := Lib.hid p0; have P1 := Lib.hid p1
      clear hE hM hfin hRW hrow hown HF HR1
      go_wp2_with fail
      (with_reducible refine (HE.out _ (Below.refl _ _)).mono ?_)
      rintro e w5 ⟨rfl, hb6⟩
      clear p0 p1
      have q0 := (hb6.cell (p := ⟨w1.heap.size, 0, none⟩) hgl).trans P0.out
      have q1 := (hb6.cell (p := ⟨w1.heap.size, 1, none⟩) hgl).trans P1.out
      have z1 : (f == f) = true := by simp
      go_wp2_with fail
      (with_reducible refine (HM.out w5 hb6).mono ?_)
      rintro e w6 ⟨rfl, hb7⟩
      have hfin : Below w.heap.size w w6 := hb1.trans ((hb.trans ((hb6.trans (hb7.mono hb6.size)).mono hb.size)).mono hb1.size)
      go_wp2
      go_ret
      exact ⟨by simp, hfin⟩
end Go.Proofs.Ytjdhgfcilmobdaa
