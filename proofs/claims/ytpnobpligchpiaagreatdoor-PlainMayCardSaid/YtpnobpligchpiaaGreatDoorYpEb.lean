/- texts of YpEb -/
import Derived.Deep.DrawnRows
import Derived.Deep.RegionHeld3
import Derived.Outline
import Derived.Test.YtpnobpligchpiaaGreatDoorYpEa
import Derived.Test.YtpnobpligchpiaaGreatDoorYpK
import Derived.Test.YtpnobpligchpiaaGreatDoorYpOa
namespace Go.Proofs.YtpnobpligchpiaaGreatDoor
set_option maxRecDepth 100000
open Go.RowKit
set_option linter.unusedVariables false
def takesL (k : Nat) : Nat := if k = 0 then 0 else if k = 9 ∨ k = 15 then 1 else if 3 ≤ k ∧ k ≤ 8 then 3 else 2
theorem takesRow (w : World) : (w.alloc (.cells #[.int .i64 0, .int .i64 2, .int .i64 2, .int .i64 3, .int .i64 3, .int .i64 3, .int .i64 3, .int .i64 3, .int .i64 3, .int .i64 1, .int .i64 2, .int .i64 2, .int .i64 2, .int .i64 2, .int .i64 2, .int .i64 1] 3)).rowIs w.heap.size 3 16 (fun i => .int .i64 (takesL i : Int)) :=
 World.rowIs_alloc w _ _ _ (fun i hi => by
  have hi : i < 16 := hi
  obtain rfl | rfl | rfl | rfl | rfl | rfl | rfl | rfl | rfl | rfl | rfl | rfl | rfl | rfl | rfl | rfl : i = 0 ∨ i = 1 ∨ i = 2 ∨ i = 3 ∨ i = 4 ∨ i = 5 ∨ i = 6 ∨ i = 7 ∨ i = 8 ∨ i = 9 ∨ i = 10 ∨ i = 11 ∨ i = 12 ∨ i = 13 ∨ i = 14 ∨ i = 15 := by omega
  all_goals rfl)
theorem rtakes_any (k : Nat) (hk : k < 16) (w : World) : Calls Tryz.prog 164 #[.int .i64 (k : Int)] w fun e w' => e = .returned (.int .i64 (takesL k : Int)) ∧ Below w.heap.size w w' := by
 have hc := (takesRow w).cell hk
 have hk2 : (k : Int) < 16 := by omega
 have b0 : Below w.heap.size w (w.alloc (.cells #[.int .i64 0, .int .i64 2, .int .i64 2, .int .i64 3, .int .i64 3, .int .i64 3, .int .i64 3, .int .i64 3, .int .i64 3, .int .i64 1, .int .i64 2, .int .i64 2, .int .i64 2, .int .i64 2, .int .i64 2, .int .i64 1] 3)) := (bR _ _).alloc (nl _) _
 go_enter Tryz.func164, Tryz.ntmps164
 go_wp2
 go_ret
 exact ⟨rfl, b0⟩
theorem has_none (k j : Nat) (hk : k < 16) (hj : j < 3) (h : takesL k ≤ j) (n m : Int) : hasB (kd k j) n m = (decide (0 ≤ n) && decide (n ≤ 0)) := by
 have e : kd k j = 0 := by
  have h2 : ∀ k : Fin 16, ∀ j : Fin 3, takesL k ≤ j → kd k j = 0 := by decide
  exact h2 ⟨k, hk⟩ ⟨j, hj⟩ h
 rw [e]
 unfold hasB
 rw [if_neg (by decide), if_neg (by decide), if_neg (by decide)]
 rw [Bool.eq_iff_iff]
 simp
 omega
theorem has_cell (k j : Nat) (hk : k < 16) (hj : j < 3) (h : j < takesL k) (h1 : ¬ (k = 1 ∧ j = 1)) (h2 : k ≠ 9) (h3 : ¬ (k = 10 ∧ j = 1)) (n m : Int) : hasB (kd k j) n m = (decide (0 ≤ n) && decide (n ≤ 31)) := by
 have e : kd k j = 2 := by
  have h4 : ∀ k : Fin 16, ∀ j : Fin 3, j < takesL k → ¬ (k = (1 : Nat) ∧ j = (1 : Nat)) → k ≠ (9 : Nat) → ¬ (k = (10 : Nat) ∧ j = (1 : Nat)) → kd k j = 2 := by decide
  exact h4 ⟨k, hk⟩ ⟨j, hj⟩ h h1 h2 h3
 rw [e]
 unfold hasB
 rw [if_neg (by decide), if_pos rfl]
 rw [Bool.eq_iff_iff]
 simp
 omega
theorem has_place (k j : Nat) (h : k = 9 ∧ j = 0 ∨ k = 10 ∧ j = 1) (n m : Int) : hasB (kd k j) n m = (decide (0 ≤ n) && decide (n ≤ m)) := by
 have e : kd k j = 3 := by rcases h with ⟨rfl, rfl⟩ | ⟨rfl, rfl⟩ <;> rfl
 rw [e]
 unfold hasB
 rw [if_neg (by decide), if_neg (by decide), if_pos rfl]
theorem has_low {f : Bool} {n q : Int} (h : f = (decide (0 ≤ n) && decide (n ≤ q))) (hn : n < 0) : f = false := by
 rw [h, show decide (0 ≤ n) = false by rw [decide_eq_false_iff_not]; omega]; rfl
theorem has_high {f : Bool} {n q : Int} (h : f = (decide (0 ≤ n) && decide (n ≤ q))) (hn : q < n) : f = false := by
 rw [h, show decide (n ≤ q) = false by rw [decide_eq_false_iff_not]; omega, Bool.and_false]
theorem has_in {f : Bool} {n q : Int} (h : f = (decide (0 ≤ n) && decide (n ≤ q))) (h1 : ¬ n < 0) (h2 : ¬ q < n) : f = true := by
 rw [h, show decide (0 ≤ n) = true by rw [decide_eq_true_iff]; omega, show decide (n ≤ q) = true by rw [decide_eq_true_iff]; omega]; rfl
theorem argsRow (w : World) (o : O4) : (w.alloc (.cells #[.int .i64 o.a, .int .i64 o.b, .int .i64 o.c] 3)).rowIs w.heap.size 3 3 (fun i => .int .i64 (argO o i)) :=
 World.rowIs_alloc w _ _ _ (fun i hi => by
  have hi : i < 3 := hi
  obtain rfl | rfl | rfl : i = 0 ∨ i = 1 ∨ i = 2 := by omega
  all_goals rfl)
set_option maxHeartbeats 8000000 in
theorem erefmay_any (o : O4) (m : Int) (w : World) :
 Calls Tryz.prog 131 #[opV o, .int .i64 m] w fun e w' => e = .returned (.bool (eMayB o m)) ∧ Below w.heap.size w w' := by
 unfold opV
 have b0 : Below w.heap.size w (w.alloc (.cells #[.int .i64 o.k, .int .i64 o.a, .int .i64 o.b, .int .i64 o.c] 151)) := (bR _ _).alloc (nl _) _
 by_cases hlo : o.k < 0
 · have HF := qh (mayB_code o m (by unfold codeB; rw [show decide (0 ≤ o.k) = false by rw [decide_eq_false_iff_not]; omega]; rfl))
   go_enter Tryz.func131, Tryz.ntmps131
   go_wp2
   go_ret
   exact ⟨by rw [HF.out]; rfl, b0⟩
 by_cases hhi : 15 < o.k
 · have HF := qh (mayB_code o m (by unfold codeB; rw [show decide (o.k ≤ 15) = false by rw [decide_eq_false_iff_not]; omega, Bool.and_false]))
   go_enter Tryz.func131, Tryz.ntmps131
   go_wp2
   go_ret
   exact ⟨by rw [HF.out]; rfl, b0⟩
 obtain ⟨k, hk, hk16⟩ : ∃ k : Nat, o.k = k ∧ k < 16 := ⟨o.k.toNat, by omega, by omega⟩
 have hcb : codeB o.k = true := by unfold codeB; rw [show decide (0 ≤ o.k) = true by rw [decide_eq_true_iff]; omega, show decide (o.k ≤ 15) = true by rw [decide_eq_true_iff]; omega]; rfl
 have hkn : o.k.toNat = k := by omega
 have HB : Hid (∀ j, j < 3 → hasB (kd k j) (argO o j) m = false → eMayB o m = false) := fun j hj h => mayB_bad o m j hj (by rw [hkn]; exact h)
 have HA : Hid ((∀ j, j < 3 → hasB (kd k j) (argO o j) m = true) → eMayB o m = true) := fun h => mayB_all o m hcb (by rw [hkn]; exact h)
 have HK := qh hk
 clear hcb hkn hk
 go_enter Tryz.func131, Tryz.ntmps131
 go_wp2_with fail
 have hw2 : Below (w.heap.size + 1) (w.alloc (.cells #[.int .i64 o.k, .int .i64 o.a, .int .i64 o.b, .int .i64 o.c] 151)) ((w.alloc (.cells #[.int .i64 o.k, .int .i64 o.a, .int .i64 o.b, .int .i64 o.c] 151)).alloc (.cells #[.int .i64 o.a, .int .i64 o.b, .int .i64 o.c] 3)) := (bR _ _).alloc (by simp) _
 have hC := (op_cells hw2 (by omega)).1
 have hR := argsRow (w.alloc (.cells #[.int .i64 o.k, .int .i64 o.a, .int .i64 o.b, .int .i64 o.c] 151)) o
 rw [World.size_alloc] at hR
 have hb2 := b0.trans (hw2.mono (by omega))
 have hs2 : w.heap.size + 2 ≤ ((w.alloc (.cells #[.int .i64 o.k, .int .i64 o.a, .int .i64 o.b, .int .i64 o.c] 151)).alloc (.cells #[.int .i64 o.a, .int .i64 o.b, .int .i64 o.c] 3)).heap.size := by simp
 have HC := qh (hC.trans (congrArg (fun z => some (Value.int .i64 z)) HK.out))
 have HR : Hid (∀ j, j < 3 → World.cell? ((w.alloc (.cells #[.int .i64 o.k, .int .i64 o.a, .int .i64 o.b, .int .i64 o.c] 151)).alloc (.cells #[.int .i64 o.a, .int .i64 o.b, .int .i64 o.c] 3)) ⟨w.heap.size + 1, j, none⟩ = some (.int .i64 (argO o j))) := fun j hj => hR.cell hj
 clear hw2 hC hR b0 hlo hhi
 go_loopw [6] (fun i wr => ∃ j : Nat, i = .int .i64 j ∧ j ≤ 3 ∧ Below w.heap.size w wr ∧ w.heap.size + 2 ≤ wr.heap.size ∧ Hid (wr.cell? ⟨w.heap.size, 0, none⟩ = some (.int .i64 (k : Int))) ∧ Hid (∀ j, j < 3 → wr.cell? ⟨w.heap.size + 1, j, none⟩ = some (.int .i64 (argO o j))) ∧ Hid (∀ q, q < j → hasB (kd k q) (argO o q) m = true)) (fun i _ => 3 - (intOf i).toNat)
 case atStart => exact ⟨0, rfl, by omega, hb2, hs2, HC, HR, fun q hq => by omega⟩
 case round =>
  obtain ⟨j, rfl, hj, hb, hs, hc0, hr, hall⟩ := hrel
  clear hb2 hs2 HC HR
  by_cases hlt : j < 3
  · have hjc : (j : Int) < 3 := by omega
    have HT := qh (rtakes_any k hk16 wr)
    have hmore : Hid (hasB (kd k j) (argO o j) m = true → ∀ q, q < j + 1 → hasB (kd k q) (argO o q) m = true) := fun hh q hq => by
     by_cases e : q < j
     · exact hall.out q e
     · obtain rfl : q = j := by omega
       exact hh
    have hbad : Hid (hasB (kd k j) (argO o j) m = false → eMayB o m = false) := HB.out j hlt
    have hcode := hc0.out
    clear HB HA hall
    by_cases ht : takesL k ≤ j
    · have hq := has_none k j hk16 hlt ht (argO o j) m
      have ht2 : ((takesL k : Nat) : Int) ≤ (j : Int) := by omega
      have HQ := qh hq; clear hq ht
      obtain ⟨n, hn⟩ : ∃ n, n = argO o j := ⟨_, rfl⟩
      have HNV : Hid (some (Value.int .i64 (argO o j)) = some (Value.int .i64 n)) := by rw [hn]; rfl
      rw [← hn] at HQ hmore hbad
      clear hn
      by_cases n1 : n < 0
      · have HF := qh (hbad.out (has_low HQ.out n1))
        go_wp2_with (go_at_call 164; refine HT.out.mono ?_; rintro e w4 ⟨rfl, hbt⟩; have hc4 := (hbt.cell (p := ⟨w.heap.size, 0, none⟩) (show w.heap.size < _ by omega)).trans hcode; have hl4 := (hbt.cell (p := ⟨w.heap.size + 1, j, none⟩) (show w.heap.size + 1 < _ by omega)).trans ((hr.out j hlt).trans HNV.out); have hb4 := hb.trans (hbt.mono hb.size); have hs4 := Nat.le_trans hs hbt.size; have C4 := qh hc4; have R4 : Hid (∀ j, j < 3 → w4.cell? ⟨w.heap.size + 1, j, none⟩ = some (.int .i64 (argO o j))) := fun j hj => (hbt.cell (p := ⟨w.heap.size + 1, j, none⟩) (show w.heap.size + 1 < _ by omega)).trans (hr.out j hj))
        go_ret
        exact ⟨by rw [HF.out]; rfl, hb4⟩
      by_cases n2 : 0 < n
      · have HF := qh (hbad.out (has_high HQ.out n2))
        go_wp2_with (go_at_call 164; refine HT.out.mono ?_; rintro e w4 ⟨rfl, hbt⟩; have hc4 := (hbt.cell (p := ⟨w.heap.size, 0, none⟩) (show w.heap.size < _ by omega)).trans hcode; have hl4 := (hbt.cell (p := ⟨w.heap.size + 1, j, none⟩) (show w.heap.size + 1 < _ by omega)).trans ((hr.out j hlt).trans HNV.out); have hb4 := hb.trans (hbt.mono hb.size); have hs4 := Nat.le_trans hs hbt.size; have C4 := qh hc4; have R4 : Hid (∀ j, j < 3 → w4.cell? ⟨w.heap.size + 1, j, none⟩ = some (.int .i64 (argO o j))) := fun j hj => (hbt.cell (p := ⟨w.heap.size + 1, j, none⟩) (show w.heap.size + 1 < _ by omega)).trans (hr.out j hj))
        go_ret
        exact ⟨by rw [HF.out]; rfl, hb4⟩
      · have HA2 := qh (hmore.out (has_in HQ.out n1 n2))
        go_wp2_with (go_at_call 164; refine HT.out.mono ?_; rintro e w4 ⟨rfl, hbt⟩; have hc4 := (hbt.cell (p := ⟨w.heap.size, 0, none⟩) (show w.heap.size < _ by omega)).trans hcode; have hl4 := (hbt.cell (p := ⟨w.heap.size + 1, j, none⟩) (show w.heap.size + 1 < _ by omega)).trans ((hr.out j hlt).trans HNV.out); have hb4 := hb.trans (hbt.mono hb.size); have hs4 := Nat.le_trans hs hbt.size; have C4 := qh hc4; have R4 : Hid (∀ j, j < 3 → w4.cell? ⟨w.heap.size + 1, j, none⟩ = some (.int .i64 (argO o j))) := fun j hj => (hbt.cell (p := ⟨w.heap.size + 1, j, none⟩) (show w.heap.size + 1 < _ by omega)).trans (hr.out j hj))
        go_roundw
        case rel => exact ⟨j + 1, by go_num, by omega, hb4, hs4, C4, R4, HA2⟩
        case measure => simp [intOf]; omega
    · have ht2 : ¬ ((takesL k : Nat) : Int) ≤ (j : Int) := by omega
      by_cases c1 : k = 1 ∧ j = 1
      · obtain ⟨rfl, rfl⟩ := c1
        have HA2 := qh (hmore.out rfl)
        have HNV : Hid (some (Value.int .i64 (argO o 1)) = some (Value.int .i64 (argO o 1))) := rfl
        clear ht hmore hbad
        go_wp2_with (go_at_call 164; refine HT.out.mono ?_; rintro e w4 ⟨rfl, hbt⟩; have hc4 := (hbt.cell (p := ⟨w.heap.size, 0, none⟩) (show w.heap.size < _ by omega)).trans hcode; have hl4 := (hbt.cell (p := ⟨w.heap.size + 1, 1, none⟩) (show w.heap.size + 1 < _ by omega)).trans ((hr.out 1 hlt).trans HNV.out); have hb4 := hb.trans (hbt.mono hb.size); have hs4 := Nat.le_trans hs hbt.size; have C4 := qh hc4; have R4 : Hid (∀ j, j < 3 → w4.cell? ⟨w.heap.size + 1, j, none⟩ = some (.int .i64 (argO o j))) := fun j hj => (hbt.cell (p := ⟨w.heap.size + 1, j, none⟩) (show w.heap.size + 1 < _ by omega)).trans (hr.out j hj))
        go_roundw
        case rel => exact ⟨1 + 1, by go_num, by omega, hb4, hs4, C4, R4, HA2⟩
        case measure => simp [intOf]
      by_cases c9 : k = 9
      · subst c9
        obtain rfl : j = 0 := by have : takesL 9 = 1 := rfl; omega
        have hq := has_place 9 0 (.inl ⟨rfl, rfl⟩) (argO o 0) m
        have HQ := qh hq; clear hq ht c1
        obtain ⟨n, hn⟩ : ∃ n, n = argO o 0 := ⟨_, rfl⟩
        have HNV : Hid (some (Value.int .i64 (argO o 0)) = some (Value.int .i64 n)) := by rw [hn]; rfl
        rw [← hn] at HQ hmore hbad
        clear hn
        by_cases n1 : n < 0
        · have HF := qh (hbad.out (has_low HQ.out n1))
          go_wp2_with (go_at_call 164; refine HT.out.mono ?_; rintro e w4 ⟨rfl, hbt⟩; have hc4 := (hbt.cell (p := ⟨w.heap.size, 0, none⟩) (show w.heap.size < _ by omega)).trans hcode; have hl4 := (hbt.cell (p := ⟨w.heap.size + 1, 0, none⟩) (show w.heap.size + 1 < _ by omega)).trans ((hr.out 0 hlt).trans HNV.out); have hb4 := hb.trans (hbt.mono hb.size); have hs4 := Nat.le_trans hs hbt.size; have C4 := qh hc4; have R4 : Hid (∀ j, j < 3 → w4.cell? ⟨w.heap.size + 1, j, none⟩ = some (.int .i64 (argO o j))) := fun j hj => (hbt.cell (p := ⟨w.heap.size + 1, j, none⟩) (show w.heap.size + 1 < _ by omega)).trans (hr.out j hj))
          go_ret
          exact ⟨by rw [HF.out]; rfl, hb4⟩
        by_cases n2 : m < n
        · have HF := qh (hbad.out (has_high HQ.out n2))
          go_wp2_with (go_at_call 164; refine HT.out.mono ?_; rintro e w4 ⟨rfl, hbt⟩; have hc4 := (hbt.cell (p := ⟨w.heap.size, 0, none⟩) (show w.heap.size < _ by omega)).trans hcode; have hl4 := (hbt.cell (p := ⟨w.heap.size + 1, 0, none⟩) (show w.heap.size + 1 < _ by omega)).trans ((hr.out 0 hlt).trans HNV.out); have hb4 := hb.trans (hbt.mono hb.size); have hs4 := Nat.le_trans hs hbt.size; have C4 := qh hc4; have R4 : Hid (∀ j, j < 3 → w4.cell? ⟨w.heap.size + 1, j, none⟩ = some (.int .i64 (argO o j))) := fun j hj => (hbt.cell (p := ⟨w.heap.size + 1, j, none⟩) (show w.heap.size + 1 < _ by omega)).trans (hr.out j hj))
          go_ret
          exact ⟨by rw [HF.out]; rfl, hb4⟩
        · have HA2 := qh (hmore.out (has_in HQ.out n1 n2))
          go_wp2_with (go_at_call 164; refine HT.out.mono ?_; rintro e w4 ⟨rfl, hbt⟩; have hc4 := (hbt.cell (p := ⟨w.heap.size, 0, none⟩) (show w.heap.size < _ by omega)).trans hcode; have hl4 := (hbt.cell (p := ⟨w.heap.size + 1, 0, none⟩) (show w.heap.size + 1 < _ by omega)).trans ((hr.out 0 hlt).trans HNV.out); have hb4 := hb.trans (hbt.mono hb.size); have hs4 := Nat.le_trans hs hbt.size; have C4 := qh hc4; have R4 : Hid (∀ j, j < 3 → w4.cell? ⟨w.heap.size + 1, j, none⟩ = some (.int .i64 (argO o j))) := fun j hj => (hbt.cell (p := ⟨w.heap.size + 1, j, none⟩) (show w.heap.size + 1 < _ by omega)).trans (hr.out j hj))
          go_roundw
          case rel => exact ⟨0 + 1, by go_num, by omega, hb4, hs4, C4, R4, HA2⟩
          case measure => simp [intOf]
      by_cases c10 : k = 10 ∧ j = 1
      · obtain ⟨rfl, rfl⟩ := c10
        have hq := has_place 10 1 (.inr ⟨rfl, rfl⟩) (argO o 1) m
        have HQ := qh hq; clear hq ht c1 c9
        obtain ⟨n, hn⟩ : ∃ n, n = argO o 1 := ⟨_, rfl⟩
        have HNV : Hid (some (Value.int .i64 (argO o 1)) = some (Value.int .i64 n)) := by rw [hn]; rfl
        rw [← hn] at HQ hmore hbad
        clear hn
        by_cases n1 : n < 0
        · have HF := qh (hbad.out (has_low HQ.out n1))
          go_wp2_with (go_at_call 164; refine HT.out.mono ?_; rintro e w4 ⟨rfl, hbt⟩; have hc4 := (hbt.cell (p := ⟨w.heap.size, 0, none⟩) (show w.heap.size < _ by omega)).trans hcode; have hl4 := (hbt.cell (p := ⟨w.heap.size + 1, 1, none⟩) (show w.heap.size + 1 < _ by omega)).trans ((hr.out 1 hlt).trans HNV.out); have hb4 := hb.trans (hbt.mono hb.size); have hs4 := Nat.le_trans hs hbt.size; have C4 := qh hc4; have R4 : Hid (∀ j, j < 3 → w4.cell? ⟨w.heap.size + 1, j, none⟩ = some (.int .i64 (argO o j))) := fun j hj => (hbt.cell (p := ⟨w.heap.size + 1, j, none⟩) (show w.heap.size + 1 < _ by omega)).trans (hr.out j hj))
          go_ret
          exact ⟨by rw [HF.out]; rfl, hb4⟩
        by_cases n2 : m < n
        · have HF := qh (hbad.out (has_high HQ.out n2))
          go_wp2_with (go_at_call 164; refine HT.out.mono ?_; rintro e w4 ⟨rfl, hbt⟩; have hc4 := (hbt.cell (p := ⟨w.heap.size, 0, none⟩) (show w.heap.size < _ by omega)).trans hcode; have hl4 := (hbt.cell (p := ⟨w.heap.size + 1, 1, none⟩) (show w.heap.size + 1 < _ by omega)).trans ((hr.out 1 hlt).trans HNV.out); have hb4 := hb.trans (hbt.mono hb.size); have hs4 := Nat.le_trans hs hbt.size; have C4 := qh hc4; have R4 : Hid (∀ j, j < 3 → w4.cell? ⟨w.heap.size + 1, j, none⟩ = some (.int .i64 (argO o j))) := fun j hj => (hbt.cell (p := ⟨w.heap.size + 1, j, none⟩) (show w.heap.size + 1 < _ by omega)).trans (hr.out j hj))
          go_ret
          exact ⟨by rw [HF.out]; rfl, hb4⟩
        · have HA2 := qh (hmore.out (has_in HQ.out n1 n2))
          go_wp2_with (go_at_call 164; refine HT.out.mono ?_; rintro e w4 ⟨rfl, hbt⟩; have hc4 := (hbt.cell (p := ⟨w.heap.size, 0, none⟩) (show w.heap.size < _ by omega)).trans hcode; have hl4 := (hbt.cell (p := ⟨w.heap.size + 1, 1, none⟩) (show w.heap.size + 1 < _ by omega)).trans ((hr.out 1 hlt).trans HNV.out); have hb4 := hb.trans (hbt.mono hb.size); have hs4 := Nat.le_trans hs hbt.size; have C4 := qh hc4; have R4 : Hid (∀ j, j < 3 → w4.cell? ⟨w.heap.size + 1, j, none⟩ = some (.int .i64 (argO o j))) := fun j hj => (hbt.cell (p := ⟨w.heap.size + 1, j, none⟩) (show w.heap.size + 1 < _ by omega)).trans (hr.out j hj))
          go_roundw
          case rel => exact ⟨1 + 1, by go_num, by omega, hb4, hs4, C4, R4, HA2⟩
          case measure => simp [intOf]
      have hq := has_cell k j hk16 hlt (by omega) c1 c9 c10 (argO o j) m
      have HQ := qh hq; clear hq
      have k9 : ((k : Int) == 9) = false := by rw [beq_eq_false_iff_ne]; omega
      by_cases d1 : k = 1
      · subst d1
        obtain rfl : j = 0 := by have : takesL 1 = 2 := rfl; omega
        clear ht c1 c9 c10 k9
        obtain ⟨n, hn⟩ : ∃ n, n = argO o 0 := ⟨_, rfl⟩
        have HNV : Hid (some (Value.int .i64 (argO o 0)) = some (Value.int .i64 n)) := by rw [hn]; rfl
        rw [← hn] at HQ hmore hbad
        clear hn
        by_cases n1 : n < 0
        · have HF := qh (hbad.out (has_low HQ.out n1))
          go_wp2_with (go_at_call 164; refine HT.out.mono ?_; rintro e w4 ⟨rfl, hbt⟩; have hc4 := (hbt.cell (p := ⟨w.heap.size, 0, none⟩) (show w.heap.size < _ by omega)).trans hcode; have hl4 := (hbt.cell (p := ⟨w.heap.size + 1, 0, none⟩) (show w.heap.size + 1 < _ by omega)).trans ((hr.out 0 hlt).trans HNV.out); have hb4 := hb.trans (hbt.mono hb.size); have hs4 := Nat.le_trans hs hbt.size; have C4 := qh hc4; have R4 : Hid (∀ j, j < 3 → w4.cell? ⟨w.heap.size + 1, j, none⟩ = some (.int .i64 (argO o j))) := fun j hj => (hbt.cell (p := ⟨w.heap.size + 1, j, none⟩) (show w.heap.size + 1 < _ by omega)).trans (hr.out j hj))
          go_ret
          exact ⟨by rw [HF.out]; rfl, hb4⟩
        by_cases n2 : 31 < n
        · have HF := qh (hbad.out (has_high HQ.out n2))
          go_wp2_with (go_at_call 164; refine HT.out.mono ?_; rintro e w4 ⟨rfl, hbt⟩; have hc4 := (hbt.cell (p := ⟨w.heap.size, 0, none⟩) (show w.heap.size < _ by omega)).trans hcode; have hl4 := (hbt.cell (p := ⟨w.heap.size + 1, 0, none⟩) (show w.heap.size + 1 < _ by omega)).trans ((hr.out 0 hlt).trans HNV.out); have hb4 := hb.trans (hbt.mono hb.size); have hs4 := Nat.le_trans hs hbt.size; have C4 := qh hc4; have R4 : Hid (∀ j, j < 3 → w4.cell? ⟨w.heap.size + 1, j, none⟩ = some (.int .i64 (argO o j))) := fun j hj => (hbt.cell (p := ⟨w.heap.size + 1, j, none⟩) (show w.heap.size + 1 < _ by omega)).trans (hr.out j hj))
          go_ret
          exact ⟨by rw [HF.out]; rfl, hb4⟩
        · have HA2 := qh (hmore.out (has_in HQ.out n1 n2))
          go_wp2_with (go_at_call 164; refine HT.out.mono ?_; rintro e w4 ⟨rfl, hbt⟩; have hc4 := (hbt.cell (p := ⟨w.heap.size, 0, none⟩) (show w.heap.size < _ by omega)).trans hcode; have hl4 := (hbt.cell (p := ⟨w.heap.size + 1, 0, none⟩) (show w.heap.size + 1 < _ by omega)).trans ((hr.out 0 hlt).trans HNV.out); have hb4 := hb.trans (hbt.mono hb.size); have hs4 := Nat.le_trans hs hbt.size; have C4 := qh hc4; have R4 : Hid (∀ j, j < 3 → w4.cell? ⟨w.heap.size + 1, j, none⟩ = some (.int .i64 (argO o j))) := fun j hj => (hbt.cell (p := ⟨w.heap.size + 1, j, none⟩) (show w.heap.size + 1 < _ by omega)).trans (hr.out j hj))
          go_roundw
          case rel => exact ⟨0 + 1, by go_num, by omega, hb4, hs4, C4, R4, HA2⟩
          case measure => simp [intOf]
      have k1 : ((k : Int) == 1) = false := by rw [beq_eq_false_iff_ne]; omega
      by_cases d10 : k = 10
      · subst d10
        obtain rfl : j = 0 := by have : takesL 10 = 2 := rfl; omega
        clear ht c1 c9 c10 d1 k9 k1
        obtain ⟨n, hn⟩ : ∃ n, n = argO o 0 := ⟨_, rfl⟩
        have HNV : Hid (some (Value.int .i64 (argO o 0)) = some (Value.int .i64 n)) := by rw [hn]; rfl
        rw [← hn] at HQ hmore hbad
        clear hn
        by_cases n1 : n < 0
        · have HF := qh (hbad.out (has_low HQ.out n1))
          go_wp2_with (go_at_call 164; refine HT.out.mono ?_; rintro e w4 ⟨rfl, hbt⟩; have hc4 := (hbt.cell (p := ⟨w.heap.size, 0, none⟩) (show w.heap.size < _ by omega)).trans hcode; have hl4 := (hbt.cell (p := ⟨w.heap.size + 1, 0, none⟩) (show w.heap.size + 1 < _ by omega)).trans ((hr.out 0 hlt).trans HNV.out); have hb4 := hb.trans (hbt.mono hb.size); have hs4 := Nat.le_trans hs hbt.size; have C4 := qh hc4; have R4 : Hid (∀ j, j < 3 → w4.cell? ⟨w.heap.size + 1, j, none⟩ = some (.int .i64 (argO o j))) := fun j hj => (hbt.cell (p := ⟨w.heap.size + 1, j, none⟩) (show w.heap.size + 1 < _ by omega)).trans (hr.out j hj))
          go_ret
          exact ⟨by rw [HF.out]; rfl, hb4⟩
        by_cases n2 : 31 < n
        · have HF := qh (hbad.out (has_high HQ.out n2))
          go_wp2_with (go_at_call 164; refine HT.out.mono ?_; rintro e w4 ⟨rfl, hbt⟩; have hc4 := (hbt.cell (p := ⟨w.heap.size, 0, none⟩) (show w.heap.size < _ by omega)).trans hcode; have hl4 := (hbt.cell (p := ⟨w.heap.size + 1, 0, none⟩) (show w.heap.size + 1 < _ by omega)).trans ((hr.out 0 hlt).trans HNV.out); have hb4 := hb.trans (hbt.mono hb.size); have hs4 := Nat.le_trans hs hbt.size; have C4 := qh hc4; have R4 : Hid (∀ j, j < 3 → w4.cell? ⟨w.heap.size + 1, j, none⟩ = some (.int .i64 (argO o j))) := fun j hj => (hbt.cell (p := ⟨w.heap.size + 1, j, none⟩) (show w.heap.size + 1 < _ by omega)).trans (hr.out j hj))
          go_ret
          exact ⟨by rw [HF.out]; rfl, hb4⟩
        · have HA2 := qh (hmore.out (has_in HQ.out n1 n2))
          go_wp2_with (go_at_call 164; refine HT.out.mono ?_; rintro e w4 ⟨rfl, hbt⟩; have hc4 := (hbt.cell (p := ⟨w.heap.size, 0, none⟩) (show w.heap.size < _ by omega)).trans hcode; have hl4 := (hbt.cell (p := ⟨w.heap.size + 1, 0, none⟩) (show w.heap.size + 1 < _ by omega)).trans ((hr.out 0 hlt).trans HNV.out); have hb4 := hb.trans (hbt.mono hb.size); have hs4 := Nat.le_trans hs hbt.size; have C4 := qh hc4; have R4 : Hid (∀ j, j < 3 → w4.cell? ⟨w.heap.size + 1, j, none⟩ = some (.int .i64 (argO o j))) := fun j hj => (hbt.cell (p := ⟨w.heap.size + 1, j, none⟩) (show w.heap.size + 1 < _ by omega)).trans (hr.out j hj))
          go_roundw
          case rel => exact ⟨0 + 1, by go_num, by omega, hb4, hs4, C4, R4, HA2⟩
          case measure => simp [intOf]
      have k10 : ((k : Int) == 10) = false := by rw [beq_eq_false_iff_ne]; omega
      clear ht c1 c9 c10 d1 d10
      obtain ⟨n, hn⟩ : ∃ n, n = argO o j := ⟨_, rfl⟩
      have HNV : Hid (some (Value.int .i64 (argO o j)) = some (Value.int .i64 n)) := by rw [hn]; rfl
      rw [← hn] at HQ hmore hbad
      clear hn
      by_cases n1 : n < 0
      · have HF := qh (hbad.out (has_low HQ.out n1))
        go_wp2_with (go_at_call 164; refine HT.out.mono ?_; rintro e w4 ⟨rfl, hbt⟩; have hc4 := (hbt.cell (p := ⟨w.heap.size, 0, none⟩) (show w.heap.size < _ by omega)).trans hcode; have hl4 := (hbt.cell (p := ⟨w.heap.size + 1, j, none⟩) (show w.heap.size + 1 < _ by omega)).trans ((hr.out j hlt).trans HNV.out); have hb4 := hb.trans (hbt.mono hb.size); have hs4 := Nat.le_trans hs hbt.size; have C4 := qh hc4; have R4 : Hid (∀ j, j < 3 → w4.cell? ⟨w.heap.size + 1, j, none⟩ = some (.int .i64 (argO o j))) := fun j hj => (hbt.cell (p := ⟨w.heap.size + 1, j, none⟩) (show w.heap.size + 1 < _ by omega)).trans (hr.out j hj))
        go_ret
        exact ⟨by rw [HF.out]; rfl, hb4⟩
      by_cases n2 : 31 < n
      · have HF := qh (hbad.out (has_high HQ.out n2))
        go_wp2_with (go_at_call 164; refine HT.out.mono ?_; rintro e w4 ⟨rfl, hbt⟩; have hc4 := (hbt.cell (p := ⟨w.heap.size, 0, none⟩) (show w.heap.size < _ by omega)).trans hcode; have hl4 := (hbt.cell (p := ⟨w.heap.size + 1, j, none⟩) (show w.heap.size + 1 < _ by omega)).trans ((hr.out j hlt).trans HNV.out); have hb4 := hb.trans (hbt.mono hb.size); have hs4 := Nat.le_trans hs hbt.size; have C4 := qh hc4; have R4 : Hid (∀ j, j < 3 → w4.cell? ⟨w.heap.size + 1, j, none⟩ = some (.int .i64 (argO o j))) := fun j hj => (hbt.cell (p := ⟨w.heap.size + 1, j, none⟩) (show w.heap.size + 1 < _ by omega)).trans (hr.out j hj))
        go_ret
        exact ⟨by rw [HF.out]; rfl, hb4⟩
      · have HA2 := qh (hmore.out (has_in HQ.out n1 n2))
        go_wp2_with (go_at_call 164; refine HT.out.mono ?_; rintro e w4 ⟨rfl, hbt⟩; have hc4 := (hbt.cell (p := ⟨w.heap.size, 0, none⟩) (show w.heap.size < _ by omega)).trans hcode; have hl4 := (hbt.cell (p := ⟨w.heap.size + 1, j, none⟩) (show w.heap.size + 1 < _ by omega)).trans ((hr.out j hlt).trans HNV.out); have hb4 := hb.trans (hbt.mono hb.size); have hs4 := Nat.le_trans hs hbt.size; have C4 := qh hc4; have R4 : Hid (∀ j, j < 3 → w4.cell? ⟨w.heap.size + 1, j, none⟩ = some (.int .i64 (argO o j))) := fun j hj => (hbt.cell (p := ⟨w.heap.size + 1, j, none⟩) (show w.heap.size + 1 < _ by omega)).trans (hr.out j hj))
        go_roundw
        case rel => exact ⟨j + 1, by go_num, by omega, hb4, hs4, C4, R4, HA2⟩
        case measure => simp [intOf]; omega
  · obtain rfl : j = 3 := by omega
    have HF := qh (HA.out hall.out)
    go_wp2
    go_ret
    exact ⟨by rw [HF.out]; rfl, hb⟩
set_option maxHeartbeats 2000000 in
theorem reffault_any (t : ByteArray) (A : Option Addr) (os : List O4) (cap B : Nat) (w : World) (hr : RO w B A os) (hB : B ≤ w.heap.size) (hc : os.length ≤ cap) (hm : cap ≤ maxLen) (ht : t.size ≤ 549755813888) :
 Calls Tryz.prog 99 #[progV t A os.length cap] w fun e w' => e = .returned (.int .i64 (faultN (titB t) os)) ∧ Below w.heap.size w w' := by
 have b0 : Below w.heap.size w (w.alloc (.cells #[.string t, .slice A os.length cap] 61)) := (bR _ _).alloc (nl _) _
 have hr1 : RO (w.alloc (.cells #[.string t, .slice A os.length cap] 61)) B A os := hr.below (b0.mono hB)
 have HR := qh hr1
 have HM := qh (form_any t A os cap B (w.alloc (.cells #[.string t, .slice A os.length cap] 61)) hr1 (by simp; omega) hc hm (by omega))
 unfold progV at HM ⊢
 cases hf : fitsB (titB t) os with
 | false =>
   have HQ := qh (show faultN (titB t) os = -2 by unfold faultN; rw [hf]; rfl)
   rw [hf] at HM
   clear hr hr1 hf
   go_enter Tryz.func99, Tryz.ntmps99
   go_wp2_with (go_at_call 130; refine HM.out.mono ?_; rintro e w1 ⟨rfl, hb1⟩)
   go_ret
   exact ⟨by rw [HQ.out]; rfl, b0.trans (hb1.mono (by simp))⟩
 | true =>
   have hos := ((fitsB_iff _ _).1 hf).2.2.1
   have HQ := qh (show faultN (titB t) os = firstN (fun o => eMayB o os.length) os by unfold faultN; rw [hf]; rfl)
   rw [hf] at HM
   clear hr hr1 hf
   go_enter Tryz.func99, Tryz.ntmps99
   go_wp2_with (go_at_call 130; refine HM.out.mono ?_; rintro e w1 ⟨rfl, hb1⟩; obtain ⟨hc0, hc1, _, _⟩ := two_cells hb1 (by simp))
   have H1 := qh (HR.out.below (hb1.mono (by simp; omega)))
   have hb2 := b0.trans (hb1.mono (by simp))
   have hsz := hb1.size
   rw [World.size_alloc] at hsz
   have C1 := qh hc1
   clear hb1 b0 HR HM hc0 hc1
   go_loopw [3] (fun i wr => ∃ k : Nat, i = .int .i64 k ∧ k ≤ os.length ∧ Hid (RO wr B A os) ∧ Below w.heap.size w wr ∧ w.heap.size < wr.heap.size ∧ Hid (wr.cell? ⟨w.heap.size, 1, none⟩ = some (.slice A os.length cap)) ∧ Hid (∀ j (h : j < os.length), j < k → eMayB os[j] os.length = true)) (fun i _ => os.length - (intOf i).toNat)
   case atStart => exact ⟨0, rfl, by omega, H1, hb2, by omega, C1, fun j h hj => by omega⟩
   case round =>
    obtain ⟨k, rfl, hk, hr, hb, hsz2, hcl, hall⟩ := hrel
    clear H1 hb2 C1 hsz
    have hcl2 := hcl.out
    by_cases hlt : k < os.length
    · obtain ⟨b, off, rfl, hbB, hcell⟩ := hr.out (by omega)
      obtain ⟨q1, q2, q3, q4⟩ := hcell k hlt
      clear hcell
      have hkc : (k : Int) < (os.length : Int) := by omega
      obtain ⟨o, ho⟩ : ∃ o, os[k] = o := ⟨_, rfl⟩
      rw [ho] at q1 q2 q3 q4
      have HF := qh (fun W => erefmay_any o os.length W)
      unfold opV at HF
      have P0 := qh hcl2
      have bd : Below w.heap.size w wr.drew := hb.drew
      have HB := qh hb
      have hds : wr.drew.heap.size = wr.heap.size := rfl
      cases hm : eMayB o os.length with
      | false =>
        have HQ2 := qh (firstN_hit (fun o => eMayB o os.length) os k hlt (by rw [ho]; exact hm) hall.out)
        rw [hm] at HF
        clear hm ho
        go_wp2
        go_region_held3 (fun w' => w'.cell? ⟨w.heap.size, 1, none⟩ = some (.slice (some ⟨b, off, none⟩) os.length cap) ∧ w'.cell? ⟨b, off + k * 4, none⟩ = some (.int .i64 o.k) ∧ w'.cell? ⟨b, off + k * 4 + 1, none⟩ = some (.int .i64 o.a) ∧ w'.cell? ⟨b, off + k * 4 + 2, none⟩ = some (.int .i64 o.b) ∧ w'.cell? ⟨b, off + k * 4 + 3, none⟩ = some (.int .i64 o.c)) (first | exact ⟨by assumption, by assumption, by assumption, by assumption, by assumption⟩ | go_keep)
         (first | (go_at_call 131; refine (HF.out _).mono ?_; rintro e w4 ⟨rfl, hbc⟩; have p0 := (hbc.cell (p := ⟨w.heap.size, 1, none⟩) (show w.heap.size < _ from hsz2)).trans P0.out; have p1 := (hbc.cell (p := ⟨b, off + k * 4, none⟩) (show b < _ from Nat.lt_of_lt_of_le hbB (Nat.le_trans hB HB.out.size))).trans q1; have p2 := (hbc.cell (p := ⟨b, off + k * 4 + 1, none⟩) (show b < _ from Nat.lt_of_lt_of_le hbB (Nat.le_trans hB HB.out.size))).trans q2; have p3 := (hbc.cell (p := ⟨b, off + k * 4 + 2, none⟩) (show b < _ from Nat.lt_of_lt_of_le hbB (Nat.le_trans hB HB.out.size))).trans q3; have p4 := (hbc.cell (p := ⟨b, off + k * 4 + 3, none⟩) (show b < _ from Nat.lt_of_lt_of_le hbB (Nat.le_trans hB HB.out.size))).trans q4))
        go_wp2
        go_ret
        exact ⟨by rw [HQ.out, HQ2.out]; rfl, bd.trans (hbc.mono HB.out.size)⟩
      | true =>
        have HA2 : Hid (∀ j (h : j < os.length), j < k + 1 → eMayB os[j] os.length = true) := fun j h hj => by
         by_cases e : j < k
         · exact hall.out j h e
         · obtain rfl : j = k := by omega
           rw [ho]; exact hm
        rw [hm] at HF
        clear hm ho
        go_wp2
        go_region_held3 (fun w' => w'.cell? ⟨w.heap.size, 1, none⟩ = some (.slice (some ⟨b, off, none⟩) os.length cap) ∧ w'.cell? ⟨b, off + k * 4, none⟩ = some (.int .i64 o.k) ∧ w'.cell? ⟨b, off + k * 4 + 1, none⟩ = some (.int .i64 o.a) ∧ w'.cell? ⟨b, off + k * 4 + 2, none⟩ = some (.int .i64 o.b) ∧ w'.cell? ⟨b, off + k * 4 + 3, none⟩ = some (.int .i64 o.c)) (first | exact ⟨by assumption, by assumption, by assumption, by assumption, by assumption⟩ | go_keep)
         (first | (go_at_call 131; refine (HF.out _).mono ?_; rintro e w4 ⟨rfl, hbc⟩; have p0 := (hbc.cell (p := ⟨w.heap.size, 1, none⟩) (show w.heap.size < _ from hsz2)).trans P0.out; have p1 := (hbc.cell (p := ⟨b, off + k * 4, none⟩) (show b < _ from Nat.lt_of_lt_of_le hbB (Nat.le_trans hB HB.out.size))).trans q1; have p2 := (hbc.cell (p := ⟨b, off + k * 4 + 1, none⟩) (show b < _ from Nat.lt_of_lt_of_le hbB (Nat.le_trans hB HB.out.size))).trans q2; have p3 := (hbc.cell (p := ⟨b, off + k * 4 + 2, none⟩) (show b < _ from Nat.lt_of_lt_of_le hbB (Nat.le_trans hB HB.out.size))).trans q3; have p4 := (hbc.cell (p := ⟨b, off + k * 4 + 3, none⟩) (show b < _ from Nat.lt_of_lt_of_le hbB (Nat.le_trans hB HB.out.size))).trans q4))
        have hb5 := bd.trans (hbc.mono HB.out.size)
        have hs5 := Nat.lt_of_lt_of_le hsz2 hbc.size
        have C5 := qh p0
        have H5 := qh (hr.out.below ((((bR _ wr).drew).trans hbc).mono (Nat.le_trans hB HB.out.size)))
        go_wp2
        go_roundw
        case rel => exact ⟨k + 1, by go_num, by omega, H5, hb5, hs5, C5, HA2⟩
        case measure => simp [intOf]; omega
    · obtain rfl : k = os.length := by omega
      have HQ2 := qh (firstN_miss (fun o => eMayB o os.length) os (fun j h => hall.out j h h))
      go_wp2
      go_ret
      exact ⟨by rw [HQ.out, HQ2.out]; rfl, hb⟩
end Go.Proofs.YtpnobpligchpiaaGreatDoor
