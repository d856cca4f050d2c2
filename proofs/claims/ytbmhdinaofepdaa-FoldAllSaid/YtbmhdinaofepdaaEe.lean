/- THE WALKS over package quintainref1: takes, mayOp, Fault. -/
import Derived.Test.YtbmhdinaofepdaaEc
import Derived.Test.YtbmhdinaofepdaaOg
import Derived.Outline
namespace Go.Proofs.Ytbmhdinaofepdaa
set_option maxRecDepth 100000
open Go.RowKit
set_option linter.unusedVariables false

/-- how many numbers an operation takes -/
def takesL (k : Nat) : Nat := if k = 0 then 0 else if k = 9 ∨ k = 15 then 1 else if 3 ≤ k ∧ k ≤ 8 then 3 else 2
theorem takesRow (w : World) : (w.alloc (.cells #[.int .i64 0, .int .i64 2, .int .i64 2, .int .i64 3, .int .i64 3, .int .i64 3, .int .i64 3, .int .i64 3, .int .i64 3, .int .i64 1, .int .i64 2, .int .i64 2, .int .i64 2, .int .i64 2, .int .i64 2, .int .i64 1] 3)).rowIs w.heap.size 3 16 (fun i => .int .i64 (takesL i : Int)) :=
  World.rowIs_alloc w _ _ _ (fun i hi => by
    have hi : i < 16 := hi
    obtain rfl | rfl | rfl | rfl | rfl | rfl | rfl | rfl | rfl | rfl | rfl | rfl | rfl | rfl | rfl | rfl : i = 0 ∨ i = 1 ∨ i = 2 ∨ i = 3 ∨ i = 4 ∨ i = 5 ∨ i = 6 ∨ i = 7 ∨ i = 8 ∨ i = 9 ∨ i = 10 ∨ i = 11 ∨ i = 12 ∨ i = 13 ∨ i = 14 ∨ i = 15 := by omega
    all_goals rfl)
theorem rtakes_any (k : Nat) (hk : k < 16) (w : World) : Calls Try.prog 36 #[.int .i64 (k : Int)] w fun e w' => e = .returned (.int .i64 (takesL k : Int)) ∧ Below w.heap.size w w' := by
  have hc := (takesRow w).cell hk
  have hk2 : (k : Int) < 16 := by omega
  have b0 : Below w.heap.size w (w.alloc (.cells #[.int .i64 0, .int .i64 2, .int .i64 2, .int .i64 3, .int .i64 3, .int .i64 3, .int .i64 3, .int .i64 3, .int .i64 3, .int .i64 1, .int .i64 2, .int .i64 2, .int .i64 2, .int .i64 2, .int .i64 2, .int .i64 1] 3)) := (Below.refl _ _).alloc (Nat.le_refl _) _
  go_enter Try.func36, Try.ntmps36
  go_wp2
  go_ret
  exact ⟨rfl, b0⟩

theorem has_none (k j : Nat) (hk : k < 16) (hj : j < 3) (h : takesL k ≤ j) (n m : Int) : hasB (kd k j) n m = (decide (0 ≤ n) && decide (n ≤ 0)) := by
  have e : kd k j = 0 := by
    have h2 : ∀ k : Fin 16, ∀ j : Fin 3, takesL k ≤ j → kd k j = 0 := by decide
    exact h2 ⟨k, hk⟩ ⟨j, hj⟩ h
  rw [e]
  unfold hasB
  rw [if_neg (by decide), if_neg (by decide), if_neg (by decide)]
  rw [Bool.eq_iff_iff]
  simp
  omega
theorem has_cell (k j : Nat) (hk : k < 16) (hj : j < 3) (h : j < takesL k) (h1 : ¬ (k = 1 ∧ j = 1)) (h2 : k ≠ 9) (h3 : ¬ (k = 10 ∧ j = 1)) (n m : Int) : hasB (kd k j) n m = (decide (0 ≤ n) && decide (n ≤ 31)) := by
  have e : kd k j = 2 := by
    have h4 : ∀ k : Fin 16, ∀ j : Fin 3, j < takesL k → ¬ (k = (1 : Nat) ∧ j = (1 : Nat)) → k ≠ (9 : Nat) → ¬ (k = (10 : Nat) ∧ j = (1 : Nat)) → kd k j = 2 := by decide
    exact h4 ⟨k, hk⟩ ⟨j, hj⟩ h h1 h2 h3
  rw [e]
  unfold hasB
  rw [if_neg (by decide), if_pos rfl]
  rw [Bool.eq_iff_iff]
  simp
  omega
theorem has_place (k j : Nat) (h : k = 9 ∧ j = 0 ∨ k = 10 ∧ j = 1) (n m : Int) : hasB (kd k j) n m = (decide (0 ≤ n) && decide (n ≤ m)) := by
  have e : kd k j = 3 := by rcases h with ⟨rfl, rfl⟩ | ⟨rfl, rfl⟩ <;> rfl
  rw [e]
  unfold hasB
  rw [if_neg (by decide), if_neg (by decide), if_pos rfl]
theorem has_low {f : Bool} {n q : Int} (h : f = (decide (0 ≤ n) && decide (n ≤ q))) (hn : n < 0) : f = false := by
  rw [h, show decide (0 ≤ n) = false by rw [decide_eq_false_iff_not]; omega]; rfl
theorem has_high {f : Bool} {n q : Int} (h : f = (decide (0 ≤ n) && decide (n ≤ q))) (hn : q < n) : f = false := by
  rw [h, show decide (n ≤ q) = false by rw [decide_eq_false_iff_not]; omega, Bool.and_false]
theorem has_in {f : Bool} {n q : Int} (h : f = (decide (0 ≤ n) && decide (n ≤ q))) (h1 : ¬ n < 0) (h2 : ¬ q < n) : f = true := by
  rw [h, show decide (0 ≤ n) = true by rw [decide_eq_true_iff]; omega, show decide (n ≤ q) = true by rw [decide_eq_true_iff]; omega]; rfl
theorem argsRow (w : World) (o : O4) : (w.alloc (.cells #[.int .i64 o.a, .int .i64 o.b, .int .i64 o.c] 3)).rowIs w.heap.size 3 3 (fun i => .int .i64 (argO o i)) :=
  World.rowIs_alloc w _ _ _ (fun i hi => by
    have hi : i < 3 := hi
    obtain rfl | rfl | rfl : i = 0 ∨ i = 1 ∨ i = 2 := by omega
    all_goals rfl)
set_option maxHeartbeats 8000000 in
theorem refmay_any (o : O4) (m : Int) (w : World) :
    Calls Try.prog 27 #[opV o, .int .i64 m] w fun e w' => e = .returned (.bool (mayB o m)) ∧ Below w.heap.size w w' := by
  unfold opV
  have b0 : Below w.heap.size w (w.alloc (.cells #[.int .i64 o.k, .int .i64 o.a, .int .i64 o.b, .int .i64 o.c] 46)) := (Below.refl _ _).alloc (Nat.le_refl _) _
  by_cases hlo : o.k < 0
  · have HF := Lib.hid (mayB_code o m (by unfold codeB; rw [show decide (0 ≤ o.k) = false by rw [decide_eq_false_iff_not]; omega]; rfl))
    go_enter Try.func27, Try.ntmps27
    go_wp2
    go_ret
    exact ⟨by rw [HF.out]; rfl, b0⟩
  by_cases hhi : 15 < o.k
  · have HF := Lib.hid (mayB_code o m (by unfold codeB; rw [show decide (o.k ≤ 15) = false by rw [decide_eq_false_iff_not]; omega, Bool.and_false]))
    go_enter Try.func27, Try.ntmps27
    go_wp2
    go_ret
    exact ⟨by rw [HF.out]; rfl, b0⟩
  obtain ⟨k, hk, hk16⟩ : ∃ k : Nat, o.k = k ∧ k < 16 := ⟨o.k.toNat, by omega, by omega⟩
  have hcb : codeB o.k = true := by unfold codeB; rw [show decide (0 ≤ o.k) = true by rw [decide_eq_true_iff]; omega, show decide (o.k ≤ 15) = true by rw [decide_eq_true_iff]; omega]; rfl
  have hkn : o.k.toNat = k := by omega
  have HB : Hid (∀ j, j < 3 → hasB (kd k j) (argO o j) m = false → mayB o m = false) := fun j hj h => mayB_bad o m j hj (by rw [hkn]; exact h)
  have HA : Hid ((∀ j, j < 3 → hasB (kd k j) (argO o j) m = true) → mayB o m = true) := fun h => mayB_all o m hcb (by rw [hkn]; exact h)
  have HK := Lib.hid hk
  clear hcb hkn hk
  go_enter Try.func27, Try.ntmps27
  go_wp2_with fail
  have hw2 : Below (w.heap.size + 1) (w.alloc (.cells #[.int .i64 o.k, .int .i64 o.a, .int .i64 o.b, .int .i64 o.c] 46)) ((w.alloc (.cells #[.int .i64 o.k, .int .i64 o.a, .int .i64 o.b, .int .i64 o.c] 46)).alloc (.cells #[.int .i64 o.a, .int .i64 o.b, .int .i64 o.c] 3)) := (Below.refl _ _).alloc (by simp) _
  have hC := (op_cells hw2 (by omega)).1
  have hR := argsRow (w.alloc (.cells #[.int .i64 o.k, .int .i64 o.a, .int .i64 o.b, .int .i64 o.c] 46)) o
  rw [World.size_alloc] at hR
  have hb2 := b0.trans (hw2.mono (by omega))
  have hs2 : w.heap.size + 2 ≤ ((w.alloc (.cells #[.int .i64 o.k, .int .i64 o.a, .int .i64 o.b, .int .i64 o.c] 46)).alloc (.cells #[.int .i64 o.a, .int .i64 o.b, .int .i64 o.c] 3)).heap.size := by simp
  have HC := Lib.hid (hC.trans (congrArg (fun z => some (Value.int .i64 z)) HK.out))
  have HR : Hid (∀ j, j < 3 → World.cell? ((w.alloc (.cells #[.int .i64 o.k, .int .i64 o.a, .int .i64 o.b, .int .i64 o.c] 46)).alloc (.cells #[.int .i64 o.a, .int .i64 o.b, .int .i64 o.c] 3)) ⟨w.heap.size + 1, j, none⟩ = some (.int .i64 (argO o j))) := fun j hj => hR.cell hj
  clear hw2 hC hR b0 hlo hhi
  go_loopw [6] (fun i wr => ∃ j : Nat, i = .int .i64 j ∧ j ≤ 3 ∧ Below w.heap.size w wr ∧ w.heap.size + 2 ≤ wr.heap.size ∧ Hid (wr.cell? ⟨w.heap.size, 0, none⟩ = some (.int .i64 (k : Int))) ∧ Hid (∀ j, j < 3 → wr.cell? ⟨w.heap.size + 1, j, none⟩ = some (.int .i64 (argO o j))) ∧ Hid (∀ q, q < j → hasB (kd k q) (argO o q) m = true)) (fun i _ => 3 - (intOf i).toNat)
  case atStart => exact ⟨0, rfl, by omega, hb2, hs2, HC, HR, fun q hq => by omega⟩
  case round =>
    obtain ⟨j, rfl, hj, hb, hs, hc0, hr, hall⟩ := hrel
    clear hb2 hs2 HC HR
    by_cases hlt : j < 3
    · have hjc : (j : Int) < 3 := by omega
      have HT := Lib.hid (rtakes_any k hk16 wr)
      have hmore : Hid (hasB (kd k j) (argO o j) m = true → ∀ q, q < j + 1 → hasB (kd k q) (argO o q) m = true) := fun hh q hq => by
        by_cases e : q < j
        · exact hall.out q e
        · obtain rfl : q = j := by omega
          exact hh
      have hbad : Hid (hasB (kd k j) (argO o j) m = false → mayB o m = false) := HB.out j hlt
      have hcode := hc0.out
      clear HB HA hall
      by_cases ht : takesL k ≤ j
      · have hq := has_none k j hk16 hlt ht (argO o j) m
        have ht2 : ((takesL k : Nat) : Int) ≤ (j : Int) := by omega
        have HQ := Lib.hid hq; clear hq ht
        obtain ⟨n, hn⟩ : ∃ n, n = argO o j := ⟨_, rfl⟩
        have HNV : Hid (some (Value.int .i64 (argO o j)) = some (Value.int .i64 n)) := by rw [hn]; rfl
        rw [← hn] at HQ hmore hbad
        clear hn
        by_cases n1 : n < 0
        · have HF := Lib.hid (hbad.out (has_low HQ.out n1))
          go_wp2_with (go_at_call 36; refine HT.out.mono ?_; rintro e w4 ⟨rfl, hbt⟩; have hc4 := (hbt.cell (p := ⟨w.heap.size, 0, none⟩) (show w.heap.size < _ by omega)).trans hcode; have hl4 := (hbt.cell (p := ⟨w.heap.size + 1, j, none⟩) (show w.heap.size + 1 < _ by omega)).trans ((hr.out j hlt).trans HNV.out); have hb4 := hb.trans (hbt.mono hb.size); have hs4 := Nat.le_trans hs hbt.size; have C4 := Lib.hid hc4; have R4 : Hid (∀ j, j < 3 → w4.cell? ⟨w.heap.size + 1, j, none⟩ = some (.int .i64 (argO o j))) := fun j hj => (hbt.cell (p := ⟨w.heap.size + 1, j, none⟩) (show w.heap.size + 1 < _ by omega)).trans (hr.out j hj))
          go_ret
          exact ⟨by rw [HF.out]; rfl, hb4⟩
        by_cases n2 : 0 < n
        · have HF := Lib.hid (hbad.out (has_high HQ.out n2))
          go_wp2_with (go_at_call 36; refine HT.out.mono ?_; rintro e w4 ⟨rfl, hbt⟩; have hc4 := (hbt.cell (p := ⟨w.heap.size, 0, none⟩) (show w.heap.size < _ by omega)).trans hcode; have hl4 := (hbt.cell (p := ⟨w.heap.size + 1, j, none⟩) (show w.heap.size + 1 < _ by omega)).trans ((hr.out j hlt).trans HNV.out); have hb4 := hb.trans (hbt.mono hb.size); have hs4 := Nat.le_trans hs hbt.size; have C4 := Lib.hid hc4; have R4 : Hid (∀ j, j < 3 → w4.cell? ⟨w.heap.size + 1, j, none⟩ = some (.int .i64 (argO o j))) := fun j hj => (hbt.cell (p := ⟨w.heap.size + 1, j, none⟩) (show w.heap.size + 1 < _ by omega)).trans (hr.out j hj))
          go_ret
          exact ⟨by rw [HF.out]; rfl, hb4⟩
        · have HA2 := Lib.hid (hmore.out (has_in HQ.out n1 n2))
          go_wp2_with (go_at_call 36; refine HT.out.mono ?_; rintro e w4 ⟨rfl, hbt⟩; have hc4 := (hbt.cell (p := ⟨w.heap.size, 0, none⟩) (show w.heap.size < _ by omega)).trans hcode; have hl4 := (hbt.cell (p := ⟨w.heap.size + 1, j, none⟩) (show w.heap.size + 1 < _ by omega)).trans ((hr.out j hlt).trans HNV.out); have hb4 := hb.trans (hbt.mono hb.size); have hs4 := Nat.le_trans hs hbt.size; have C4 := Lib.hid hc4; have R4 : Hid (∀ j, j < 3 → w4.cell? ⟨w.heap.size + 1, j, none⟩ = some (.int .i64 (argO o j))) := fun j hj => (hbt.cell (p := ⟨w.heap.size + 1, j, none⟩) (show w.heap.size + 1 < _ by omega)).trans (hr.out j hj))
          go_roundw
          case rel => exact ⟨j + 1, by go_num, by omega, hb4, hs4, C4, R4, HA2⟩
          case measure => simp [intOf]; omega
      · have ht2 : ¬ ((takesL k : Nat) : Int) ≤ (j : Int) := by omega
        by_cases c1 : k = 1 ∧ j = 1
        · obtain ⟨rfl, rfl⟩ := c1
          have HA2 := Lib.hid (hmore.out rfl)
          have HNV : Hid (some (Value.int .i64 (argO o 1)) = some (Value.int .i64 (argO o 1))) := rfl
          clear ht hmore hbad
          go_wp2_with (go_at_call 36; refine HT.out.mono ?_; rintro e w4 ⟨rfl, hbt⟩; have hc4 := (hbt.cell (p := ⟨w.heap.size, 0, none⟩) (show w.heap.size < _ by omega)).trans hcode; have hl4 := (hbt.cell (p := ⟨w.heap.size + 1, 1, none⟩) (show w.heap.size + 1 < _ by omega)).trans ((hr.out 1 hlt).trans HNV.out); have hb4 := hb.trans (hbt.mono hb.size); have hs4 := Nat.le_trans hs hbt.size; have C4 := Lib.hid hc4; have R4 : Hid (∀ j, j < 3 → w4.cell? ⟨w.heap.size + 1, j, none⟩ = some (.int .i64 (argO o j))) := fun j hj => (hbt.cell (p := ⟨w.heap.size + 1, j, none⟩) (show w.heap.size + 1 < _ by omega)).trans (hr.out j hj))
          go_roundw
          case rel => exact ⟨1 + 1, by go_num, by omega, hb4, hs4, C4, R4, HA2⟩
          case measure => simp [intOf]
        by_cases c9 : k = 9
        · subst c9
          obtain rfl : j = 0 := by have : takesL 9 = 1 := rfl; omega
          have hq := has_place 9 0 (.inl ⟨rfl, rfl⟩) (argO o 0) m
          have HQ := Lib.hid hq; clear hq ht c1
          obtain ⟨n, hn⟩ : ∃ n, n = argO o 0 := ⟨_, rfl⟩
          have HNV : Hid (some (Value.int .i64 (argO o 0)) = some (Value.int .i64 n)) := by rw [hn]; rfl
          rw [← hn] at HQ hmore hbad
          clear hn
          by_cases n1 : n < 0
          · have HF := Lib.hid (hbad.out (has_low HQ.out n1))
            go_wp2_with (go_at_call 36; refine HT.out.mono ?_; rintro e w4 ⟨rfl, hbt⟩; have hc4 := (hbt.cell (p := ⟨w.heap.size, 0, none⟩) (show w.heap.size < _ by omega)).trans hcode; have hl4 := (hbt.cell (p := ⟨w.heap.size + 1, 0, none⟩) (show w.heap.size + 1 < _ by omega)).trans ((hr.out 0 hlt).trans HNV.out); have hb4 := hb.trans (hbt.mono hb.size); have hs4 := Nat.le_trans hs hbt.size; have C4 := Lib.hid hc4; have R4 : Hid (∀ j, j < 3 → w4.cell? ⟨w.heap.size + 1, j, none⟩ = some (.int .i64 (argO o j))) := fun j hj => (hbt.cell (p := ⟨w.heap.size + 1, j, none⟩) (show w.heap.size + 1 < _ by omega)).trans (hr.out j hj))
            go_ret
            exact ⟨by rw [HF.out]; rfl, hb4⟩
          by_cases n2 : m < n
          · have HF := Lib.hid (hbad.out (has_high HQ.out n2))
            go_wp2_with (go_at_call 36; refine HT.out.mono ?_; rintro e w4 ⟨rfl, hbt⟩; have hc4 := (hbt.cell (p := ⟨w.heap.size, 0, none⟩) (show w.heap.size < _ by omega)).trans hcode; have hl4 := (hbt.cell (p := ⟨w.heap.size + 1, 0, none⟩) (show w.heap.size + 1 < _ by omega)).trans ((hr.out 0 hlt).trans HNV.out); have hb4 := hb.trans (hbt.mono hb.size); have hs4 := Nat.le_trans hs hbt.size; have C4 := Lib.hid hc4; have R4 : Hid (∀ j, j < 3 → w4.cell? ⟨w.heap.size + 1, j, none⟩ = some (.int .i64 (argO o j))) := fun j hj => (hbt.cell (p := ⟨w.heap.size + 1, j, none⟩) (show w.heap.size + 1 < _ by omega)).trans (hr.out j hj))
            go_ret
            exact ⟨by rw [HF.out]; rfl, hb4⟩
          · have HA2 := Lib.hid (hmore.out (has_in HQ.out n1 n2))
            go_wp2_with (go_at_call 36; refine HT.out.mono ?_; rintro e w4 ⟨rfl, hbt⟩; have hc4 := (hbt.cell (p := ⟨w.heap.size, 0, none⟩) (show w.heap.size < _ by omega)).trans hcode; have hl4 := (hbt.cell (p := ⟨w.heap.size + 1, 0, none⟩) (show w.heap.size + 1 < _ by omega)).trans ((hr.out 0 hlt).trans HNV.out); have hb4 := hb.trans (hbt.mono hb.size); have hs4 := Nat.le_trans hs hbt.size; have C4 := Lib.hid hc4; have R4 : Hid (∀ j, j < 3 → w4.cell? ⟨w.heap.size + 1, j, none⟩ = some (.int .i64 (argO o j))) := fun j hj => (hbt.cell (p := ⟨w.heap.size + 1, j, none⟩) (show w.heap.size + 1 < _ by omega)).trans (hr.out j hj))
            go_roundw
            case rel => exact ⟨0 + 1, by go_num, by omega, hb4, hs4, C4, R4, HA2⟩
            case measure => simp [intOf]
        by_cases c10 : k = 10 ∧ j = 1
        · obtain ⟨rfl, rfl⟩ := c10
          have hq := has_place 10 1 (.inr ⟨rfl, rfl⟩) (argO o 1) m
          have HQ := Lib.hid hq; clear hq ht c1 c9
          obtain ⟨n, hn⟩ : ∃ n, n = argO o 1 := ⟨_, rfl⟩
          have HNV : Hid (some (Value.int .i64 (argO o 1)) = some (Value.int .i64 n)) := by rw [hn]; rfl
          rw [← hn] at HQ hmore hbad
          clear hn
          by_cases n1 : n < 0
          · have HF := Lib.hid (hbad.out (has_low HQ.out n1))
            go_wp2_with (go_at_call 36; refine HT.out.mono ?_; rintro e w4 ⟨rfl, hbt⟩; have hc4 := (hbt.cell (p := ⟨w.heap.size, 0, none⟩) (show w.heap.size < _ by omega)).trans hcode; have hl4 := (hbt.cell (p := ⟨w.heap.size + 1, 1, none⟩) (show w.heap.size + 1 < _ by omega)).trans ((hr.out 1 hlt).trans HNV.out); have hb4 := hb.trans (hbt.mono hb.size); have hs4 := Nat.le_trans hs hbt.size; have C4 := Lib.hid hc4; have R4 : Hid (∀ j, j < 3 → w4.cell? ⟨w.heap.size + 1, j, none⟩ = some (.int .i64 (argO o j))) := fun j hj => (hbt.cell (p := ⟨w.heap.size + 1, j, none⟩) (show w.heap.size + 1 < _ by omega)).trans (hr.out j hj))
            go_ret
            exact ⟨by rw [HF.out]; rfl, hb4⟩
          by_cases n2 : m < n
          · have HF := Lib.hid (hbad.out (has_high HQ.out n2))
            go_wp2_with (go_at_call 36; refine HT.out.mono ?_; rintro e w4 ⟨rfl, hbt⟩; have hc4 := (hbt.cell (p := ⟨w.heap.size, 0, none⟩) (show w.heap.size < _ by omega)).trans hcode; have hl4 := (hbt.cell (p := ⟨w.heap.size + 1, 1, none⟩) (show w.heap.size + 1 < _ by omega)).trans ((hr.out 1 hlt).trans HNV.out); have hb4 := hb.trans (hbt.mono hb.size); have hs4 := Nat.le_trans hs hbt.size; have C4 := Lib.hid hc4; have R4 : Hid (∀ j, j < 3 → w4.cell? ⟨w.heap.size + 1, j, none⟩ = some (.int .i64 (argO o j))) := fun j hj => (hbt.cell (p := ⟨w.heap.size + 1, j, none⟩) (show w.heap.size + 1 < _ by omega)).trans (hr.out j hj))
            go_ret
            exact ⟨by rw [HF.out]; rfl, hb4⟩
          · have HA2 := Lib.hid (hmore.out (has_in HQ.out n1 n2))
            go_wp2_with (go_at_call 36; refine HT.out.mono ?_; rintro e w4 ⟨rfl, hbt⟩; have hc4 := (hbt.cell (p := ⟨w.heap.size, 0, none⟩) (show w.heap.size < _ by omega)).trans hcode; have hl4 := (hbt.cell (p := ⟨w.heap.size + 1, 1, none⟩) (show w.heap.size + 1 < _ by omega)).trans ((hr.out 1 hlt).trans HNV.out); have hb4 := hb.trans (hbt.mono hb.size); have hs4 := Nat.le_trans hs hbt.size; have C4 := Lib.hid hc4; have R4 : Hid (∀ j, j < 3 → w4.cell? ⟨w.heap.size + 1, j, none⟩ = some (.int .i64 (argO o j))) := fun j hj => (hbt.cell (p := ⟨w.heap.size + 1, j, none⟩) (show w.heap.size + 1 < _ by omega)).trans (hr.out j hj))
            go_roundw
            case rel => exact ⟨1 + 1, by go_num, by omega, hb4, hs4, C4, R4, HA2⟩
            case measure => simp [intOf]
        have hq := has_cell k j hk16 hlt (by omega) c1 c9 c10 (argO o j) m
        have HQ := Lib.hid hq; clear hq
        have k9 : ((k : Int) == 9) = false := by rw [beq_eq_false_iff_ne]; omega
        by_cases d1 : k = 1
        · subst d1
          obtain rfl : j = 0 := by have : takesL 1 = 2 := rfl; omega
          clear ht c1 c9 c10 k9
          obtain ⟨n, hn⟩ : ∃ n, n = argO o 0 := ⟨_, rfl⟩
          have HNV : Hid (some (Value.int .i64 (argO o 0)) = some (Value.int .i64 n)) := by rw [hn]; rfl
          rw [← hn] at HQ hmore hbad
          clear hn
          by_cases n1 : n < 0
          · have HF := Lib.hid (hbad.out (has_low HQ.out n1))
            go_wp2_with (go_at_call 36; refine HT.out.mono ?_; rintro e w4 ⟨rfl, hbt⟩; have hc4 := (hbt.cell (p := ⟨w.heap.size, 0, none⟩) (show w.heap.size < _ by omega)).trans hcode; have hl4 := (hbt.cell (p := ⟨w.heap.size + 1, 0, none⟩) (show w.heap.size + 1 < _ by omega)).trans ((hr.out 0 hlt).trans HNV.out); have hb4 := hb.trans (hbt.mono hb.size); have hs4 := Nat.le_trans hs hbt.size; have C4 := Lib.hid hc4; have R4 : Hid (∀ j, j < 3 → w4.cell? ⟨w.heap.size + 1, j, none⟩ = some (.int .i64 (argO o j))) := fun j hj => (hbt.cell (p := ⟨w.heap.size + 1, j, none⟩) (show w.heap.size + 1 < _ by omega)).trans (hr.out j hj))
            go_ret
            exact ⟨by rw [HF.out]; rfl, hb4⟩
          by_cases n2 : 31 < n
          · have HF := Lib.hid (hbad.out (has_high HQ.out n2))
            go_wp2_with (go_at_call 36; refine HT.out.mono ?_; rintro e w4 ⟨rfl, hbt⟩; have hc4 := (hbt.cell (p := ⟨w.heap.size, 0, none⟩) (show w.heap.size < _ by omega)).trans hcode; have hl4 := (hbt.cell (p := ⟨w.heap.size + 1, 0, none⟩) (show w.heap.size + 1 < _ by omega)).trans ((hr.out 0 hlt).trans HNV.out); have hb4 := hb.trans (hbt.mono hb.size); have hs4 := Nat.le_trans hs hbt.size; have C4 := Lib.hid hc4; have R4 : Hid (∀ j, j < 3 → w4.cell? ⟨w.heap.size + 1, j, none⟩ = some (.int .i64 (argO o j))) := fun j hj => (hbt.cell (p := ⟨w.heap.size + 1, j, none⟩) (show w.heap.size + 1 < _ by omega)).trans (hr.out j hj))
            go_ret
            exact ⟨by rw [HF.out]; rfl, hb4⟩
          · have HA2 := Lib.hid (hmore.out (has_in HQ.out n1 n2))
            go_wp2_with (go_at_call 36; refine HT.out.mono ?_; rintro e w4 ⟨rfl, hbt⟩; have hc4 := (hbt.cell (p := ⟨w.heap.size, 0, none⟩) (show w.heap.size < _ by omega)).trans hcode; have hl4 := (hbt.cell (p := ⟨w.heap.size + 1, 0, none⟩) (show w.heap.size + 1 < _ by omega)).trans ((hr.out 0 hlt).trans HNV.out); have hb4 := hb.trans (hbt.mono hb.size); have hs4 := Nat.le_trans hs hbt.size; have C4 := Lib.hid hc4; have R4 : Hid (∀ j, j < 3 → w4.cell? ⟨w.heap.size + 1, j, none⟩ = some (.int .i64 (argO o j))) := fun j hj => (hbt.cell (p := ⟨w.heap.size + 1, j, none⟩) (show w.heap.size + 1 < _ by omega)).trans (hr.out j hj))
            go_roundw
            case rel => exact ⟨0 + 1, by go_num, by omega, hb4, hs4, C4, R4, HA2⟩
            case measure => simp [intOf]
        have k1 : ((k : Int) == 1) = false := by rw [beq_eq_false_iff_ne]; omega
        by_cases d10 : k = 10
        · subst d10
          obtain rfl : j = 0 := by have : takesL 10 = 2 := rfl; omega
          clear ht c1 c9 c10 d1 k9 k1
          obtain ⟨n, hn⟩ : ∃ n, n = argO o 0 := ⟨_, rfl⟩
          have HNV : Hid (some (Value.int .i64 (argO o 0)) = some (Value.int .i64 n)) := by rw [hn]; rfl
          rw [← hn] at HQ hmore hbad
          clear hn
          by_cases n1 : n < 0
          · have HF := Lib.hid (hbad.out (has_low HQ.out n1))
            go_wp2_with (go_at_call 36; refine HT.out.mono ?_; rintro e w4 ⟨rfl, hbt⟩; have hc4 := (hbt.cell (p := ⟨w.heap.size, 0, none⟩) (show w.heap.size < _ by omega)).trans hcode; have hl4 := (hbt.cell (p := ⟨w.heap.size + 1, 0, none⟩) (show w.heap.size + 1 < _ by omega)).trans ((hr.out 0 hlt).trans HNV.out); have hb4 := hb.trans (hbt.mono hb.size); have hs4 := Nat.le_trans hs hbt.size; have C4 := Lib.hid hc4; have R4 : Hid (∀ j, j < 3 → w4.cell? ⟨w.heap.size + 1, j, none⟩ = some (.int .i64 (argO o j))) := fun j hj => (hbt.cell (p := ⟨w.heap.size + 1, j, none⟩) (show w.heap.size + 1 < _ by omega)).trans (hr.out j hj))
            go_ret
            exact ⟨by rw [HF.out]; rfl, hb4⟩
          by_cases n2 : 31 < n
          · have HF := Lib.hid (hbad.out (has_high HQ.out n2))
            go_wp2_with (go_at_call 36; refine HT.out.mono ?_; rintro e w4 ⟨rfl, hbt⟩; have hc4 := (hbt.cell (p := ⟨w.heap.size, 0, none⟩) (show w.heap.size < _ by omega)).trans hcode; have hl4 := (hbt.cell (p := ⟨w.heap.size + 1, 0, none⟩) (show w.heap.size + 1 < _ by omega)).trans ((hr.out 0 hlt).trans HNV.out); have hb4 := hb.trans (hbt.mono hb.size); have hs4 := Nat.le_trans hs hbt.size; have C4 := Lib.hid hc4; have R4 : Hid (∀ j, j < 3 → w4.cell? ⟨w.heap.size + 1, j, none⟩ = some (.int .i64 (argO o j))) := fun j hj => (hbt.cell (p := ⟨w.heap.size + 1, j, none⟩) (show w.heap.size + 1 < _ by omega)).trans (hr.out j hj))
            go_ret
            exact ⟨by rw [HF.out]; rfl, hb4⟩
          · have HA2 := Lib.hid (hmore.out (has_in HQ.out n1 n2))
            go_wp2_with (go_at_call 36; refine HT.out.mono ?_; rintro e w4 ⟨rfl, hbt⟩; have hc4 := (hbt.cell (p := ⟨w.heap.size, 0, none⟩) (show w.heap.size < _ by omega)).trans hcode; have hl4 := (hbt.cell (p := ⟨w.heap.size + 1, 0, none⟩) (show w.heap.size + 1 < _ by omega)).trans ((hr.out 0 hlt).trans HNV.out); have hb4 := hb.trans (hbt.mono hb.size); have hs4 := Nat.le_trans hs hbt.size; have C4 := Lib.hid hc4; have R4 : Hid (∀ j, j < 3 → w4.cell? ⟨w.heap.size + 1, j, none⟩ = some (.int .i64 (argO o j))) := fun j hj => (hbt.cell (p := ⟨w.heap.size + 1, j, none⟩) (show w.heap.size + 1 < _ by omega)).trans (hr.out j hj))
            go_roundw
            case rel => exact ⟨0 + 1, by go_num, by omega, hb4, hs4, C4, R4, HA2⟩
            case measure => simp [intOf]
        have k10 : ((k : Int) == 10) = false := by rw [beq_eq_false_iff_ne]; omega
        clear ht c1 c9 c10 d1 d10
        obtain ⟨n, hn⟩ : ∃ n, n = argO o j := ⟨_, rfl⟩
        have HNV : Hid (some (Value.int .i64 (argO o j)) = some (Value.int .i64 n)) := by rw [hn]; rfl
        rw [← hn] at HQ hmore hbad
        clear hn
        by_cases n1 : n < 0
        · have HF := Lib.hid (hbad.out (has_low HQ.out n1))
          go_wp2_with (go_at_call 36; refine HT.out.mono ?_; rintro e w4 ⟨rfl, hbt⟩; have hc4 := (hbt.cell (p := ⟨w.heap.size, 0, none⟩) (show w.heap.size < _ by omega)).trans hcode; have hl4 := (hbt.cell (p := ⟨w.heap.size + 1, j, none⟩) (show w.heap.size + 1 < _ by omega)).trans ((hr.out j hlt).trans HNV.out); have hb4 := hb.trans (hbt.mono hb.size); have hs4 := Nat.le_trans hs hbt.size; have C4 := Lib.hid hc4; have R4 : Hid (∀ j, j < 3 → w4.cell? ⟨w.heap.size + 1, j, none⟩ = some (.int .i64 (argO o j))) := fun j hj => (hbt.cell (p := ⟨w.heap.size + 1, j, none⟩) (show w.heap.size + 1 < _ by omega)).trans (hr.out j hj))
          go_ret
          exact ⟨by rw [HF.out]; rfl, hb4⟩
        by_cases n2 : 31 < n
        · have HF := Lib.hid (hbad.out (has_high HQ.out n2))
          go_wp2_with (go_at_call 36; refine HT.out.mono ?_; rintro e w4 ⟨rfl, hbt⟩; have hc4 := (hbt.cell (p := ⟨w.heap.size, 0, none⟩) (show w.heap.size < _ by omega)).trans hcode; have hl4 := (hbt.cell (p := ⟨w.heap.size + 1, j, none⟩) (show w.heap.size + 1 < _ by omega)).trans ((hr.out j hlt).trans HNV.out); have hb4 := hb.trans (hbt.mono hb.size); have hs4 := Nat.le_trans hs hbt.size; have C4 := Lib.hid hc4; have R4 : Hid (∀ j, j < 3 → w4.cell? ⟨w.heap.size + 1, j, none⟩ = some (.int .i64 (argO o j))) := fun j hj => (hbt.cell (p := ⟨w.heap.size + 1, j, none⟩) (show w.heap.size + 1 < _ by omega)).trans (hr.out j hj))
          go_ret
          exact ⟨by rw [HF.out]; rfl, hb4⟩
        · have HA2 := Lib.hid (hmore.out (has_in HQ.out n1 n2))
          go_wp2_with (go_at_call 36; refine HT.out.mono ?_; rintro e w4 ⟨rfl, hbt⟩; have hc4 := (hbt.cell (p := ⟨w.heap.size, 0, none⟩) (show w.heap.size < _ by omega)).trans hcode; have hl4 := (hbt.cell (p := ⟨w.heap.size + 1, j, none⟩) (show w.heap.size + 1 < _ by omega)).trans ((hr.out j hlt).trans HNV.out); have hb4 := hb.trans (hbt.mono hb.size); have hs4 := Nat.le_trans hs hbt.size; have C4 := Lib.hid hc4; have R4 : Hid (∀ j, j < 3 → w4.cell? ⟨w.heap.size + 1, j, none⟩ = some (.int .i64 (argO o j))) := fun j hj => (hbt.cell (p := ⟨w.heap.size + 1, j, none⟩) (show w.heap.size + 1 < _ by omega)).trans (hr.out j hj))
          go_roundw
          case rel => exact ⟨j + 1, by go_num, by omega, hb4, hs4, C4, R4, HA2⟩
          case measure => simp [intOf]; omega
    · obtain rfl : j = 3 := by omega
      have HF := Lib.hid (HA.out hall.out)
      go_wp2
      go_ret
      exact ⟨by rw [HF.out]; rfl, hb⟩
end Go.Proofs.Ytbmhdinaofepdaa
