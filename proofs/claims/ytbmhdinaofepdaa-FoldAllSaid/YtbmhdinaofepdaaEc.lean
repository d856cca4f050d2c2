/- THE WALKS over package check: mayOp, Fault's own, IndexFunc, Fault, May. -/
import Derived.Test.YtbmhdinaofepdaaEb
import Derived.Outline
namespace Go.Proofs.Ytbmhdinaofepdaa
set_option maxRecDepth 100000
open Go.RowKit
set_option linter.unusedVariables false

def opO (o : O4) : Obj := .cells #[.int .i64 o.k, .int .i64 o.a, .int .i64 o.b, .int .i64 o.c] 46
theorem op_cells {w w1 : World} {o : O4} {B : Nat} (hb : Below B (w.alloc (.cells #[.int .i64 o.k, .int .i64 o.a, .int .i64 o.b, .int .i64 o.c] 46)) w1) (hB : w.heap.size < B) :
    w1.cell? ⟨w.heap.size, 0, none⟩ = some (.int .i64 o.k) ∧ w1.cell? ⟨w.heap.size, 1, none⟩ = some (.int .i64 o.a) ∧ w1.cell? ⟨w.heap.size, 2, none⟩ = some (.int .i64 o.b) ∧ w1.cell? ⟨w.heap.size, 3, none⟩ = some (.int .i64 o.c) := by
  have r : (w.alloc (.cells #[.int .i64 o.k, .int .i64 o.a, .int .i64 o.b, .int .i64 o.c] 46)).rowIs w.heap.size 46 4 (opF o) := World.rowIs_alloc w _ _ _ (fun i hi => by
    have hi : i < 4 := hi
    obtain rfl | rfl | rfl | rfl : i = 0 ∨ i = 1 ∨ i = 2 ∨ i = 3 := by omega
    all_goals rfl)
  have e : ∀ i, i < 4 → w1.cell? ⟨w.heap.size, i, none⟩ = some (opF o i) := fun i hi => (hb.cell (p := ⟨w.heap.size, i, none⟩) hB).trans (r.cell hi)
  exact ⟨e 0 (by omega), e 1 (by omega), e 2 (by omega), e 3 (by omega)⟩
def argsV (o : O4) : Value := .agg #[.int .i64 o.a, .int .i64 o.b, .int .i64 o.c]
theorem index_args (o : O4) (j : Nat) (hj : j < 3) (w : World) : (Instr.index 92 (.agg #[.int .i64 o.a, .int .i64 o.b, .int .i64 o.c]) (.int .i64 (j : Int))).run Try.prog w = .ok (.int .i64 (argO o j)) w := by
  obtain rfl | rfl | rfl : j = 0 ∨ j = 1 ∨ j = 2 := by omega
  all_goals kernel_rfl
theorem kd_row (w : World) (k : Nat) : (w.alloc (.cells #[.int .i64 (kdA k), .int .i64 (kdB k), .int .i64 (kdC k)] 89)).rowIs w.heap.size 89 3 (fun i => .int .i64 (kd k i)) := World.rowIs_alloc w _ _ _ (fun i hi => by
  have hi : i < 3 := hi
  obtain rfl | rfl | rfl : i = 0 ∨ i = 1 ∨ i = 2 := by omega
  all_goals rfl)
set_option maxHeartbeats 2000000 in
theorem cmayOp_any (o : O4) (m : Int) (w : World) :
    Calls Try.prog 43 #[opV o, .int .i64 m] w fun e w' => e = .returned (.bool (mayB o m)) ∧ Below w.heap.size w w' := by
  unfold opV
  have b0 : Below w.heap.size w (w.alloc (.cells #[.int .i64 o.k, .int .i64 o.a, .int .i64 o.b, .int .i64 o.c] 46)) := (Below.refl _ _).alloc (Nat.le_refl _) _
  cases hcb : codeB o.k with
  | false =>
    have HF := Lib.hid (mayB_code o m hcb)
    have HT := Lib.hid (fun W => takes_no o.k hcb W)
    clear hcb
    go_enter Try.func43, Try.ntmps43
    go_wp2_with (go_at_call 52; refine (HT.out _).mono ?_; rintro e w1 ⟨rfl, hb1⟩)
    go_ret
    exact ⟨by rw [HF.out]; rfl, (b0.trans (hb1.mono (by simp))).alloc (by have := hb1.size; simp at this; omega) _⟩
  | true =>
    obtain ⟨k, hk, hk16⟩ : ∃ k : Nat, o.k = k ∧ k < 16 := by
      unfold codeB at hcb
      simp at hcb
      exact ⟨o.k.toNat, by omega, by omega⟩
    have hkn : o.k.toNat = k := by omega
    have HB : Hid (∀ j, j < 3 → hasB (kd k j) (argO o j) m = false → mayB o m = false) := fun j hj h => mayB_bad o m j hj (by rw [hkn]; exact h)
    have HA : Hid ((∀ j, j < 3 → hasB (kd k j) (argO o j) m = true) → mayB o m = true) := fun h => mayB_all o m hcb (by rw [hkn]; exact h)
    have HT : Hid (∀ W, Calls Try.prog 52 #[.int .i64 o.k] W fun e w' => e = .returned (takesV k) ∧ Below W.heap.size W w') := fun W => by rw [hk]; exact takes_ok k hk16 W
    clear hcb hkn hk
    go_enter Try.func43, Try.ntmps43
    go_wp2_with (go_at_call 52; refine (HT.out _).mono ?_; rintro e w1 ⟨rfl, hb1⟩; obtain ⟨hc0, hc1, hc2, hc3⟩ := op_cells (hb1.alloc hb1.size (.cells #[.int .i64 (kdA k), .int .i64 (kdB k), .int .i64 (kdC k)] 89)) (by simp); unfold takesV)
    have HR := Lib.hid (kd_row w1 k)
    have hb2 : Below w.heap.size w (w1.alloc (.cells #[.int .i64 (kdA k), .int .i64 (kdB k), .int .i64 (kdC k)] 89)) := (b0.trans (hb1.mono (by simp))).alloc (by have := hb1.size; simp at this; omega) _
    generalize w1.alloc (.cells #[.int .i64 (kdA k), .int .i64 (kdB k), .int .i64 (kdC k)] 89) = w2 at *
    clear hb1 b0 hc0 hc1 hc2 hc3 HT
    go_loop [24] (fun i => ∃ j : Nat, i = .int .i64 j ∧ j ≤ 3 ∧ Hid (∀ q, q < j → hasB (kd k q) (argO o q) m = true)) (fun i => 3 - (intOf i).toNat)
    case atStart => exact ⟨0, rfl, by omega, fun q hq => by omega⟩
    case round =>
      obtain ⟨j, rfl, hj, hall⟩ := hrel
      by_cases hlt : j < 3
      · have hx := index_args o j hlt w2
        have hjc : (j : Int) < 3 := by omega
        have hcell := HR.out.cell (i := j) hlt
        cases hh : hasB (kd k j) (argO o j) m with
        | false =>
          have HF := Lib.hid (HB.out j hlt hh)
          have HH : Hid (∀ W, Calls Try.prog 53 #[.int .i64 (kd k j), .int .i64 (argO o j), .int .i64 m] W fun e w' => e = .returned (.bool false) ∧ W = w') := fun W => by rw [← hh]; exact has_any _ _ _ W
          clear hh
          go_wp2_with (go_at_call 53; refine (HH.out _).mono ?_; rintro e w3 ⟨rfl, rfl⟩)
          go_ret
          exact ⟨by rw [HF.out]; rfl, hb2⟩
        | true =>
          have HA2 : Hid (∀ q, q < j + 1 → hasB (kd k q) (argO o q) m = true) := fun q hq => by
            by_cases e : q < j
            · exact hall.out q e
            · obtain rfl : q = j := by omega
              exact hh
          have HH : Hid (∀ W, Calls Try.prog 53 #[.int .i64 (kd k j), .int .i64 (argO o j), .int .i64 m] W fun e w' => e = .returned (.bool true) ∧ W = w') := fun W => by rw [← hh]; exact has_any _ _ _ W
          clear hh
          go_wp2_with (go_at_call 53; refine (HH.out _).mono ?_; rintro e w3 ⟨rfl, rfl⟩)
          go_round
          case rel => exact ⟨j + 1, by go_num, by omega, HA2⟩
          case measure => simp [intOf]; omega
      · obtain rfl : j = 3 := by omega
        have HF := Lib.hid (HA.out hall.out)
        go_wp2
        go_ret
        exact ⟨by rw [HF.out]; rfl, hb2⟩
end Go.Proofs.Ytbmhdinaofepdaa
