/- SnapAll: do, Hold and Drop. -/
import Derived.Test.YtkmkjfbbpeocdaaYd
import Derived.Test.YtkmkjfbbpeocdaaWw
import Derived.Deep.DeepCutAuto
import Derived.Deep.CutBlock
namespace Go.Proofs.Ytkmkjfbbpeocdaa
set_option maxRecDepth 100000
open Go.RowKit Go.Maps
set_option linter.unusedVariables false
set_option linter.unusedSimpArgs false

set_option maxHeartbeats 16000000 in
theorem do_hold (w0 w : World) (S P A M Bb : Nat) (N : Int) (m : Nat) (hm : m < 50) (hN : 0 ≤ N ∧ N ≤ 200) (D : DoR w0 w S P A M Bb N m) (kP kc kv : Int) (hP : rng kP) (hc : rng kc) (L : Value) :
    Calls Try.prog 13 #[.pointer (some ⟨Bb, 0, none⟩), .pointer (some ⟨S, 0, none⟩), .agg #[.int .i64 2, .int .i64 kP, .int .i64 kc, .int .i32 kv, L]] w fun e w' => e = .returned (.bool true) ∧ DoR w0 w' S P A M Bb N (m + 1) := by
  obtain ⟨B, n, v, O, hO, hS, hF⟩ := D
  have hB60 : B.length ≤ 60 := by have := hS.len; omega
  have hn200 : n ≤ 200 := by have := hS.nx; omega
  have HHN := Lib.hid hN
  obtain ⟨Z, X, inr, bb, hpre⟩ := preB B kP
  have HPre := Lib.hid hpre
  have HO := Lib.hid hO
  have HS := Lib.hid hS
  have HHm := Lib.hid hm
  have hF1 := hF.new (w' := w.alloc (.cells #[.int .i64 2, .int .i64 kP, .int .i64 kc, .int .i32 kv, L] 33)) ((Below.refl _ w).alloc (Nat.le_refl _) _) w.heap.size (opO 2 kP kc kv L) (Nat.le_refl _) (heap_alloc_last w _)
  clear hO hS hF hpre hm hN
  go_enter Try.func13, Try.ntmps13
  go_upto_region 3 with fail
  obtain ⟨w1, hw1⟩ : ∃ w1, w1 = w.alloc (.cells #[.int .i64 2, .int .i64 kP, .int .i64 kc, .int .i32 kv, L] 33) := ⟨_, rfl⟩
  obtain ⟨ob, hob⟩ : ∃ ob, ob = w.heap.size := ⟨_, rfl⟩
  rw [← hw1, ← hob] at hF1
  try rw [← hw1]
  try rw [← hob]
  clear hw1 hob
  have HF1 := Lib.hid (Frm.drew hF1)
  have hoc := hF1.own (m0 _ _)
  have o0 : w1.cell? ⟨ob, 0, none⟩ = some (.int .i64 2) := (cell_of_row _ _ _ _ _ _ hoc).trans rfl
  have o1 : w1.cell? ⟨ob, 1, none⟩ = some (.int .i64 kP) := (cell_of_row _ _ _ _ _ _ hoc).trans rfl
  have hbm := HO.out.bm (fun x hx => List.mem_cons_of_mem _ hx) hF1
  have c0 := hbm.c0
  obtain ⟨q, cap, rfl, hrow⟩ := hbm.row
  have HRow := Lib.hid hrow
  clear hbm hrow hF1 hoc
  go_cut [31] from 19 to 31 (fun s31 wx => s31 = .bool inr ∧ wx = w1.drew)
  case first =>
    rcases HPre.out with ⟨hin, hno, _⟩ | ⟨k, p, hin, hp, hk, _⟩
    · by_cases h0 : kP ≥ 0
      · have h1 : ¬ kP < B.length := by omega
        have hd1 : decide (kP < (B.length : Int)) = false := decide_eq_false h1
        clear hno
        refine wp_region_held_drew (S := fun w' => w'.cell? ⟨ob, 1, none⟩ = some (.int .i64 kP) ∧ w'.cell? ⟨Bb, 0, none⟩ = some (.slice q B.length cap)) (by kernel_rfl) (And.intro o1 c0) (fun hHeld => ?_)
        refine held_take (i := 0) (v := ?_) rfl (by kernel_rfl) (by kernel_rfl) (by kernel_rfl) (fun _ _ _ h => h) (by rfl) hHeld ?_ ?_
        rotate_left 1
        · (intro w hSw; (try dsimp only at hSw); go_simp; try (with_reducible rfl))
        try simp only [Act.put, List.setIfInBounds_toArray, List.set_cons_zero, List.set_cons_succ]
        refine held_take (i := 1) (v := ?_) rfl (by kernel_rfl) (by kernel_rfl) (by kernel_rfl) (fun _ _ _ h => h) (by rfl) hHeld ?_ ?_
        rotate_left 1
        · (intro w hSw; (try dsimp only at hSw); go_simp; try (with_reducible rfl))
        try simp only [Act.put, List.setIfInBounds_toArray, List.set_cons_zero, List.set_cons_succ]
        refine held_take (i := 2) (v := ?_) rfl (by kernel_rfl) (by kernel_rfl) (by kernel_rfl) (fun _ _ _ h => h) (by rfl) hHeld ?_ ?_
        rotate_left 1
        · (intro w hSw; (try dsimp only at hSw); go_simp; try (with_reducible rfl))
        try simp only [Act.put, List.setIfInBounds_toArray, List.set_cons_zero, List.set_cons_succ]
        refine held_take (i := 3) (v := ?_) rfl (by kernel_rfl) (by kernel_rfl) (by kernel_rfl) (fun _ _ _ h => h) (by rfl) hHeld ?_ ?_
        rotate_left 1
        · (intro w hSw; (try dsimp only at hSw); go_simp; try (with_reducible rfl))
        try simp only [Act.put, List.setIfInBounds_toArray, List.set_cons_zero, List.set_cons_succ]
        refine held_take (i := 4) (v := ?_) rfl (by kernel_rfl) (by kernel_rfl) (by kernel_rfl) (fun _ _ _ h => h) (by rfl) hHeld ?_ ?_
        rotate_left 1
        · (intro w hSw; (try dsimp only at hSw); go_simp; try (with_reducible rfl))
        try simp only [Act.put, List.setIfInBounds_toArray, List.set_cons_zero, List.set_cons_succ]
        refine held_take (i := 5) (v := ?_) rfl (by kernel_rfl) (by kernel_rfl) (by kernel_rfl) (fun _ _ _ h => h) (by rfl) hHeld ?_ ?_
        rotate_left 1
        · (intro w hSw; (try dsimp only at hSw); go_simp; try (with_reducible rfl))
        try simp only [Act.put, List.setIfInBounds_toArray, List.set_cons_zero, List.set_cons_succ]
        refine held_take (i := 6) (v := ?_) rfl (by kernel_rfl) (by kernel_rfl) (by kernel_rfl) (fun _ _ _ h => h) (by rfl) hHeld ?_ ?_
        rotate_left 1
        · (intro w hSw; (try dsimp only at hSw); go_simp; try (with_reducible rfl))
        try simp only [Act.put, List.setIfInBounds_toArray, List.set_cons_zero, List.set_cons_succ]
        refine held_take (i := 7) (v := ?_) rfl (by kernel_rfl) (by kernel_rfl) (by kernel_rfl) (fun _ _ _ h => h) (by rfl) hHeld ?_ ?_
        rotate_left 1
        · (intro w hSw; (try dsimp only at hSw); go_simp; try (with_reducible rfl))
        try simp only [Act.put, List.setIfInBounds_toArray, List.set_cons_zero, List.set_cons_succ]
        refine held_take (i := 8) (v := ?_) rfl (by kernel_rfl) (by kernel_rfl) (by kernel_rfl) (fun _ _ _ h => h) (by rfl) hHeld ?_ ?_
        rotate_left 1
        · (intro w hSw; (try dsimp only at hSw); go_simp; try (with_reducible rfl))
        try simp only [Act.put, List.setIfInBounds_toArray, List.set_cons_zero, List.set_cons_succ]
        refine held_take (i := 9) (v := ?_) rfl (by kernel_rfl) (by kernel_rfl) (by kernel_rfl) (fun _ _ _ h => h) (by rfl) hHeld ?_ ?_
        rotate_left 1
        · (intro w hSw; (try dsimp only at hSw); go_simp; try (with_reducible rfl))
        try simp only [Act.put, List.setIfInBounds_toArray, List.set_cons_zero, List.set_cons_succ]
        refine held_take (i := 10) (v := ?_) rfl (by kernel_rfl) (by kernel_rfl) (by kernel_rfl) (fun _ _ _ h => h) (by rfl) hHeld ?_ ?_
        rotate_left 1
        · (intro w hSw; (try dsimp only at hSw); go_simp; try (with_reducible rfl))
        try simp only [Act.put, List.setIfInBounds_toArray, List.set_cons_zero, List.set_cons_succ]
        refine held_take (i := 11) (v := ?_) rfl (by kernel_rfl) (by kernel_rfl) (by kernel_rfl) (fun _ _ _ h => h) (by rfl) hHeld ?_ ?_
        rotate_left 1
        · (intro w hSw; (try dsimp only at hSw); go_simp; try (with_reducible rfl))
        try simp only [Act.put, List.setIfInBounds_toArray, List.set_cons_zero, List.set_cons_succ]
        refine held_take (i := 12) (v := ?_) rfl (by kernel_rfl) (by kernel_rfl) (by kernel_rfl) (fun _ _ _ h => h) (by rfl) hHeld ?_ ?_
        rotate_left 1
        · (intro w hSw; (try dsimp only at hSw); go_simp; try (with_reducible rfl))
        try simp only [Act.put, List.setIfInBounds_toArray, List.set_cons_zero, List.set_cons_succ]
        refine wpAnyH_done (by kernel_rfl) ?_ _
        go_wp2_with fail
        go_meet
        exact ⟨by rw [hin], rfl⟩
      · have hd0 : decide (kP ≥ 0) = false := decide_eq_false h0
        clear hno
        refine wp_region_held_drew (S := fun w' => w'.cell? ⟨ob, 1, none⟩ = some (.int .i64 kP) ∧ w'.cell? ⟨Bb, 0, none⟩ = some (.slice q B.length cap)) (by kernel_rfl) (And.intro o1 c0) (fun hHeld => ?_)
        refine held_take (i := 0) (v := ?_) rfl (by kernel_rfl) (by kernel_rfl) (by kernel_rfl) (fun _ _ _ h => h) (by rfl) hHeld ?_ ?_
        rotate_left 1
        · (intro w hSw; (try dsimp only at hSw); go_simp; try (with_reducible rfl))
        try simp only [Act.put, List.setIfInBounds_toArray, List.set_cons_zero, List.set_cons_succ]
        refine held_take (i := 1) (v := ?_) rfl (by kernel_rfl) (by kernel_rfl) (by kernel_rfl) (fun _ _ _ h => h) (by rfl) hHeld ?_ ?_
        rotate_left 1
        · (intro w hSw; (try dsimp only at hSw); go_simp; try (with_reducible rfl))
        try simp only [Act.put, List.setIfInBounds_toArray, List.set_cons_zero, List.set_cons_succ]
        refine held_take (i := 2) (v := ?_) rfl (by kernel_rfl) (by kernel_rfl) (by kernel_rfl) (fun _ _ _ h => h) (by rfl) hHeld ?_ ?_
        rotate_left 1
        · (intro w hSw; (try dsimp only at hSw); go_simp; try (with_reducible rfl))
        try simp only [Act.put, List.setIfInBounds_toArray, List.set_cons_zero, List.set_cons_succ]
        refine held_take (i := 3) (v := ?_) rfl (by kernel_rfl) (by kernel_rfl) (by kernel_rfl) (fun _ _ _ h => h) (by rfl) hHeld ?_ ?_
        rotate_left 1
        · (intro w hSw; (try dsimp only at hSw); go_simp; try (with_reducible rfl))
        try simp only [Act.put, List.setIfInBounds_toArray, List.set_cons_zero, List.set_cons_succ]
        refine held_off (i := 4) rfl (by kernel_rfl) (by kernel_rfl) (by kernel_rfl) (fun _ _ _ h => h) (by rfl) hHeld ?_
        try simp only [Act.put, List.setIfInBounds_toArray, List.set_cons_zero, List.set_cons_succ]
        refine held_off (i := 5) rfl (by kernel_rfl) (by kernel_rfl) (by kernel_rfl) (fun _ _ _ h => h) (by rfl) hHeld ?_
        try simp only [Act.put, List.setIfInBounds_toArray, List.set_cons_zero, List.set_cons_succ]
        refine held_off (i := 6) rfl (by kernel_rfl) (by kernel_rfl) (by kernel_rfl) (fun _ _ _ h => h) (by rfl) hHeld ?_
        try simp only [Act.put, List.setIfInBounds_toArray, List.set_cons_zero, List.set_cons_succ]
        refine held_off (i := 7) rfl (by kernel_rfl) (by kernel_rfl) (by kernel_rfl) (fun _ _ _ h => h) (by rfl) hHeld ?_
        try simp only [Act.put, List.setIfInBounds_toArray, List.set_cons_zero, List.set_cons_succ]
        refine held_off (i := 8) rfl (by kernel_rfl) (by kernel_rfl) (by kernel_rfl) (fun _ _ _ h => h) (by rfl) hHeld ?_
        try simp only [Act.put, List.setIfInBounds_toArray, List.set_cons_zero, List.set_cons_succ]
        refine held_off (i := 9) rfl (by kernel_rfl) (by kernel_rfl) (by kernel_rfl) (fun _ _ _ h => h) (by rfl) hHeld ?_
        try simp only [Act.put, List.setIfInBounds_toArray, List.set_cons_zero, List.set_cons_succ]
        refine held_off (i := 10) rfl (by kernel_rfl) (by kernel_rfl) (by kernel_rfl) (fun _ _ _ h => h) (by rfl) hHeld ?_
        try simp only [Act.put, List.setIfInBounds_toArray, List.set_cons_zero, List.set_cons_succ]
        refine held_off (i := 11) rfl (by kernel_rfl) (by kernel_rfl) (by kernel_rfl) (fun _ _ _ h => h) (by rfl) hHeld ?_
        try simp only [Act.put, List.setIfInBounds_toArray, List.set_cons_zero, List.set_cons_succ]
        refine held_take (i := 12) (v := ?_) rfl (by kernel_rfl) (by kernel_rfl) (by kernel_rfl) (fun _ _ _ h => h) (by rfl) hHeld ?_ ?_
        rotate_left 1
        · (intro w hSw; (try dsimp only at hSw); go_simp; try (with_reducible rfl))
        try simp only [Act.put, List.setIfInBounds_toArray, List.set_cons_zero, List.set_cons_succ]
        refine wpAnyH_done (by kernel_rfl) ?_ _
        go_wp2_with fail
        go_meet
        exact ⟨by rw [hin], rfl⟩
    · have hl := (List.getElem?_eq_some_iff.1 hp).1
      have h0 : kP ≥ 0 := by omega
      have h1 : kP < (B.length : Int) := by omega
      clear hk hp
      refine wp_region_held_drew (S := fun w' => w'.cell? ⟨ob, 1, none⟩ = some (.int .i64 kP) ∧ w'.cell? ⟨Bb, 0, none⟩ = some (.slice q B.length cap)) (by kernel_rfl) (And.intro o1 c0) (fun hHeld => ?_)
      refine held_take (i := 0) (v := ?_) rfl (by kernel_rfl) (by kernel_rfl) (by kernel_rfl) (fun _ _ _ h => h) (by rfl) hHeld ?_ ?_
      rotate_left 1
      · (intro w hSw; (try dsimp only at hSw); go_simp; try (with_reducible rfl))
      try simp only [Act.put, List.setIfInBounds_toArray, List.set_cons_zero, List.set_cons_succ]
      refine held_take (i := 1) (v := ?_) rfl (by kernel_rfl) (by kernel_rfl) (by kernel_rfl) (fun _ _ _ h => h) (by rfl) hHeld ?_ ?_
      rotate_left 1
      · (intro w hSw; (try dsimp only at hSw); go_simp; try (with_reducible rfl))
      try simp only [Act.put, List.setIfInBounds_toArray, List.set_cons_zero, List.set_cons_succ]
      refine held_take (i := 2) (v := ?_) rfl (by kernel_rfl) (by kernel_rfl) (by kernel_rfl) (fun _ _ _ h => h) (by rfl) hHeld ?_ ?_
      rotate_left 1
      · (intro w hSw; (try dsimp only at hSw); go_simp; try (with_reducible rfl))
      try simp only [Act.put, List.setIfInBounds_toArray, List.set_cons_zero, List.set_cons_succ]
      refine held_take (i := 3) (v := ?_) rfl (by kernel_rfl) (by kernel_rfl) (by kernel_rfl) (fun _ _ _ h => h) (by rfl) hHeld ?_ ?_
      rotate_left 1
      · (intro w hSw; (try dsimp only at hSw); go_simp; try (with_reducible rfl))
      try simp only [Act.put, List.setIfInBounds_toArray, List.set_cons_zero, List.set_cons_succ]
      refine held_take (i := 4) (v := ?_) rfl (by kernel_rfl) (by kernel_rfl) (by kernel_rfl) (fun _ _ _ h => h) (by rfl) hHeld ?_ ?_
      rotate_left 1
      · (intro w hSw; (try dsimp only at hSw); go_simp; try (with_reducible rfl))
      try simp only [Act.put, List.setIfInBounds_toArray, List.set_cons_zero, List.set_cons_succ]
      refine held_take (i := 5) (v := ?_) rfl (by kernel_rfl) (by kernel_rfl) (by kernel_rfl) (fun _ _ _ h => h) (by rfl) hHeld ?_ ?_
      rotate_left 1
      · (intro w hSw; (try dsimp only at hSw); go_simp; try (with_reducible rfl))
      try simp only [Act.put, List.setIfInBounds_toArray, List.set_cons_zero, List.set_cons_succ]
      refine held_take (i := 6) (v := ?_) rfl (by kernel_rfl) (by kernel_rfl) (by kernel_rfl) (fun _ _ _ h => h) (by rfl) hHeld ?_ ?_
      rotate_left 1
      · (intro w hSw; (try dsimp only at hSw); go_simp; try (with_reducible rfl))
      try simp only [Act.put, List.setIfInBounds_toArray, List.set_cons_zero, List.set_cons_succ]
      refine held_take (i := 7) (v := ?_) rfl (by kernel_rfl) (by kernel_rfl) (by kernel_rfl) (fun _ _ _ h => h) (by rfl) hHeld ?_ ?_
      rotate_left 1
      · (intro w hSw; (try dsimp only at hSw); go_simp; try (with_reducible rfl))
      try simp only [Act.put, List.setIfInBounds_toArray, List.set_cons_zero, List.set_cons_succ]
      refine held_take (i := 8) (v := ?_) rfl (by kernel_rfl) (by kernel_rfl) (by kernel_rfl) (fun _ _ _ h => h) (by rfl) hHeld ?_ ?_
      rotate_left 1
      · (intro w hSw; (try dsimp only at hSw); go_simp; try (with_reducible rfl))
      try simp only [Act.put, List.setIfInBounds_toArray, List.set_cons_zero, List.set_cons_succ]
      refine held_take (i := 9) (v := ?_) rfl (by kernel_rfl) (by kernel_rfl) (by kernel_rfl) (fun _ _ _ h => h) (by rfl) hHeld ?_ ?_
      rotate_left 1
      · (intro w hSw; (try dsimp only at hSw); go_simp; try (with_reducible rfl))
      try simp only [Act.put, List.setIfInBounds_toArray, List.set_cons_zero, List.set_cons_succ]
      refine held_take (i := 10) (v := ?_) rfl (by kernel_rfl) (by kernel_rfl) (by kernel_rfl) (fun _ _ _ h => h) (by rfl) hHeld ?_ ?_
      rotate_left 1
      · (intro w hSw; (try dsimp only at hSw); go_simp; try (with_reducible rfl))
      try simp only [Act.put, List.setIfInBounds_toArray, List.set_cons_zero, List.set_cons_succ]
      refine held_take (i := 11) (v := ?_) rfl (by kernel_rfl) (by kernel_rfl) (by kernel_rfl) (fun _ _ _ h => h) (by rfl) hHeld ?_ ?_
      rotate_left 1
      · (intro w hSw; (try dsimp only at hSw); go_simp; try (with_reducible rfl))
      try simp only [Act.put, List.setIfInBounds_toArray, List.set_cons_zero, List.set_cons_succ]
      refine held_take (i := 12) (v := ?_) rfl (by kernel_rfl) (by kernel_rfl) (by kernel_rfl) (fun _ _ _ h => h) (by rfl) hHeld ?_ ?_
      rotate_left 1
      · (intro w hSw; (try dsimp only at hSw); go_simp; try (with_reducible rfl))
      try simp only [Act.put, List.setIfInBounds_toArray, List.set_cons_zero, List.set_cons_succ]
      refine wpAnyH_done (by kernel_rfl) ?_ _
      go_wp2_with fail
      go_meet
      exact ⟨by rw [hin], rfl⟩
  case rest =>
    obtain ⟨rfl, rfl⟩ := hcut
    have hoc := HF1.out.own (m0 _ _)
    have p0 : w1.drew.cell? ⟨ob, 0, none⟩ = some (.int .i64 2) := (cell_of_row _ _ _ _ _ _ hoc).trans rfl
    have p1 : w1.drew.cell? ⟨ob, 1, none⟩ = some (.int .i64 kP) := (cell_of_row _ _ _ _ _ _ hoc).trans rfl
    have hbm := HO.out.bm (fun x hx => List.mem_cons_of_mem _ hx) HF1.out
    have c0' := hbm.c0
    obtain ⟨q', cap', hv', hrow'⟩ := hbm.row
    obtain ⟨rfl, _, rfl⟩ : q = q' ∧ True ∧ cap = cap' := by injection hv' with e1 e2 e3; exact ⟨e1, trivial, e3⟩
    clear HRow
    have HRow := Lib.hid hrow'
    clear hrow' hv' hbm hoc o0 o1 c0
    generalize w1.drew = W at *
    clear w1
    go_upto_if 31 with fail
    go_cut [7, 8] from 32 to 41 (fun s7 s8 wx => s7 = .int .i64 Z ∧ s8 = .int .i64 X ∧ wx = W)
    case first =>
      rcases HPre.out with ⟨rfl, _, rfl, rfl, _⟩ | ⟨k, p, rfl, hp, rfl, rfl, rfl, _⟩
      · go_wp2_with fail
        go_meet
        exact ⟨rfl, rfl, rfl⟩
      · have hl := (List.getElem?_eq_some_iff.1 hp).1
        have h1 : (k : Int) < (B.length : Int) := by omega
        obtain ⟨b, rfl, _, hcell⟩ := HRow.out k p hp
        have cr : W.cell? ⟨b, k * 38, none⟩ = some (.int .i64 ((k : Int) + 1)) := (hcell 0 (by omega)).trans rfl
        clear hcell hp
        go_wp2_with fail
        go_meet
        exact ⟨rfl, rfl, rfl⟩
    case rest =>
      obtain ⟨rfl, rfl, rfl⟩ := hcut
      go_upto_region 6 with fail
      go_cut [9] from 42 to 54 (fun s9 wx => s9 = .bool bb ∧ wx = wc)
      case first =>
        rcases HPre.out with ⟨rfl, _, rfl, rfl, rfl⟩ | ⟨k, p, rfl, hp, rfl, rfl, rfl, hbb⟩
        · go_wp2_with fail
          go_meet
          exact ⟨rfl, rfl⟩
        · have hl := (List.getElem?_eq_some_iff.1 hp).1
          have h1 : (k : Int) < (B.length : Int) := by omega
          obtain ⟨b, rfl, _, hcell⟩ := HRow.out k p hp
          have cr : wc.cell? ⟨b, k * 38 + 1, none⟩ = some (.int .i64 p.r) := (hcell 1 (by omega)).trans rfl
          have HBB := Lib.hid hbb
          generalize p.r = r at *
          clear hcell hp hbb
          go_wp2_with fail
          go_meet
          exact ⟨by rw [HBB.out], rfl⟩
      case rest =>
        obtain ⟨rfl, rfl⟩ := hcut
        by_cases hbb : bb = true
        · subst hbb
          obtain ⟨k, p, hp, hpr, rfl, rfl⟩ := HPre.out.on
          obtain ⟨b, o, cap2, hv, hR, hOO⟩ := HO.out.row hp
          obtain ⟨rfl, _, rfl⟩ : q = some ⟨b, 0, none⟩ ∧ True ∧ cap = cap2 := by injection hv with e1 e2 e3; exact ⟨e1, trivial, e3⟩
          subst hOO
          have HR := Lib.hid hR
          have HPp := Lib.hid hp
          have HPr := Lib.hid hpr
          have hl := (List.getElem?_eq_some_iff.1 hp).1
          have hkl : (k : Int) < (B.length : Int) := by omega
          have hk60 : k < 60 := by omega
          have hr60 : p.r ≤ 60 := by have := (HS.out.each k p hp).2; have := HHm.out; omega
          have HG := Lib.hid (HS.out.each k p hp).1
          obtain ⟨r, hr⟩ : ∃ r, r = p.r := ⟨_, rfl⟩
          have HrP := Lib.hid hr
          rw [← hr] at hpr hr60
          clear hv hR HRow HPre
          have HQ := Lib.hid (b_hold HF1.out hB60 hp HPr.out (by rw [← hr]; exact hr60) ((k : Int) + 1) rfl)
          clear hr hp
          go_wp2_with (go_at_call 24; (with_reducible refine HQ.out.mono ?_); rintro e w4 ⟨rfl, E⟩; have HF4 := Lib.hid E; have cb0 : w4.cell? ⟨Bb, 0, none⟩ = some (.slice (some ⟨b, 0, none⟩) B.length cap) := (cell_of_row _ _ _ _ _ _ (E.own (m2 _ _ _ _))).trans rfl; have cr : w4.cell? ⟨b, k * 38 + 1, none⟩ = some (.int .i64 r) := (HR.out.cell (E.own (m1 _ _ _)) _ _ (picsL_at B k p HPp.out 1 (by omega))).trans (by rw [HrP.out]; rfl); have fz := HR.out.fz (E.own (m1 _ _ _)) (k * 38 + 1); clear E)
          go_ret
          obtain ⟨o', R', F'⟩ := Frm.rowset HF4.out.less HR.out (k * 38 + 1) (.int .i64 (r + 1))
          rw [picsL_r B k p HPp.out] at R'
          obtain rfl : r = p.r := HrP.out
          exact ⟨rfl, B.set k ⟨p.r + 1, p.g, p.pn⟩, n, _, _, .inr ⟨b, o', by rw [List.length_set]; exact R', rfl⟩, HS.out.set HPp.out _ HG.out (by have := (HS.out.each k p HPp.out).2; show p.r + 1 ≤ (m : Int) + 1; omega) (by omega), F'⟩
        · obtain rfl : bb = false := by simpa using hbb
          have HQ := Lib.hid (b_holdno HF1.out X (HPre.out.off hB60))
          clear HPre HRow
          go_wp2_with (go_at_call 24; (with_reducible refine HQ.out.mono ?_); rintro e w4 ⟨rfl, E⟩; have HF4 := Lib.hid E; clear E)
          go_ret
          exact ⟨rfl, B, n, _, _, HO.out, HS.out.more, HF4.out.less⟩
set_option maxHeartbeats 16000000 in
theorem do_drop (w0 w : World) (S P A M Bb : Nat) (N : Int) (m : Nat) (hm : m < 50) (hN : 0 ≤ N ∧ N ≤ 200) (D : DoR w0 w S P A M Bb N m) (kP kc kv : Int) (hP : rng kP) (hc : rng kc) (L : Value) :
    Calls Try.prog 13 #[.pointer (some ⟨Bb, 0, none⟩), .pointer (some ⟨S, 0, none⟩), .agg #[.int .i64 3, .int .i64 kP, .int .i64 kc, .int .i32 kv, L]] w fun e w' => e = .returned (.bool true) ∧ DoR w0 w' S P A M Bb N (m + 1) := by
  obtain ⟨B, n, v, O, hO, hS, hF⟩ := D
  have hB60 : B.length ≤ 60 := by have := hS.len; omega
  have hn200 : n ≤ 200 := by have := hS.nx; omega
  have HHN := Lib.hid hN
  obtain ⟨Z, X, inr, bb, hpre⟩ := preB B kP
  have HPre := Lib.hid hpre
  have HO := Lib.hid hO
  have HS := Lib.hid hS
  have HHm := Lib.hid hm
  have hF1 := hF.new (w' := w.alloc (.cells #[.int .i64 3, .int .i64 kP, .int .i64 kc, .int .i32 kv, L] 33)) ((Below.refl _ w).alloc (Nat.le_refl _) _) w.heap.size (opO 3 kP kc kv L) (Nat.le_refl _) (heap_alloc_last w _)
  clear hO hS hF hpre hm hN
  go_enter Try.func13, Try.ntmps13
  go_upto_region 3 with fail
  obtain ⟨w1, hw1⟩ : ∃ w1, w1 = w.alloc (.cells #[.int .i64 3, .int .i64 kP, .int .i64 kc, .int .i32 kv, L] 33) := ⟨_, rfl⟩
  obtain ⟨ob, hob⟩ : ∃ ob, ob = w.heap.size := ⟨_, rfl⟩
  rw [← hw1, ← hob] at hF1
  try rw [← hw1]
  try rw [← hob]
  clear hw1 hob
  have HF1 := Lib.hid (Frm.drew hF1)
  have hoc := hF1.own (m0 _ _)
  have o0 : w1.cell? ⟨ob, 0, none⟩ = some (.int .i64 3) := (cell_of_row _ _ _ _ _ _ hoc).trans rfl
  have o1 : w1.cell? ⟨ob, 1, none⟩ = some (.int .i64 kP) := (cell_of_row _ _ _ _ _ _ hoc).trans rfl
  have hbm := HO.out.bm (fun x hx => List.mem_cons_of_mem _ hx) hF1
  have c0 := hbm.c0
  obtain ⟨q, cap, rfl, hrow⟩ := hbm.row
  have HRow := Lib.hid hrow
  clear hbm hrow hF1 hoc
  go_cut [31] from 19 to 31 (fun s31 wx => s31 = .bool inr ∧ wx = w1.drew)
  case first =>
    rcases HPre.out with ⟨hin, hno, _⟩ | ⟨k, p, hin, hp, hk, _⟩
    · by_cases h0 : kP ≥ 0
      · have h1 : ¬ kP < B.length := by omega
        have hd1 : decide (kP < (B.length : Int)) = false := decide_eq_false h1
        clear hno
        refine wp_region_held_drew (S := fun w' => w'.cell? ⟨ob, 1, none⟩ = some (.int .i64 kP) ∧ w'.cell? ⟨Bb, 0, none⟩ = some (.slice q B.length cap)) (by kernel_rfl) (And.intro o1 c0) (fun hHeld => ?_)
        refine held_take (i := 0) (v := ?_) rfl (by kernel_rfl) (by kernel_rfl) (by kernel_rfl) (fun _ _ _ h => h) (by rfl) hHeld ?_ ?_
        rotate_left 1
        · (intro w hSw; (try dsimp only at hSw); go_simp; try (with_reducible rfl))
        try simp only [Act.put, List.setIfInBounds_toArray, List.set_cons_zero, List.set_cons_succ]
        refine held_take (i := 1) (v := ?_) rfl (by kernel_rfl) (by kernel_rfl) (by kernel_rfl) (fun _ _ _ h => h) (by rfl) hHeld ?_ ?_
        rotate_left 1
        · (intro w hSw; (try dsimp only at hSw); go_simp; try (with_reducible rfl))
        try simp only [Act.put, List.setIfInBounds_toArray, List.set_cons_zero, List.set_cons_succ]
        refine held_take (i := 2) (v := ?_) rfl (by kernel_rfl) (by kernel_rfl) (by kernel_rfl) (fun _ _ _ h => h) (by rfl) hHeld ?_ ?_
        rotate_left 1
        · (intro w hSw; (try dsimp only at hSw); go_simp; try (with_reducible rfl))
        try simp only [Act.put, List.setIfInBounds_toArray, List.set_cons_zero, List.set_cons_succ]
        refine held_take (i := 3) (v := ?_) rfl (by kernel_rfl) (by kernel_rfl) (by kernel_rfl) (fun _ _ _ h => h) (by rfl) hHeld ?_ ?_
        rotate_left 1
        · (intro w hSw; (try dsimp only at hSw); go_simp; try (with_reducible rfl))
        try simp only [Act.put, List.setIfInBounds_toArray, List.set_cons_zero, List.set_cons_succ]
        refine held_take (i := 4) (v := ?_) rfl (by kernel_rfl) (by kernel_rfl) (by kernel_rfl) (fun _ _ _ h => h) (by rfl) hHeld ?_ ?_
        rotate_left 1
        · (intro w hSw; (try dsimp only at hSw); go_simp; try (with_reducible rfl))
        try simp only [Act.put, List.setIfInBounds_toArray, List.set_cons_zero, List.set_cons_succ]
        refine held_take (i := 5) (v := ?_) rfl (by kernel_rfl) (by kernel_rfl) (by kernel_rfl) (fun _ _ _ h => h) (by rfl) hHeld ?_ ?_
        rotate_left 1
        · (intro w hSw; (try dsimp only at hSw); go_simp; try (with_reducible rfl))
        try simp only [Act.put, List.setIfInBounds_toArray, List.set_cons_zero, List.set_cons_succ]
        refine held_take (i := 6) (v := ?_) rfl (by kernel_rfl) (by kernel_rfl) (by kernel_rfl) (fun _ _ _ h => h) (by rfl) hHeld ?_ ?_
        rotate_left 1
        · (intro w hSw; (try dsimp only at hSw); go_simp; try (with_reducible rfl))
        try simp only [Act.put, List.setIfInBounds_toArray, List.set_cons_zero, List.set_cons_succ]
        refine held_take (i := 7) (v := ?_) rfl (by kernel_rfl) (by kernel_rfl) (by kernel_rfl) (fun _ _ _ h => h) (by rfl) hHeld ?_ ?_
        rotate_left 1
        · (intro w hSw; (try dsimp only at hSw); go_simp; try (with_reducible rfl))
        try simp only [Act.put, List.setIfInBounds_toArray, List.set_cons_zero, List.set_cons_succ]
        refine held_take (i := 8) (v := ?_) rfl (by kernel_rfl) (by kernel_rfl) (by kernel_rfl) (fun _ _ _ h => h) (by rfl) hHeld ?_ ?_
        rotate_left 1
        · (intro w hSw; (try dsimp only at hSw); go_simp; try (with_reducible rfl))
        try simp only [Act.put, List.setIfInBounds_toArray, List.set_cons_zero, List.set_cons_succ]
        refine held_take (i := 9) (v := ?_) rfl (by kernel_rfl) (by kernel_rfl) (by kernel_rfl) (fun _ _ _ h => h) (by rfl) hHeld ?_ ?_
        rotate_left 1
        · (intro w hSw; (try dsimp only at hSw); go_simp; try (with_reducible rfl))
        try simp only [Act.put, List.setIfInBounds_toArray, List.set_cons_zero, List.set_cons_succ]
        refine held_take (i := 10) (v := ?_) rfl (by kernel_rfl) (by kernel_rfl) (by kernel_rfl) (fun _ _ _ h => h) (by rfl) hHeld ?_ ?_
        rotate_left 1
        · (intro w hSw; (try dsimp only at hSw); go_simp; try (with_reducible rfl))
        try simp only [Act.put, List.setIfInBounds_toArray, List.set_cons_zero, List.set_cons_succ]
        refine held_take (i := 11) (v := ?_) rfl (by kernel_rfl) (by kernel_rfl) (by kernel_rfl) (fun _ _ _ h => h) (by rfl) hHeld ?_ ?_
        rotate_left 1
        · (intro w hSw; (try dsimp only at hSw); go_simp; try (with_reducible rfl))
        try simp only [Act.put, List.setIfInBounds_toArray, List.set_cons_zero, List.set_cons_succ]
        refine held_take (i := 12) (v := ?_) rfl (by kernel_rfl) (by kernel_rfl) (by kernel_rfl) (fun _ _ _ h => h) (by rfl) hHeld ?_ ?_
        rotate_left 1
        · (intro w hSw; (try dsimp only at hSw); go_simp; try (with_reducible rfl))
        try simp only [Act.put, List.setIfInBounds_toArray, List.set_cons_zero, List.set_cons_succ]
        refine wpAnyH_done (by kernel_rfl) ?_ _
        go_wp2_with fail
        go_meet
        exact ⟨by rw [hin], rfl⟩
      · have hd0 : decide (kP ≥ 0) = false := decide_eq_false h0
        clear hno
        refine wp_region_held_drew (S := fun w' => w'.cell? ⟨ob, 1, none⟩ = some (.int .i64 kP) ∧ w'.cell? ⟨Bb, 0, none⟩ = some (.slice q B.length cap)) (by kernel_rfl) (And.intro o1 c0) (fun hHeld => ?_)
        refine held_take (i := 0) (v := ?_) rfl (by kernel_rfl) (by kernel_rfl) (by kernel_rfl) (fun _ _ _ h => h) (by rfl) hHeld ?_ ?_
        rotate_left 1
        · (intro w hSw; (try dsimp only at hSw); go_simp; try (with_reducible rfl))
        try simp only [Act.put, List.setIfInBounds_toArray, List.set_cons_zero, List.set_cons_succ]
        refine held_take (i := 1) (v := ?_) rfl (by kernel_rfl) (by kernel_rfl) (by kernel_rfl) (fun _ _ _ h => h) (by rfl) hHeld ?_ ?_
        rotate_left 1
        · (intro w hSw; (try dsimp only at hSw); go_simp; try (with_reducible rfl))
        try simp only [Act.put, List.setIfInBounds_toArray, List.set_cons_zero, List.set_cons_succ]
        refine held_take (i := 2) (v := ?_) rfl (by kernel_rfl) (by kernel_rfl) (by kernel_rfl) (fun _ _ _ h => h) (by rfl) hHeld ?_ ?_
        rotate_left 1
        · (intro w hSw; (try dsimp only at hSw); go_simp; try (with_reducible rfl))
        try simp only [Act.put, List.setIfInBounds_toArray, List.set_cons_zero, List.set_cons_succ]
        refine held_take (i := 3) (v := ?_) rfl (by kernel_rfl) (by kernel_rfl) (by kernel_rfl) (fun _ _ _ h => h) (by rfl) hHeld ?_ ?_
        rotate_left 1
        · (intro w hSw; (try dsimp only at hSw); go_simp; try (with_reducible rfl))
        try simp only [Act.put, List.setIfInBounds_toArray, List.set_cons_zero, List.set_cons_succ]
        refine held_off (i := 4) rfl (by kernel_rfl) (by kernel_rfl) (by kernel_rfl) (fun _ _ _ h => h) (by rfl) hHeld ?_
        try simp only [Act.put, List.setIfInBounds_toArray, List.set_cons_zero, List.set_cons_succ]
        refine held_off (i := 5) rfl (by kernel_rfl) (by kernel_rfl) (by kernel_rfl) (fun _ _ _ h => h) (by rfl) hHeld ?_
        try simp only [Act.put, List.setIfInBounds_toArray, List.set_cons_zero, List.set_cons_succ]
        refine held_off (i := 6) rfl (by kernel_rfl) (by kernel_rfl) (by kernel_rfl) (fun _ _ _ h => h) (by rfl) hHeld ?_
        try simp only [Act.put, List.setIfInBounds_toArray, List.set_cons_zero, List.set_cons_succ]
        refine held_off (i := 7) rfl (by kernel_rfl) (by kernel_rfl) (by kernel_rfl) (fun _ _ _ h => h) (by rfl) hHeld ?_
        try simp only [Act.put, List.setIfInBounds_toArray, List.set_cons_zero, List.set_cons_succ]
        refine held_off (i := 8) rfl (by kernel_rfl) (by kernel_rfl) (by kernel_rfl) (fun _ _ _ h => h) (by rfl) hHeld ?_
        try simp only [Act.put, List.setIfInBounds_toArray, List.set_cons_zero, List.set_cons_succ]
        refine held_off (i := 9) rfl (by kernel_rfl) (by kernel_rfl) (by kernel_rfl) (fun _ _ _ h => h) (by rfl) hHeld ?_
        try simp only [Act.put, List.setIfInBounds_toArray, List.set_cons_zero, List.set_cons_succ]
        refine held_off (i := 10) rfl (by kernel_rfl) (by kernel_rfl) (by kernel_rfl) (fun _ _ _ h => h) (by rfl) hHeld ?_
        try simp only [Act.put, List.setIfInBounds_toArray, List.set_cons_zero, List.set_cons_succ]
        refine held_off (i := 11) rfl (by kernel_rfl) (by kernel_rfl) (by kernel_rfl) (fun _ _ _ h => h) (by rfl) hHeld ?_
        try simp only [Act.put, List.setIfInBounds_toArray, List.set_cons_zero, List.set_cons_succ]
        refine held_take (i := 12) (v := ?_) rfl (by kernel_rfl) (by kernel_rfl) (by kernel_rfl) (fun _ _ _ h => h) (by rfl) hHeld ?_ ?_
        rotate_left 1
        · (intro w hSw; (try dsimp only at hSw); go_simp; try (with_reducible rfl))
        try simp only [Act.put, List.setIfInBounds_toArray, List.set_cons_zero, List.set_cons_succ]
        refine wpAnyH_done (by kernel_rfl) ?_ _
        go_wp2_with fail
        go_meet
        exact ⟨by rw [hin], rfl⟩
    · have hl := (List.getElem?_eq_some_iff.1 hp).1
      have h0 : kP ≥ 0 := by omega
      have h1 : kP < (B.length : Int) := by omega
      clear hk hp
      refine wp_region_held_drew (S := fun w' => w'.cell? ⟨ob, 1, none⟩ = some (.int .i64 kP) ∧ w'.cell? ⟨Bb, 0, none⟩ = some (.slice q B.length cap)) (by kernel_rfl) (And.intro o1 c0) (fun hHeld => ?_)
      refine held_take (i := 0) (v := ?_) rfl (by kernel_rfl) (by kernel_rfl) (by kernel_rfl) (fun _ _ _ h => h) (by rfl) hHeld ?_ ?_
      rotate_left 1
      · (intro w hSw; (try dsimp only at hSw); go_simp; try (with_reducible rfl))
      try simp only [Act.put, List.setIfInBounds_toArray, List.set_cons_zero, List.set_cons_succ]
      refine held_take (i := 1) (v := ?_) rfl (by kernel_rfl) (by kernel_rfl) (by kernel_rfl) (fun _ _ _ h => h) (by rfl) hHeld ?_ ?_
      rotate_left 1
      · (intro w hSw; (try dsimp only at hSw); go_simp; try (with_reducible rfl))
      try simp only [Act.put, List.setIfInBounds_toArray, List.set_cons_zero, List.set_cons_succ]
      refine held_take (i := 2) (v := ?_) rfl (by kernel_rfl) (by kernel_rfl) (by kernel_rfl) (fun _ _ _ h => h) (by rfl) hHeld ?_ ?_
      rotate_left 1
      · (intro w hSw; (try dsimp only at hSw); go_simp; try (with_reducible rfl))
      try simp only [Act.put, List.setIfInBounds_toArray, List.set_cons_zero, List.set_cons_succ]
      refine held_take (i := 3) (v := ?_) rfl (by kernel_rfl) (by kernel_rfl) (by kernel_rfl) (fun _ _ _ h => h) (by rfl) hHeld ?_ ?_
      rotate_left 1
      · (intro w hSw; (try dsimp only at hSw); go_simp; try (with_reducible rfl))
      try simp only [Act.put, List.setIfInBounds_toArray, List.set_cons_zero, List.set_cons_succ]
      refine held_take (i := 4) (v := ?_) rfl (by kernel_rfl) (by kernel_rfl) (by kernel_rfl) (fun _ _ _ h => h) (by rfl) hHeld ?_ ?_
      rotate_left 1
      · (intro w hSw; (try dsimp only at hSw); go_simp; try (with_reducible rfl))
      try simp only [Act.put, List.setIfInBounds_toArray, List.set_cons_zero, List.set_cons_succ]
      refine held_take (i := 5) (v := ?_) rfl (by kernel_rfl) (by kernel_rfl) (by kernel_rfl) (fun _ _ _ h => h) (by rfl) hHeld ?_ ?_
      rotate_left 1
      · (intro w hSw; (try dsimp only at hSw); go_simp; try (with_reducible rfl))
      try simp only [Act.put, List.setIfInBounds_toArray, List.set_cons_zero, List.set_cons_succ]
      refine held_take (i := 6) (v := ?_) rfl (by kernel_rfl) (by kernel_rfl) (by kernel_rfl) (fun _ _ _ h => h) (by rfl) hHeld ?_ ?_
      rotate_left 1
      · (intro w hSw; (try dsimp only at hSw); go_simp; try (with_reducible rfl))
      try simp only [Act.put, List.setIfInBounds_toArray, List.set_cons_zero, List.set_cons_succ]
      refine held_take (i := 7) (v := ?_) rfl (by kernel_rfl) (by kernel_rfl) (by kernel_rfl) (fun _ _ _ h => h) (by rfl) hHeld ?_ ?_
      rotate_left 1
      · (intro w hSw; (try dsimp only at hSw); go_simp; try (with_reducible rfl))
      try simp only [Act.put, List.setIfInBounds_toArray, List.set_cons_zero, List.set_cons_succ]
      refine held_take (i := 8) (v := ?_) rfl (by kernel_rfl) (by kernel_rfl) (by kernel_rfl) (fun _ _ _ h => h) (by rfl) hHeld ?_ ?_
      rotate_left 1
      · (intro w hSw; (try dsimp only at hSw); go_simp; try (with_reducible rfl))
      try simp only [Act.put, List.setIfInBounds_toArray, List.set_cons_zero, List.set_cons_succ]
      refine held_take (i := 9) (v := ?_) rfl (by kernel_rfl) (by kernel_rfl) (by kernel_rfl) (fun _ _ _ h => h) (by rfl) hHeld ?_ ?_
      rotate_left 1
      · (intro w hSw; (try dsimp only at hSw); go_simp; try (with_reducible rfl))
      try simp only [Act.put, List.setIfInBounds_toArray, List.set_cons_zero, List.set_cons_succ]
      refine held_take (i := 10) (v := ?_) rfl (by kernel_rfl) (by kernel_rfl) (by kernel_rfl) (fun _ _ _ h => h) (by rfl) hHeld ?_ ?_
      rotate_left 1
      · (intro w hSw; (try dsimp only at hSw); go_simp; try (with_reducible rfl))
      try simp only [Act.put, List.setIfInBounds_toArray, List.set_cons_zero, List.set_cons_succ]
      refine held_take (i := 11) (v := ?_) rfl (by kernel_rfl) (by kernel_rfl) (by kernel_rfl) (fun _ _ _ h => h) (by rfl) hHeld ?_ ?_
      rotate_left 1
      · (intro w hSw; (try dsimp only at hSw); go_simp; try (with_reducible rfl))
      try simp only [Act.put, List.setIfInBounds_toArray, List.set_cons_zero, List.set_cons_succ]
      refine held_take (i := 12) (v := ?_) rfl (by kernel_rfl) (by kernel_rfl) (by kernel_rfl) (fun _ _ _ h => h) (by rfl) hHeld ?_ ?_
      rotate_left 1
      · (intro w hSw; (try dsimp only at hSw); go_simp; try (with_reducible rfl))
      try simp only [Act.put, List.setIfInBounds_toArray, List.set_cons_zero, List.set_cons_succ]
      refine wpAnyH_done (by kernel_rfl) ?_ _
      go_wp2_with fail
      go_meet
      exact ⟨by rw [hin], rfl⟩
  case rest =>
    obtain ⟨rfl, rfl⟩ := hcut
    have hoc := HF1.out.own (m0 _ _)
    have p0 : w1.drew.cell? ⟨ob, 0, none⟩ = some (.int .i64 3) := (cell_of_row _ _ _ _ _ _ hoc).trans rfl
    have p1 : w1.drew.cell? ⟨ob, 1, none⟩ = some (.int .i64 kP) := (cell_of_row _ _ _ _ _ _ hoc).trans rfl
    have hbm := HO.out.bm (fun x hx => List.mem_cons_of_mem _ hx) HF1.out
    have c0' := hbm.c0
    obtain ⟨q', cap', hv', hrow'⟩ := hbm.row
    obtain ⟨rfl, _, rfl⟩ : q = q' ∧ True ∧ cap = cap' := by injection hv' with e1 e2 e3; exact ⟨e1, trivial, e3⟩
    clear HRow
    have HRow := Lib.hid hrow'
    clear hrow' hv' hbm hoc o0 o1 c0
    generalize w1.drew = W at *
    clear w1
    go_upto_if 31 with fail
    go_cut [7, 8] from 32 to 41 (fun s7 s8 wx => s7 = .int .i64 Z ∧ s8 = .int .i64 X ∧ wx = W)
    case first =>
      rcases HPre.out with ⟨rfl, _, rfl, rfl, _⟩ | ⟨k, p, rfl, hp, rfl, rfl, rfl, _⟩
      · go_wp2_with fail
        go_meet
        exact ⟨rfl, rfl, rfl⟩
      · have hl := (List.getElem?_eq_some_iff.1 hp).1
        have h1 : (k : Int) < (B.length : Int) := by omega
        obtain ⟨b, rfl, _, hcell⟩ := HRow.out k p hp
        have cr : W.cell? ⟨b, k * 38, none⟩ = some (.int .i64 ((k : Int) + 1)) := (hcell 0 (by omega)).trans rfl
        clear hcell hp
        go_wp2_with fail
        go_meet
        exact ⟨rfl, rfl, rfl⟩
    case rest =>
      obtain ⟨rfl, rfl, rfl⟩ := hcut
      go_upto_region 6 with fail
      go_cut [9] from 42 to 54 (fun s9 wx => s9 = .bool bb ∧ wx = wc)
      case first =>
        rcases HPre.out with ⟨rfl, _, rfl, rfl, rfl⟩ | ⟨k, p, rfl, hp, rfl, rfl, rfl, hbb⟩
        · go_wp2_with fail
          go_meet
          exact ⟨rfl, rfl⟩
        · have hl := (List.getElem?_eq_some_iff.1 hp).1
          have h1 : (k : Int) < (B.length : Int) := by omega
          obtain ⟨b, rfl, _, hcell⟩ := HRow.out k p hp
          have cr : wc.cell? ⟨b, k * 38 + 1, none⟩ = some (.int .i64 p.r) := (hcell 1 (by omega)).trans rfl
          have HBB := Lib.hid hbb
          generalize p.r = r at *
          clear hcell hp hbb
          go_wp2_with fail
          go_meet
          exact ⟨by rw [HBB.out], rfl⟩
      case rest =>
        obtain ⟨rfl, rfl⟩ := hcut
        by_cases hbb : bb = true
        · subst hbb
          obtain ⟨k, p, hp, hpr, rfl, rfl⟩ := HPre.out.on
          obtain ⟨b, o, cap2, hv, hR, hOO⟩ := HO.out.row hp
          obtain ⟨rfl, _, rfl⟩ : q = some ⟨b, 0, none⟩ ∧ True ∧ cap = cap2 := by injection hv with e1 e2 e3; exact ⟨e1, trivial, e3⟩
          subst hOO
          have HR := Lib.hid hR
          have HPp := Lib.hid hp
          have HPr := Lib.hid hpr
          have hl := (List.getElem?_eq_some_iff.1 hp).1
          have hkl : (k : Int) < (B.length : Int) := by omega
          have hk60 : k < 60 := by omega
          have hr60 : p.r ≤ 60 := by have := (HS.out.each k p hp).2; have := HHm.out; omega
          have HG := Lib.hid (HS.out.each k p hp).1
          obtain ⟨r, hr⟩ : ∃ r, r = p.r := ⟨_, rfl⟩
          have HrP := Lib.hid hr
          rw [← hr] at hpr hr60
          clear hv hR HRow HPre
          have HQ := Lib.hid (b_drop HF1.out hB60 hp HPr.out (by rw [← hr]; exact hr60) ((k : Int) + 1) rfl)
          clear hr hp
          go_wp2_with (go_at_call 20; (with_reducible refine HQ.out.mono ?_); rintro e w4 ⟨rfl, E⟩; have HF4 := Lib.hid E; have cb0 : w4.cell? ⟨Bb, 0, none⟩ = some (.slice (some ⟨b, 0, none⟩) B.length cap) := (cell_of_row _ _ _ _ _ _ (E.own (m2 _ _ _ _))).trans rfl; have cr : w4.cell? ⟨b, k * 38 + 1, none⟩ = some (.int .i64 r) := (HR.out.cell (E.own (m1 _ _ _)) _ _ (picsL_at B k p HPp.out 1 (by omega))).trans (by rw [HrP.out]; rfl); have fz := HR.out.fz (E.own (m1 _ _ _)) (k * 38 + 1); clear E)
          go_ret
          obtain ⟨o', R', F'⟩ := Frm.rowset HF4.out.less HR.out (k * 38 + 1) (.int .i64 (r - 1))
          rw [picsL_r B k p HPp.out] at R'
          obtain rfl : r = p.r := HrP.out
          exact ⟨rfl, B.set k ⟨p.r - 1, p.g, p.pn⟩, n, _, _, .inr ⟨b, o', by rw [List.length_set]; exact R', rfl⟩, HS.out.set HPp.out _ HG.out (by have := (HS.out.each k p HPp.out).2; show p.r - 1 ≤ (m : Int) + 1; omega) (by omega), F'⟩
        · obtain rfl : bb = false := by simpa using hbb
          have HQ := Lib.hid (b_dropno HF1.out X (HPre.out.off hB60))
          clear HPre HRow
          go_wp2_with (go_at_call 20; (with_reducible refine HQ.out.mono ?_); rintro e w4 ⟨rfl, E⟩; have HF4 := Lib.hid E; clear E)
          go_ret
          exact ⟨rfl, B, n, _, _, HO.out, HS.out.more, HF4.out.less⟩
end Go.Proofs.Ytkmkjfbbpeocdaa
