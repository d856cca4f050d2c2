/- SnapAll: do, Fork. -/
import Derived.Test.YtkmkjfbbpeocdaaYl
import Derived.Test.YtkmkjfbbpeocdaaWw
import Derived.Deep.DeepCutAuto
import Derived.Deep.CutBlock
namespace Go.Proofs.Ytkmkjfbbpeocdaa
set_option maxRecDepth 100000
open Go.RowKit Go.Maps
set_option linter.unusedVariables false
set_option linter.unusedSimpArgs false

set_option maxHeartbeats 16000000 in
theorem do_fork (w0 w : World) (S P A M Bb : Nat) (N : Int) (m : Nat) (hm : m < 50) (hN : 0 ≤ N ∧ N ≤ 200) (D : DoR w0 w S P A M Bb N m) (kP kc kv : Int) (hP : rng kP) (hc : rng kc) (L : Value) :
    Calls Try.prog 13 #[.pointer (some ⟨Bb, 0, none⟩), .pointer (some ⟨S, 0, none⟩), .agg #[.int .i64 1, .int .i64 kP, .int .i64 kc, .int .i32 kv, L]] w fun e w' => e = .returned (.bool true) ∧ DoR w0 w' S P A M Bb N (m + 1) := by
  obtain ⟨B, n, v, O, hO, hS, hF⟩ := D
  have hB60 : B.length ≤ 60 := by have := hS.len; omega
  have hn200 : n ≤ 200 := by have := hS.nx; omega
  have HHN := Lib.hid hN
  obtain ⟨Z, X, inr, bb, hpre⟩ := preB B kP
  have HPre := Lib.hid hpre
  have HO := Lib.hid hO
  have HS := Lib.hid hS
  have HHm := Lib.hid hm
  have hF1 := hF.new (w' := w.alloc (.cells #[.int .i64 1, .int .i64 kP, .int .i64 kc, .int .i32 kv, L] 33)) ((Below.refl _ w).alloc (Nat.le_refl _) _) w.heap.size (opO 1 kP kc kv L) (Nat.le_refl _) (heap_alloc_last w _)
  clear hO hS hF hpre hm hN
  go_enter Try.func13, Try.ntmps13
  go_upto_region 3 with fail
  obtain ⟨w1, hw1⟩ : ∃ w1, w1 = w.alloc (.cells #[.int .i64 1, .int .i64 kP, .int .i64 kc, .int .i32 kv, L] 33) := ⟨_, rfl⟩
  obtain ⟨ob, hob⟩ : ∃ ob, ob = w.heap.size := ⟨_, rfl⟩
  rw [← hw1, ← hob] at hF1
  try rw [← hw1]
  try rw [← hob]
  clear hw1 hob
  have HF1 := Lib.hid (Frm.drew hF1)
  have hoc := hF1.own (m0 _ _)
  have o0 : w1.cell? ⟨ob, 0, none⟩ = some (.int .i64 1) := (cell_of_row _ _ _ _ _ _ hoc).trans rfl
  have o1 : w1.cell? ⟨ob, 1, none⟩ = some (.int .i64 kP) := (cell_of_row _ _ _ _ _ _ hoc).trans rfl
  have hbm := HO.out.bm (fun x hx => List.mem_cons_of_mem _ hx) hF1
  have c0 := hbm.c0
  obtain ⟨q, cap, rfl, hrow⟩ := hbm.row
  have HRow := Lib.hid hrow
  clear hbm hrow hF1 hoc
  go_cut [31] from 19 to 31 (fun s31 wx => s31 = .bool inr ∧ wx = w1.drew)
  case first =>
    rcases HPre.out with ⟨hin, hno, _⟩ | ⟨k, p, hin, hp, hk, _⟩
    · by_cases h0 : kP ≥ 0
      · have h1 : ¬ kP < B.length := by omega
        have hd1 : decide (kP < (B.length : Int)) = false := decide_eq_false h1
        clear hno
        refine wp_region_held_drew (S := fun w' => w'.cell? ⟨ob, 1, none⟩ = some (.int .i64 kP) ∧ w'.cell? ⟨Bb, 0, none⟩ = some (.slice q B.length cap)) (by kernel_rfl) (And.intro o1 c0) (fun hHeld => ?_)
        refine held_take (i := 0) (v := ?_) rfl (by kernel_rfl) (by kernel_rfl) (by kernel_rfl) (fun _ _ _ h => h) (by rfl) hHeld ?_ ?_
        rotate_left 1
        · (intro w hSw; (try dsimp only at hSw); go_simp; try (with_reducible rfl))
        try simp only [Act.put, List.setIfInBounds_toArray, List.set_cons_zero, List.set_cons_succ]
        refine held_take (i := 1) (v := ?_) rfl (by kernel_rfl) (by kernel_rfl) (by kernel_rfl) (fun _ _ _ h => h) (by rfl) hHeld ?_ ?_
        rotate_left 1
        · (intro w hSw; (try dsimp only at hSw); go_simp; try (with_reducible rfl))
        try simp only [Act.put, List.setIfInBounds_toArray, List.set_cons_zero, List.set_cons_succ]
        refine held_take (i := 2) (v := ?_) rfl (by kernel_rfl) (by kernel_rfl) (by kernel_rfl) (fun _ _ _ h => h) (by rfl) hHeld ?_ ?_
        rotate_left 1
        · (intro w hSw; (try dsimp only at hSw); go_simp; try (with_reducible rfl))
        try simp only [Act.put, List.setIfInBounds_toArray, List.set_cons_zero, List.set_cons_succ]
        refine held_take (i := 3) (v := ?_) rfl (by kernel_rfl) (by kernel_rfl) (by kernel_rfl) (fun _ _ _ h => h) (by rfl) hHeld ?_ ?_
        rotate_left 1
        · (intro w hSw; (try dsimp only at hSw); go_simp; try (with_reducible rfl))
        try simp only [Act.put, List.setIfInBounds_toArray, List.set_cons_zero, List.set_cons_succ]
        refine held_take (i := 4) (v := ?_) rfl (by kernel_rfl) (by kernel_rfl) (by kernel_rfl) (fun _ _ _ h => h) (by rfl) hHeld ?_ ?_
        rotate_left 1
        · (intro w hSw; (try dsimp only at hSw); go_simp; try (with_reducible rfl))
        try simp only [Act.put, List.setIfInBounds_toArray, List.set_cons_zero, List.set_cons_succ]
        refine held_take (i := 5) (v := ?_) rfl (by kernel_rfl) (by kernel_rfl) (by kernel_rfl) (fun _ _ _ h => h) (by rfl) hHeld ?_ ?_
        rotate_left 1
        · (intro w hSw; (try dsimp only at hSw); go_simp; try (with_reducible rfl))
        try simp only [Act.put, List.setIfInBounds_toArray, List.set_cons_zero, List.set_cons_succ]
        refine held_take (i := 6) (v := ?_) rfl (by kernel_rfl) (by kernel_rfl) (by kernel_rfl) (fun _ _ _ h => h) (by rfl) hHeld ?_ ?_
        rotate_left 1
        · (intro w hSw; (try dsimp only at hSw); go_simp; try (with_reducible rfl))
        try simp only [Act.put, List.setIfInBounds_toArray, List.set_cons_zero, List.set_cons_succ]
        refine held_take (i := 7) (v := ?_) rfl (by kernel_rfl) (by kernel_rfl) (by kernel_rfl) (fun _ _ _ h => h) (by rfl) hHeld ?_ ?_
        rotate_left 1
        · (intro w hSw; (try dsimp only at hSw); go_simp; try (with_reducible rfl))
        try simp only [Act.put, List.setIfInBounds_toArray, List.set_cons_zero, List.set_cons_succ]
        refine held_take (i := 8) (v := ?_) rfl (by kernel_rfl) (by kernel_rfl) (by kernel_rfl) (fun _ _ _ h => h) (by rfl) hHeld ?_ ?_
        rotate_left 1
        · (intro w hSw; (try dsimp only at hSw); go_simp; try (with_reducible rfl))
        try simp only [Act.put, List.setIfInBounds_toArray, List.set_cons_zero, List.set_cons_succ]
        refine held_take (i := 9) (v := ?_) rfl (by kernel_rfl) (by kernel_rfl) (by kernel_rfl) (fun _ _ _ h => h) (by rfl) hHeld ?_ ?_
        rotate_left 1
        · (intro w hSw; (try dsimp only at hSw); go_simp; try (with_reducible rfl))
        try simp only [Act.put, List.setIfInBounds_toArray, List.set_cons_zero, List.set_cons_succ]
        refine held_take (i := 10) (v := ?_) rfl (by kernel_rfl) (by kernel_rfl) (by kernel_rfl) (fun _ _ _ h => h) (by rfl) hHeld ?_ ?_
        rotate_left 1
        · (intro w hSw; (try dsimp only at hSw); go_simp; try (with_reducible rfl))
        try simp only [Act.put, List.setIfInBounds_toArray, List.set_cons_zero, List.set_cons_succ]
        refine held_take (i := 11) (v := ?_) rfl (by kernel_rfl) (by kernel_rfl) (by kernel_rfl) (fun _ _ _ h => h) (by rfl) hHeld ?_ ?_
        rotate_left 1
        · (intro w hSw; (try dsimp only at hSw); go_simp; try (with_reducible rfl))
        try simp only [Act.put, List.setIfInBounds_toArray, List.set_cons_zero, List.set_cons_succ]
        refine held_take (i := 12) (v := ?_) rfl (by kernel_rfl) (by kernel_rfl) (by kernel_rfl) (fun _ _ _ h => h) (by rfl) hHeld ?_ ?_
        rotate_left 1
        · (intro w hSw; (try dsimp only at hSw); go_simp; try (with_reducible rfl))
        try simp only [Act.put, List.setIfInBounds_toArray, List.set_cons_zero, List.set_cons_succ]
        refine wpAnyH_done (by kernel_rfl) ?_ _
        go_wp2_with fail
        go_meet
        exact ⟨by rw [hin], rfl⟩
      · have hd0 : decide (kP ≥ 0) = false := decide_eq_false h0
        clear hno
        refine wp_region_held_drew (S := fun w' => w'.cell? ⟨ob, 1, none⟩ = some (.int .i64 kP) ∧ w'.cell? ⟨Bb, 0, none⟩ = some (.slice q B.length cap)) (by kernel_rfl) (And.intro o1 c0) (fun hHeld => ?_)
        refine held_take (i := 0) (v := ?_) rfl (by kernel_rfl) (by kernel_rfl) (by kernel_rfl) (fun _ _ _ h => h) (by rfl) hHeld ?_ ?_
        rotate_left 1
        · (intro w hSw; (try dsimp only at hSw); go_simp; try (with_reducible rfl))
        try simp only [Act.put, List.setIfInBounds_toArray, List.set_cons_zero, List.set_cons_succ]
        refine held_take (i := 1) (v := ?_) rfl (by kernel_rfl) (by kernel_rfl) (by kernel_rfl) (fun _ _ _ h => h) (by rfl) hHeld ?_ ?_
        rotate_left 1
        · (intro w hSw; (try dsimp only at hSw); go_simp; try (with_reducible rfl))
        try simp only [Act.put, List.setIfInBounds_toArray, List.set_cons_zero, List.set_cons_succ]
        refine held_take (i := 2) (v := ?_) rfl (by kernel_rfl) (by kernel_rfl) (by kernel_rfl) (fun _ _ _ h => h) (by rfl) hHeld ?_ ?_
        rotate_left 1
        · (intro w hSw; (try dsimp only at hSw); go_simp; try (with_reducible rfl))
        try simp only [Act.put, List.setIfInBounds_toArray, List.set_cons_zero, List.set_cons_succ]
        refine held_take (i := 3) (v := ?_) rfl (by kernel_rfl) (by kernel_rfl) (by kernel_rfl) (fun _ _ _ h => h) (by rfl) hHeld ?_ ?_
        rotate_left 1
        · (intro w hSw; (try dsimp only at hSw); go_simp; try (with_reducible rfl))
        try simp only [Act.put, List.setIfInBounds_toArray, List.set_cons_zero, List.set_cons_succ]
        refine held_off (i := 4) rfl (by kernel_rfl) (by kernel_rfl) (by kernel_rfl) (fun _ _ _ h => h) (by rfl) hHeld ?_
        try simp only [Act.put, List.setIfInBounds_toArray, List.set_cons_zero, List.set_cons_succ]
        refine held_off (i := 5) rfl (by kernel_rfl) (by kernel_rfl) (by kernel_rfl) (fun _ _ _ h => h) (by rfl) hHeld ?_
        try simp only [Act.put, List.setIfInBounds_toArray, List.set_cons_zero, List.set_cons_succ]
        refine held_off (i := 6) rfl (by kernel_rfl) (by kernel_rfl) (by kernel_rfl) (fun _ _ _ h => h) (by rfl) hHeld ?_
        try simp only [Act.put, List.setIfInBounds_toArray, List.set_cons_zero, List.set_cons_succ]
        refine held_off (i := 7) rfl (by kernel_rfl) (by kernel_rfl) (by kernel_rfl) (fun _ _ _ h => h) (by rfl) hHeld ?_
        try simp only [Act.put, List.setIfInBounds_toArray, List.set_cons_zero, List.set_cons_succ]
        refine held_off (i := 8) rfl (by kernel_rfl) (by kernel_rfl) (by kernel_rfl) (fun _ _ _ h => h) (by rfl) hHeld ?_
        try simp only [Act.put, List.setIfInBounds_toArray, List.set_cons_zero, List.set_cons_succ]
        refine held_off (i := 9) rfl (by kernel_rfl) (by kernel_rfl) (by kernel_rfl) (fun _ _ _ h => h) (by rfl) hHeld ?_
        try simp only [Act.put, List.setIfInBounds_toArray, List.set_cons_zero, List.set_cons_succ]
        refine held_off (i := 10) rfl (by kernel_rfl) (by kernel_rfl) (by kernel_rfl) (fun _ _ _ h => h) (by rfl) hHeld ?_
        try simp only [Act.put, List.setIfInBounds_toArray, List.set_cons_zero, List.set_cons_succ]
        refine held_off (i := 11) rfl (by kernel_rfl) (by kernel_rfl) (by kernel_rfl) (fun _ _ _ h => h) (by rfl) hHeld ?_
        try simp only [Act.put, List.setIfInBounds_toArray, List.set_cons_zero, List.set_cons_succ]
        refine held_take (i := 12) (v := ?_) rfl (by kernel_rfl) (by kernel_rfl) (by kernel_rfl) (fun _ _ _ h => h) (by rfl) hHeld ?_ ?_
        rotate_left 1
        · (intro w hSw; (try dsimp only at hSw); go_simp; try (with_reducible rfl))
        try simp only [Act.put, List.setIfInBounds_toArray, List.set_cons_zero, List.set_cons_succ]
        refine wpAnyH_done (by kernel_rfl) ?_ _
        go_wp2_with fail
        go_meet
        exact ⟨by rw [hin], rfl⟩
    · have hl := (List.getElem?_eq_some_iff.1 hp).1
      have h0 : kP ≥ 0 := by omega
      have h1 : kP < (B.length : Int) := by omega
      clear hk hp
      refine wp_region_held_drew (S := fun w' => w'.cell? ⟨ob, 1, none⟩ = some (.int .i64 kP) ∧ w'.cell? ⟨Bb, 0, none⟩ = some (.slice q B.length cap)) (by kernel_rfl) (And.intro o1 c0) (fun hHeld => ?_)
      refine held_take (i := 0) (v := ?_) rfl (by kernel_rfl) (by kernel_rfl) (by kernel_rfl) (fun _ _ _ h => h) (by rfl) hHeld ?_ ?_
      rotate_left 1
      · (intro w hSw; (try dsimp only at hSw); go_simp; try (with_reducible rfl))
      try simp only [Act.put, List.setIfInBounds_toArray, List.set_cons_zero, List.set_cons_succ]
      refine held_take (i := 1) (v := ?_) rfl (by kernel_rfl) (by kernel_rfl) (by kernel_rfl) (fun _ _ _ h => h) (by rfl) hHeld ?_ ?_
      rotate_left 1
      · (intro w hSw; (try dsimp only at hSw); go_simp; try (with_reducible rfl))
      try simp only [Act.put, List.setIfInBounds_toArray, List.set_cons_zero, List.set_cons_succ]
      refine held_take (i := 2) (v := ?_) rfl (by kernel_rfl) (by kernel_rfl) (by kernel_rfl) (fun _ _ _ h => h) (by rfl) hHeld ?_ ?_
      rotate_left 1
      · (intro w hSw; (try dsimp only at hSw); go_simp; try (with_reducible rfl))
      try simp only [Act.put, List.setIfInBounds_toArray, List.set_cons_zero, List.set_cons_succ]
      refine held_take (i := 3) (v := ?_) rfl (by kernel_rfl) (by kernel_rfl) (by kernel_rfl) (fun _ _ _ h => h) (by rfl) hHeld ?_ ?_
      rotate_left 1
      · (intro w hSw; (try dsimp only at hSw); go_simp; try (with_reducible rfl))
      try simp only [Act.put, List.setIfInBounds_toArray, List.set_cons_zero, List.set_cons_succ]
      refine held_take (i := 4) (v := ?_) rfl (by kernel_rfl) (by kernel_rfl) (by kernel_rfl) (fun _ _ _ h => h) (by rfl) hHeld ?_ ?_
      rotate_left 1
      · (intro w hSw; (try dsimp only at hSw); go_simp; try (with_reducible rfl))
      try simp only [Act.put, List.setIfInBounds_toArray, List.set_cons_zero, List.set_cons_succ]
      refine held_take (i := 5) (v := ?_) rfl (by kernel_rfl) (by kernel_rfl) (by kernel_rfl) (fun _ _ _ h => h) (by rfl) hHeld ?_ ?_
      rotate_left 1
      · (intro w hSw; (try dsimp only at hSw); go_simp; try (with_reducible rfl))
      try simp only [Act.put, List.setIfInBounds_toArray, List.set_cons_zero, List.set_cons_succ]
      refine held_take (i := 6) (v := ?_) rfl (by kernel_rfl) (by kernel_rfl) (by kernel_rfl) (fun _ _ _ h => h) (by rfl) hHeld ?_ ?_
      rotate_left 1
      · (intro w hSw; (try dsimp only at hSw); go_simp; try (with_reducible rfl))
      try simp only [Act.put, List.setIfInBounds_toArray, List.set_cons_zero, List.set_cons_succ]
      refine held_take (i := 7) (v := ?_) rfl (by kernel_rfl) (by kernel_rfl) (by kernel_rfl) (fun _ _ _ h => h) (by rfl) hHeld ?_ ?_
      rotate_left 1
      · (intro w hSw; (try dsimp only at hSw); go_simp; try (with_reducible rfl))
      try simp only [Act.put, List.setIfInBounds_toArray, List.set_cons_zero, List.set_cons_succ]
      refine held_take (i := 8) (v := ?_) rfl (by kernel_rfl) (by kernel_rfl) (by kernel_rfl) (fun _ _ _ h => h) (by rfl) hHeld ?_ ?_
      rotate_left 1
      · (intro w hSw; (try dsimp only at hSw); go_simp; try (with_reducible rfl))
      try simp only [Act.put, List.setIfInBounds_toArray, List.set_cons_zero, List.set_cons_succ]
      refine held_take (i := 9) (v := ?_) rfl (by kernel_rfl) (by kernel_rfl) (by kernel_rfl) (fun _ _ _ h => h) (by rfl) hHeld ?_ ?_
      rotate_left 1
      · (intro w hSw; (try dsimp only at hSw); go_simp; try (with_reducible rfl))
      try simp only [Act.put, List.setIfInBounds_toArray, List.set_cons_zero, List.set_cons_succ]
      refine held_take (i := 10) (v := ?_) rfl (by kernel_rfl) (by kernel_rfl) (by kernel_rfl) (fun _ _ _ h => h) (by rfl) hHeld ?_ ?_
      rotate_left 1
      · (intro w hSw; (try dsimp only at hSw); go_simp; try (with_reducible rfl))
      try simp only [Act.put, List.setIfInBounds_toArray, List.set_cons_zero, List.set_cons_succ]
      refine held_take (i := 11) (v := ?_) rfl (by kernel_rfl) (by kernel_rfl) (by kernel_rfl) (fun _ _ _ h => h) (by rfl) hHeld ?_ ?_
      rotate_left 1
      · (intro w hSw; (try dsimp only at hSw); go_simp; try (with_reducible rfl))
      try simp only [Act.put, List.setIfInBounds_toArray, List.set_cons_zero, List.set_cons_succ]
      refine held_take (i := 12) (v := ?_) rfl (by kernel_rfl) (by kernel_rfl) (by kernel_rfl) (fun _ _ _ h => h) (by rfl) hHeld ?_ ?_
      rotate_left 1
      · (intro w hSw; (try dsimp only at hSw); go_simp; try (with_reducible rfl))
      try simp only [Act.put, List.setIfInBounds_toArray, List.set_cons_zero, List.set_cons_succ]
      refine wpAnyH_done (by kernel_rfl) ?_ _
      go_wp2_with fail
      go_meet
      exact ⟨by rw [hin], rfl⟩
  case rest =>
    obtain ⟨rfl, rfl⟩ := hcut
    have hoc := HF1.out.own (m0 _ _)
    have p0 : w1.drew.cell? ⟨ob, 0, none⟩ = some (.int .i64 1) := (cell_of_row _ _ _ _ _ _ hoc).trans rfl
    have p1 : w1.drew.cell? ⟨ob, 1, none⟩ = some (.int .i64 kP) := (cell_of_row _ _ _ _ _ _ hoc).trans rfl
    have hbm := HO.out.bm (fun x hx => List.mem_cons_of_mem _ hx) HF1.out
    have c0' := hbm.c0
    obtain ⟨q', cap', hv', hrow'⟩ := hbm.row
    obtain ⟨rfl, _, rfl⟩ : q = q' ∧ True ∧ cap = cap' := by injection hv' with e1 e2 e3; exact ⟨e1, trivial, e3⟩
    clear HRow
    have HRow := Lib.hid hrow'
    clear hrow' hv' hbm hoc o0 o1 c0
    generalize w1.drew = W at *
    clear w1
    go_upto_if 31 with fail
    go_cut [7, 8] from 32 to 41 (fun s7 s8 wx => s7 = .int .i64 Z ∧ s8 = .int .i64 X ∧ wx = W)
    case first =>
      rcases HPre.out with ⟨rfl, _, rfl, rfl, _⟩ | ⟨k, p, rfl, hp, rfl, rfl, rfl, _⟩
      · go_wp2_with fail
        go_meet
        exact ⟨rfl, rfl, rfl⟩
      · have hl := (List.getElem?_eq_some_iff.1 hp).1
        have h1 : (k : Int) < (B.length : Int) := by omega
        obtain ⟨b, rfl, _, hcell⟩ := HRow.out k p hp
        have cr : W.cell? ⟨b, k * 38, none⟩ = some (.int .i64 ((k : Int) + 1)) := (hcell 0 (by omega)).trans rfl
        clear hcell hp
        go_wp2_with fail
        go_meet
        exact ⟨rfl, rfl, rfl⟩
    case rest =>
      obtain ⟨rfl, rfl, rfl⟩ := hcut
      go_upto_region 6 with fail
      go_cut [9] from 42 to 54 (fun s9 wx => s9 = .bool bb ∧ wx = wc)
      case first =>
        rcases HPre.out with ⟨rfl, _, rfl, rfl, rfl⟩ | ⟨k, p, rfl, hp, rfl, rfl, rfl, hbb⟩
        · go_wp2_with fail
          go_meet
          exact ⟨rfl, rfl⟩
        · have hl := (List.getElem?_eq_some_iff.1 hp).1
          have h1 : (k : Int) < (B.length : Int) := by omega
          obtain ⟨b, rfl, _, hcell⟩ := HRow.out k p hp
          have cr : wc.cell? ⟨b, k * 38 + 1, none⟩ = some (.int .i64 p.r) := (hcell 1 (by omega)).trans rfl
          have HBB := Lib.hid hbb
          generalize p.r = r at *
          clear hcell hp hbb
          go_wp2_with fail
          go_meet
          exact ⟨by rw [HBB.out], rfl⟩
      case rest =>
        obtain ⟨rfl, rfl⟩ := hcut
        by_cases hbb : bb = true
        · subst hbb
          obtain ⟨k, p, hp, hpr, rfl, rfl⟩ := HPre.out.on
          obtain ⟨b, o, cap2, hv, hR, hOO⟩ := HO.out.row hp
          obtain ⟨rfl, _, rfl⟩ : q = some ⟨b, 0, none⟩ ∧ True ∧ cap = cap2 := by injection hv with e1 e2 e3; exact ⟨e1, trivial, e3⟩
          subst hOO
          have HR := Lib.hid hR
          have HPp := Lib.hid hp
          have HPr := Lib.hid hpr
          have hl := (List.getElem?_eq_some_iff.1 hp).1
          have hkl : (k : Int) < (B.length : Int) := by omega
          have hk60 : k < 60 := by omega
          have hr60 : p.r ≤ 60 := by have := (HS.out.each k p hp).2; have := HHm.out; omega
          have HG := Lib.hid (HS.out.each k p hp).1
          obtain ⟨r, hr⟩ : ∃ r, r = p.r := ⟨_, rfl⟩
          have HrP := Lib.hid hr
          rw [← hr] at hpr hr60
          clear hv hR HRow HPre
          obtain ⟨y, hy⟩ : ∃ y : Int, y = B.length + 1 := ⟨_, rfl⟩
          have HY := Lib.hid hy
          have hy0 : y > 0 := by omega
          have HQ := Lib.hid (b_fork HF1.out hB60 hp HPr.out ((k : Int) + 1) rfl y hy)
          obtain ⟨g, hg⟩ : ∃ g, g = p.g := ⟨_, rfl⟩
          obtain ⟨pn, hpn⟩ : ∃ pn, pn = p.pn := ⟨_, rfl⟩
          rw [← hg, ← hpn] at HQ
          rw [← hg] at HG
          have HGp := Lib.hid hg
          have HPn := Lib.hid hpn
          clear hr hp hy hg hpn
          go_wp2_with (go_at_call 17; (with_reducible refine HQ.out.mono ?_); rintro e w4 ⟨rfl, E⟩; have HF4 := Lib.hid E; clear E)
          have HC : Hid (∀ (u : World) (b' : Nat) (o' : Obj), Frm w0 u S P A M (QB N (B ++ [⟨1, g, pn⟩]) n) ((b', o') :: [(ob, opO 1 kP kc kv L), (Bb, bookO (.slice (some ⟨b, 0, none⟩) B.length cap) (n : Int) N)]) → u.cell? ⟨Bb, 0, none⟩ = some (.slice (some ⟨b, 0, none⟩) B.length cap)) := fun u b' o' E => (cell_of_row _ _ _ _ _ _ (E.own (m2 _ _ _ _))).trans rfl
          have hF4 : Frm w0 w4.drew S P A M (QB N (B ++ [⟨1, g, pn⟩]) n) ((b, o) :: [(ob, opO 1 kP kc kv L), (Bb, bookO (.slice (some ⟨b, 0, none⟩) B.length cap) (n : Int) N)]) := (Frm.drew HF4.out).swap
          have HF5 := Lib.hid (hF4.belows ((Below.refl _ w4.drew).alloc (Nat.le_refl _) (.cells (picA B.length ⟨1, g, pn⟩) 69)))
          have hC4 := HC.out _ _ _ hF4
          have HC5 := Lib.hid (HC.out _ _ _ HF5.out)
          have HGr : Hid (w4.drew.rangeAt b (k * 38 + 2) (gC g).toList) := by rw [HGp.out] at HG ⊢; exact row_game HR.out (hF4.own (m0 _ _)) HPp.out HG.out
          have HPg : Hid (w4.drew.rangeAt b (k * 38 + 34) (q4L pn)) := by rw [HPn.out]; exact row_pages HR.out (hF4.own (m0 _ _)) HPp.out
          clear hF4
          refine wp_region_J (s := 27) (S := fun w' => w'.cell? ⟨Bb, 0, none⟩ = some (.slice (some ⟨b, 0, none⟩) B.length cap)) (by kernel_rfl) (hC4) (fun hHeld => ?_)
          refine j_take (i := 0) (v := ?_) rfl (by kernel_rfl) (by kernel_rfl) (by kernel_rfl) (by kernel_rfl) (fun _ _ _ h => h) (by rfl) hHeld ?_ ?_
          rotate_left 1
          · (intro w hSw; (try dsimp only at hSw); go_simp; try (with_reducible rfl))
          try simp only [Act.put, List.setIfInBounds_toArray, List.set_cons_zero, List.set_cons_succ]
          refine j_take (i := 1) (v := ?_) rfl (by kernel_rfl) (by kernel_rfl) (by kernel_rfl) (by kernel_rfl) (fun _ _ _ h => h) (by rfl) hHeld ?_ ?_
          rotate_left 1
          · (intro w hSw; (try dsimp only at hSw); go_simp; try (with_reducible rfl))
          try simp only [Act.put, List.setIfInBounds_toArray, List.set_cons_zero, List.set_cons_succ]
          refine j_take (i := 2) (v := ?_) rfl (by kernel_rfl) (by kernel_rfl) (by kernel_rfl) (by kernel_rfl) (fun _ _ _ h => h) (by rfl) hHeld ?_ ?_
          rotate_left 1
          · (intro w hSw; (try dsimp only at hSw); go_simp; try (with_reducible rfl))
          try simp only [Act.put, List.setIfInBounds_toArray, List.set_cons_zero, List.set_cons_succ]
          refine j_take (i := 3) (v := ?_) rfl (by kernel_rfl) (by kernel_rfl) (by kernel_rfl) (by kernel_rfl) (fun _ _ _ h => h) (by rfl) hHeld ?_ ?_
          rotate_left 1
          · (intro w hSw; (try dsimp only at hSw); go_simp; try (with_reducible rfl))
          try simp only [Act.put, List.setIfInBounds_toArray, List.set_cons_zero, List.set_cons_succ]
          refine j_take (i := 4) (v := ?_) rfl (by kernel_rfl) (by kernel_rfl) (by kernel_rfl) (by kernel_rfl) (fun _ _ _ h => h) (by rfl) hHeld ?_ ?_
          rotate_left 1
          · (intro w hSw; (try dsimp only at hSw); go_simp; try (with_reducible rfl))
          try simp only [Act.put, List.setIfInBounds_toArray, List.set_cons_zero, List.set_cons_succ]
          refine j_take (i := 5) (v := ?_) rfl (by kernel_rfl) (by kernel_rfl) (by kernel_rfl) (by kernel_rfl) (fun _ _ _ h => h) (by rfl) hHeld ?_ ?_
          rotate_left 1
          · (intro w hSw; (try dsimp only at hSw); go_simp; try (with_reducible rfl))
          try simp only [Act.put, List.setIfInBounds_toArray, List.set_cons_zero, List.set_cons_succ]
          refine j_take (i := 6) (v := ?_) rfl (by kernel_rfl) (by kernel_rfl) (by kernel_rfl) (by kernel_rfl) (fun _ _ _ h => h) (by rfl) hHeld ?_ ?_
          rotate_left 1
          · (intro w hSw; (try dsimp only at hSw); go_simp; try (with_reducible rfl))
          try simp only [Act.put, List.setIfInBounds_toArray, List.set_cons_zero, List.set_cons_succ]
          refine j_take (i := 7) (v := ?_) rfl (by kernel_rfl) (by kernel_rfl) (by kernel_rfl) (by kernel_rfl) (fun _ _ _ h => h) (by rfl) hHeld ?_ ?_
          rotate_left 1
          · (intro w hSw; (try dsimp only at hSw); go_simp; try (with_reducible rfl))
          try simp only [Act.put, List.setIfInBounds_toArray, List.set_cons_zero, List.set_cons_succ]
          refine j_take (i := 8) (v := ?_) rfl (by kernel_rfl) (by kernel_rfl) (by kernel_rfl) (by kernel_rfl) (fun _ _ _ h => h) (by rfl) hHeld ?_ ?_
          rotate_left 1
          · (intro w hSw; (try dsimp only at hSw); go_simp; try (with_reducible rfl))
          try simp only [Act.put, List.setIfInBounds_toArray, List.set_cons_zero, List.set_cons_succ]
          refine j_take (i := 9) (v := ?_) rfl (by kernel_rfl) (by kernel_rfl) (by kernel_rfl) (by kernel_rfl) (fun _ _ _ h => h) (by rfl) hHeld ?_ ?_
          rotate_left 1
          · (intro w hSw; (try dsimp only at hSw); go_simp; try (with_reducible rfl))
          try simp only [Act.put, List.setIfInBounds_toArray, List.set_cons_zero, List.set_cons_succ]
          refine j_take (i := 10) (v := ?_) rfl (by kernel_rfl) (by kernel_rfl) (by kernel_rfl) (by kernel_rfl) (fun _ _ _ h => h) (by rfl) hHeld ?_ ?_
          rotate_left 1
          · (intro w hSw; (try dsimp only at hSw); go_simp; try (with_reducible rfl))
          try simp only [Act.put, List.setIfInBounds_toArray, List.set_cons_zero, List.set_cons_succ]
          refine j_take (i := 11) (v := ?_) rfl (by kernel_rfl) (by kernel_rfl) (by kernel_rfl) (by kernel_rfl) (fun _ _ _ h => h) (by rfl) hHeld ?_ ?_
          rotate_left 1
          · (intro w hSw; (try dsimp only at hSw); go_simp; try (with_reducible rfl))
          try simp only [Act.put, List.setIfInBounds_toArray, List.set_cons_zero, List.set_cons_succ]
          refine j_take (i := 12) (v := ?_) rfl (by kernel_rfl) (by kernel_rfl) (by kernel_rfl) (by kernel_rfl) (fun _ _ _ h => h) (by rfl) hHeld ?_ ?_
          rotate_left 1
          · (intro w hSw; (try dsimp only at hSw); go_simp; try (with_reducible rfl))
          try simp only [Act.put, List.setIfInBounds_toArray, List.set_cons_zero, List.set_cons_succ]
          refine j_take (i := 14) (v := ?_) rfl (by kernel_rfl) (by kernel_rfl) (by kernel_rfl) (by kernel_rfl) (fun _ _ _ h => h) (by rfl) hHeld ?_ ?_
          rotate_left 1
          · (intro w hSw; (try dsimp only at hSw); go_simp; try (with_reducible rfl))
          try simp only [Act.put, List.setIfInBounds_toArray, List.set_cons_zero, List.set_cons_succ]
          refine j_take (i := 15) (v := ?_) rfl (by kernel_rfl) (by kernel_rfl) (by kernel_rfl) (by kernel_rfl) (fun _ _ _ h => h) (by rfl) hHeld ?_ ?_
          rotate_left 1
          · (intro w hSw; (try dsimp only at hSw); go_simp; try (with_reducible rfl))
          try simp only [Act.put, List.setIfInBounds_toArray, List.set_cons_zero, List.set_cons_succ]
          refine j_take (i := 16) (v := ?_) rfl (by kernel_rfl) (by kernel_rfl) (by kernel_rfl) (by kernel_rfl) (fun _ _ _ h => h) (by rfl) hHeld ?_ ?_
          rotate_left 1
          · (intro w hSw; (try dsimp only at hSw); go_simp; try (with_reducible rfl))
          try simp only [Act.put, List.setIfInBounds_toArray, List.set_cons_zero, List.set_cons_succ]
          refine j_take (i := 17) (v := ?_) rfl (by kernel_rfl) (by kernel_rfl) (by kernel_rfl) (by kernel_rfl) (fun _ _ _ h => h) (by rfl) hHeld ?_ ?_
          rotate_left 1
          · (intro w hSw; (try dsimp only at hSw); go_simp; try (with_reducible rfl))
          try simp only [Act.put, List.setIfInBounds_toArray, List.set_cons_zero, List.set_cons_succ]
          refine j_take (i := 18) (v := ?_) rfl (by kernel_rfl) (by kernel_rfl) (by kernel_rfl) (by kernel_rfl) (fun _ _ _ h => h) (by rfl) hHeld ?_ ?_
          rotate_left 1
          · (intro w hSw; (try dsimp only at hSw); go_simp; try (with_reducible rfl))
          try simp only [Act.put, List.setIfInBounds_toArray, List.set_cons_zero, List.set_cons_succ]
          refine j_take (i := 19) (v := ?_) rfl (by kernel_rfl) (by kernel_rfl) (by kernel_rfl) (by kernel_rfl) (fun _ _ _ h => h) (by rfl) hHeld ?_ ?_
          rotate_left 1
          · (intro w hSw; (try dsimp only at hSw); go_simp; try (with_reducible rfl))
          try simp only [Act.put, List.setIfInBounds_toArray, List.set_cons_zero, List.set_cons_succ]
          refine j_take (i := 20) (v := ?_) rfl (by kernel_rfl) (by kernel_rfl) (by kernel_rfl) (by kernel_rfl) (fun _ _ _ h => h) (by rfl) hHeld ?_ ?_
          rotate_left 1
          · (intro w hSw; (try dsimp only at hSw); go_simp; try (with_reducible rfl))
          try simp only [Act.put, List.setIfInBounds_toArray, List.set_cons_zero, List.set_cons_succ]
          refine j_two (i := 13) (j := 21) rfl rfl (by kernel_rfl) (by rfl) (by rfl) (fun K hK => ?_) (fun K hK => ?_)
          · refine wp_val (v := .agg (gC g)) (by rfl) (exec_load_gm (S := fun u => u = w4.drew) _ _ rfl b (k * 38 + 2) (by rfl) g (by rintro u rfl; exact HGr.out) Try.underlying44 (by rw [HG.out]; exact infoGame11) _ rfl) ?_
            refine hK.out _ _ (hHeld) (fun hHeld2 => ?_)
            clear hK K hHeld; have hHeld := hHeld2; clear hHeld2
            try simp only [Act.put, List.setIfInBounds_toArray, List.set_cons_zero, List.set_cons_succ]
            refine j_one (i := 21) rfl (by kernel_rfl) (by rfl) (fun K hK => ?_)
            refine wp_val (v := .agg (q4A pn)) (by rfl) (exec_load_q4 (S := fun u => u = w4.drew) _ rfl b (k * 38 + 34) (by rfl) pn (by rintro u rfl; exact HPg.out) _ rfl) ?_
            refine hK.out _ _ (hHeld) (fun hHeld2 => ?_)
            clear hK K hHeld; have hHeld := hHeld2; clear hHeld2
            try simp only [Act.put, List.setIfInBounds_toArray, List.set_cons_zero, List.set_cons_succ]
            refine j_take (i := 22) (v := .agg (picA B.length ⟨1, g, pn⟩)) rfl (by kernel_rfl) (by kernel_rfl) (by kernel_rfl) (by kernel_rfl) (fun _ _ _ h => h) (by rfl) hHeld (exec_build_pic _ _ _ rfl B.length y HY.out g HG.out pn (by rfl) (by rfl) (by rfl)) ?_
            try simp only [Act.put, List.setIfInBounds_toArray, List.set_cons_zero, List.set_cons_succ]
            refine j_one (i := 23) rfl (by kernel_rfl) (by rfl) (fun K hK => ?_)
            refine wp_sl_pic _ rfl B.length g HG.out pn (by rfl) ?_
            refine hK.out _ _ (HC5.out) (fun hHeld2 => ?_)
            clear hK K hHeld; have hHeld := hHeld2; clear hHeld2
            try simp only [Act.put, List.setIfInBounds_toArray, List.set_cons_zero, List.set_cons_succ]
            refine j_one (i := 24) rfl (by kernel_rfl) (by rfl) (fun K hK => ?_)
            refine wp_append_row _ _ rfl HF5.out hB60 (by rfl) HR.out ⟨w4.drew.heap.size, 0, none⟩ (picL B.length ⟨1, g, pn⟩) (by rfl) (picL_len _ _) (fun j u hu => pic_news w4.drew B.length ⟨1, g, pn⟩ j u hu) (picL_one _ _) ?_
            intro v6 w6 b6 o6 R6 F6
            obtain ⟨cap6, rfl⟩ : ∃ cap6, v6 = .slice (some ⟨b6, 0, none⟩) (B.length + 1) cap6 := by obtain ⟨_, c6, _, h6, _⟩ := R6; exact ⟨c6, h6⟩
            have fz := bookO.fz (F6.own (m2 _ _ _ _)) 0
            have HR6 := Lib.hid R6
            have HF6 := Lib.hid F6
            clear R6 F6
            refine hK.out _ _ (HC.out _ _ _ HF6.out) (fun hHeld2 => ?_)
            clear hK K hHeld; have hHeld := hHeld2; clear hHeld2
            try simp only [Act.put, List.setIfInBounds_toArray, List.set_cons_zero, List.set_cons_succ]
            refine j_one (i := 25) rfl (by kernel_rfl) (by rfl) (fun K hK => ?_)
            go_simp
            refine hK.out _ _ (hHeld) (fun hHeld2 => ?_)
            clear hK K hHeld; have hHeld := hHeld2; clear hHeld2
            try simp only [Act.put, List.setIfInBounds_toArray, List.set_cons_zero, List.set_cons_succ]
            refine j_one (i := 26) rfl (by kernel_rfl) (by rfl) (fun K hK => ?_)
            go_simp
            refine hK.out _ _ (hHeld) (fun hHeld2 => ?_)
            clear hK K hHeld; have hHeld := hHeld2; clear hHeld2
            try simp only [Act.put, List.setIfInBounds_toArray, List.set_cons_zero, List.set_cons_succ]
            refine j_last rfl (by kernel_rfl) (by simp) (by kernel_rfl) (by rfl) (fun K hK => ?_)
            go_simp
            refine hK.out _ _ ?_
            have F7 := Frm.book0 HF6.out.rot3 (.slice (some ⟨b6, 0, none⟩) (B.length + 1) cap6)
            have F8 := Lib.hid (Frm.rot3 F7).less.swap
            have HBO : Hid (BO Bb (B ++ [⟨1, g, pn⟩]) n N (.slice (some ⟨b6, 0, none⟩) (B.length + 1) cap6) [(b6, o6), (Bb, bookO (.slice (some ⟨b6, 0, none⟩) (B.length + 1) cap6) n N)]) := .inr ⟨b6, o6, by rw [picsL_snoc, List.length_append]; exact HR6.out, rfl⟩
            have HNw := Lib.hid (new_ok (w6.setCell ⟨Bb, 0, none⟩ (.slice (some ⟨b6, 0, none⟩) (B.length + 1) cap6)) Bb _ n N (B ++ [⟨1, g, pn⟩]) (HBO.out.bm (fun x hx => hx) F8.out) (by simp; omega) y (.inr (by rw [HY.out]; simp)))
            clear F7
            go_wp2_with (go_at_call 31; (with_reducible refine HNw.out.mono ?_); rintro e w8 ⟨rfl, rfl⟩)
            go_ret
            exact ⟨rfl, B ++ [⟨1, g, pn⟩], n, _, _, HBO.out, HS.out.snoc ⟨1, g, pn⟩ HG.out rfl (by omega), F8.out⟩
          · refine wp_val (v := .agg (q4A pn)) (by rfl) (exec_load_q4 (S := fun u => u = w4.drew) _ rfl b (k * 38 + 34) (by rfl) pn (by rintro u rfl; exact HPg.out) _ rfl) ?_
            refine hK.out _ _ (hHeld) (fun hHeld2 => ?_)
            clear hK K hHeld; have hHeld := hHeld2; clear hHeld2
            try simp only [Act.put, List.setIfInBounds_toArray, List.set_cons_zero, List.set_cons_succ]
            refine j_one (i := 13) rfl (by kernel_rfl) (by rfl) (fun K hK => ?_)
            refine wp_val (v := .agg (gC g)) (by rfl) (exec_load_gm (S := fun u => u = w4.drew) _ _ rfl b (k * 38 + 2) (by rfl) g (by rintro u rfl; exact HGr.out) Try.underlying44 (by rw [HG.out]; exact infoGame11) _ rfl) ?_
            refine hK.out _ _ (hHeld) (fun hHeld2 => ?_)
            clear hK K hHeld; have hHeld := hHeld2; clear hHeld2
            try simp only [Act.put, List.setIfInBounds_toArray, List.set_cons_zero, List.set_cons_succ]
            refine j_take (i := 22) (v := .agg (picA B.length ⟨1, g, pn⟩)) rfl (by kernel_rfl) (by kernel_rfl) (by kernel_rfl) (by kernel_rfl) (fun _ _ _ h => h) (by rfl) hHeld (exec_build_pic _ _ _ rfl B.length y HY.out g HG.out pn (by rfl) (by rfl) (by rfl)) ?_
            try simp only [Act.put, List.setIfInBounds_toArray, List.set_cons_zero, List.set_cons_succ]
            refine j_one (i := 23) rfl (by kernel_rfl) (by rfl) (fun K hK => ?_)
            refine wp_sl_pic _ rfl B.length g HG.out pn (by rfl) ?_
            refine hK.out _ _ (HC5.out) (fun hHeld2 => ?_)
            clear hK K hHeld; have hHeld := hHeld2; clear hHeld2
            try simp only [Act.put, List.setIfInBounds_toArray, List.set_cons_zero, List.set_cons_succ]
            refine j_one (i := 24) rfl (by kernel_rfl) (by rfl) (fun K hK => ?_)
            refine wp_append_row _ _ rfl HF5.out hB60 (by rfl) HR.out ⟨w4.drew.heap.size, 0, none⟩ (picL B.length ⟨1, g, pn⟩) (by rfl) (picL_len _ _) (fun j u hu => pic_news w4.drew B.length ⟨1, g, pn⟩ j u hu) (picL_one _ _) ?_
            intro v6 w6 b6 o6 R6 F6
            obtain ⟨cap6, rfl⟩ : ∃ cap6, v6 = .slice (some ⟨b6, 0, none⟩) (B.length + 1) cap6 := by obtain ⟨_, c6, _, h6, _⟩ := R6; exact ⟨c6, h6⟩
            have fz := bookO.fz (F6.own (m2 _ _ _ _)) 0
            have HR6 := Lib.hid R6
            have HF6 := Lib.hid F6
            clear R6 F6
            refine hK.out _ _ (HC.out _ _ _ HF6.out) (fun hHeld2 => ?_)
            clear hK K hHeld; have hHeld := hHeld2; clear hHeld2
            try simp only [Act.put, List.setIfInBounds_toArray, List.set_cons_zero, List.set_cons_succ]
            refine j_one (i := 25) rfl (by kernel_rfl) (by rfl) (fun K hK => ?_)
            go_simp
            refine hK.out _ _ (hHeld) (fun hHeld2 => ?_)
            clear hK K hHeld; have hHeld := hHeld2; clear hHeld2
            try simp only [Act.put, List.setIfInBounds_toArray, List.set_cons_zero, List.set_cons_succ]
            refine j_one (i := 26) rfl (by kernel_rfl) (by rfl) (fun K hK => ?_)
            go_simp
            refine hK.out _ _ (hHeld) (fun hHeld2 => ?_)
            clear hK K hHeld; have hHeld := hHeld2; clear hHeld2
            try simp only [Act.put, List.setIfInBounds_toArray, List.set_cons_zero, List.set_cons_succ]
            refine j_last rfl (by kernel_rfl) (by simp) (by kernel_rfl) (by rfl) (fun K hK => ?_)
            go_simp
            refine hK.out _ _ ?_
            have F7 := Frm.book0 HF6.out.rot3 (.slice (some ⟨b6, 0, none⟩) (B.length + 1) cap6)
            have F8 := Lib.hid (Frm.rot3 F7).less.swap
            have HBO : Hid (BO Bb (B ++ [⟨1, g, pn⟩]) n N (.slice (some ⟨b6, 0, none⟩) (B.length + 1) cap6) [(b6, o6), (Bb, bookO (.slice (some ⟨b6, 0, none⟩) (B.length + 1) cap6) n N)]) := .inr ⟨b6, o6, by rw [picsL_snoc, List.length_append]; exact HR6.out, rfl⟩
            have HNw := Lib.hid (new_ok (w6.setCell ⟨Bb, 0, none⟩ (.slice (some ⟨b6, 0, none⟩) (B.length + 1) cap6)) Bb _ n N (B ++ [⟨1, g, pn⟩]) (HBO.out.bm (fun x hx => hx) F8.out) (by simp; omega) y (.inr (by rw [HY.out]; simp)))
            clear F7
            go_wp2_with (go_at_call 31; (with_reducible refine HNw.out.mono ?_); rintro e w8 ⟨rfl, rfl⟩)
            go_ret
            exact ⟨rfl, B ++ [⟨1, g, pn⟩], n, _, _, HBO.out, HS.out.snoc ⟨1, g, pn⟩ HG.out rfl (by omega), F8.out⟩
        · obtain rfl : bb = false := by simpa using hbb
          have HQ := Lib.hid (b_forkno HF1.out X (HPre.out.off hB60))
          clear HPre HRow
          go_wp2_with (first
            | (go_at_call 17; (with_reducible refine HQ.out.mono ?_); rintro e w4 ⟨rfl, E⟩; have HF4 := Lib.hid E; have HNw := Lib.hid (new_ok w4 Bb _ n N B (HO.out.bm (fun x hx => List.mem_cons_of_mem _ hx) E) (by omega) 0 (.inl rfl)); clear E)
            | (go_at_call 31; (with_reducible refine HNw.out.mono ?_); rintro e w5 ⟨rfl, rfl⟩))
          go_ret
          exact ⟨rfl, B, n, _, _, HO.out, HS.out.more, HF4.out.less⟩
end Go.Proofs.Ytkmkjfbbpeocdaa
