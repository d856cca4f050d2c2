/- SnapAll: do, Make. -/
import Derived.Test.YtkmkjfbbpeocdaaYl
import Derived.Test.YtkmkjfbbpeocdaaWw
import Derived.Deep.DeepCutAuto
import Derived.Deep.CutBlock
namespace Go.Proofs.Ytkmkjfbbpeocdaa
set_option maxRecDepth 100000
open Go.RowKit Go.Maps
set_option linter.unusedVariables false
set_option linter.unusedSimpArgs false

set_option maxHeartbeats 16000000 in
theorem do_make (w0 w : World) (S P A M Bb : Nat) (N : Int) (m : Nat) (hm : m < 50) (hN : 0 ≤ N ∧ N ≤ 200) (D : DoR w0 w S P A M Bb N m) (kP kc kv : Int) (hP : rng kP) (hc : rng kc) (A0 : Option Addr) (ls : List Int) (capl : Nat) (hrl : RG w0 w0.heap.size A0 ls) (hcl : ls.length ≤ capl) (hml : capl ≤ maxLen) :
    Calls Try.prog 13 #[.pointer (some ⟨Bb, 0, none⟩), .pointer (some ⟨S, 0, none⟩), .agg #[.int .i64 0, .int .i64 kP, .int .i64 kc, .int .i32 kv, (.slice A0 ls.length capl)]] w fun e w' => e = .returned (.bool true) ∧ DoR w0 w' S P A M Bb N (m + 1) := by
  obtain ⟨st, hst⟩ : ∃ st, st = ofL ls := ⟨_, rfl⟩
  have HOf := Lib.hid (fun (W : World) (hb : Below w0.heap.size w0 W) => hst ▸ of_any A0 ls capl W ((hrl.below hb).more hb.size) hcl hml)
  have hs32 : st.length = 32 := by rw [hst]; exact ofL_length ls
  have HS32 := Lib.hid hs32
  have z32 := Lib.hid (zG_length 32)
  have hz := zeroState
  clear hrl hcl hml hst hs32
  obtain ⟨B, n, v, O, hO, hS, hF⟩ := D
  have hB60 : B.length ≤ 60 := by have := hS.len; omega
  have hn200 : n ≤ 200 := by have := hS.nx; omega
  have HHN := Lib.hid hN
  obtain ⟨Z, X, inr, bb, hpre⟩ := preB B kP
  have HPre := Lib.hid hpre
  have HO := Lib.hid hO
  have HS := Lib.hid hS
  have HHm := Lib.hid hm
  have hF1 := hF.new (w' := w.alloc (.cells #[.int .i64 0, .int .i64 kP, .int .i64 kc, .int .i32 kv, (.slice A0 ls.length capl)] 33)) ((Below.refl _ w).alloc (Nat.le_refl _) _) w.heap.size (opO 0 kP kc kv (.slice A0 ls.length capl)) (Nat.le_refl _) (heap_alloc_last w _)
  clear hO hS hF hpre hm hN
  go_enter Try.func13, Try.ntmps13
  go_upto_region 3 with fail
  obtain ⟨w1, hw1⟩ : ∃ w1, w1 = w.alloc (.cells #[.int .i64 0, .int .i64 kP, .int .i64 kc, .int .i32 kv, (.slice A0 ls.length capl)] 33) := ⟨_, rfl⟩
  obtain ⟨ob, hob⟩ : ∃ ob, ob = w.heap.size := ⟨_, rfl⟩
  rw [← hw1, ← hob] at hF1
  try rw [← hw1]
  try rw [← hob]
  clear hw1 hob
  have HF1 := Lib.hid (Frm.drew hF1)
  have hoc := hF1.own (m0 _ _)
  have o0 : w1.cell? ⟨ob, 0, none⟩ = some (.int .i64 0) := (cell_of_row _ _ _ _ _ _ hoc).trans rfl
  have o1 : w1.cell? ⟨ob, 1, none⟩ = some (.int .i64 kP) := (cell_of_row _ _ _ _ _ _ hoc).trans rfl
  have hbm := HO.out.bm (fun x hx => List.mem_cons_of_mem _ hx) hF1
  have c0 := hbm.c0
  obtain ⟨q, cap, rfl, hrow⟩ := hbm.row
  have HRow := Lib.hid hrow
  clear hbm hrow hF1 hoc
  go_cut [31] from 19 to 31 (fun s31 wx => s31 = .bool inr ∧ wx = w1.drew)
  case first =>
    rcases HPre.out with ⟨hin, hno, _⟩ | ⟨k, p, hin, hp, hk, _⟩
    · by_cases h0 : kP ≥ 0
      · have h1 : ¬ kP < B.length := by omega
        have hd1 : decide (kP < (B.length : Int)) = false := decide_eq_false h1
        clear hno
        refine wp_region_held_drew (S := fun w' => w'.cell? ⟨ob, 1, none⟩ = some (.int .i64 kP) ∧ w'.cell? ⟨Bb, 0, none⟩ = some (.slice q B.length cap)) (by kernel_rfl) (And.intro o1 c0) (fun hHeld => ?_)
        refine held_take (i := 0) (v := ?_) rfl (by kernel_rfl) (by kernel_rfl) (by kernel_rfl) (fun _ _ _ h => h) (by rfl) hHeld ?_ ?_
        rotate_left 1
        · (intro w hSw; (try dsimp only at hSw); go_simp; try (with_reducible rfl))
        try simp only [Act.put, List.setIfInBounds_toArray, List.set_cons_zero, List.set_cons_succ]
        refine held_take (i := 1) (v := ?_) rfl (by kernel_rfl) (by kernel_rfl) (by kernel_rfl) (fun _ _ _ h => h) (by rfl) hHeld ?_ ?_
        rotate_left 1
        · (intro w hSw; (try dsimp only at hSw); go_simp; try (with_reducible rfl))
        try simp only [Act.put, List.setIfInBounds_toArray, List.set_cons_zero, List.set_cons_succ]
        refine held_take (i := 2) (v := ?_) rfl (by kernel_rfl) (by kernel_rfl) (by kernel_rfl) (fun _ _ _ h => h) (by rfl) hHeld ?_ ?_
        rotate_left 1
        · (intro w hSw; (try dsimp only at hSw); go_simp; try (with_reducible rfl))
        try simp only [Act.put, List.setIfInBounds_toArray, List.set_cons_zero, List.set_cons_succ]
        refine held_take (i := 3) (v := ?_) rfl (by kernel_rfl) (by kernel_rfl) (by kernel_rfl) (fun _ _ _ h => h) (by rfl) hHeld ?_ ?_
        rotate_left 1
        · (intro w hSw; (try dsimp only at hSw); go_simp; try (with_reducible rfl))
        try simp only [Act.put, List.setIfInBounds_toArray, List.set_cons_zero, List.set_cons_succ]
        refine held_take (i := 4) (v := ?_) rfl (by kernel_rfl) (by kernel_rfl) (by kernel_rfl) (fun _ _ _ h => h) (by rfl) hHeld ?_ ?_
        rotate_left 1
        · (intro w hSw; (try dsimp only at hSw); go_simp; try (with_reducible rfl))
        try simp only [Act.put, List.setIfInBounds_toArray, List.set_cons_zero, List.set_cons_succ]
        refine held_take (i := 5) (v := ?_) rfl (by kernel_rfl) (by kernel_rfl) (by kernel_rfl) (fun _ _ _ h => h) (by rfl) hHeld ?_ ?_
        rotate_left 1
        · (intro w hSw; (try dsimp only at hSw); go_simp; try (with_reducible rfl))
        try simp only [Act.put, List.setIfInBounds_toArray, List.set_cons_zero, List.set_cons_succ]
        refine held_take (i := 6) (v := ?_) rfl (by kernel_rfl) (by kernel_rfl) (by kernel_rfl) (fun _ _ _ h => h) (by rfl) hHeld ?_ ?_
        rotate_left 1
        · (intro w hSw; (try dsimp only at hSw); go_simp; try (with_reducible rfl))
        try simp only [Act.put, List.setIfInBounds_toArray, List.set_cons_zero, List.set_cons_succ]
        refine held_take (i := 7) (v := ?_) rfl (by kernel_rfl) (by kernel_rfl) (by kernel_rfl) (fun _ _ _ h => h) (by rfl) hHeld ?_ ?_
        rotate_left 1
        · (intro w hSw; (try dsimp only at hSw); go_simp; try (with_reducible rfl))
        try simp only [Act.put, List.setIfInBounds_toArray, List.set_cons_zero, List.set_cons_succ]
        refine held_take (i := 8) (v := ?_) rfl (by kernel_rfl) (by kernel_rfl) (by kernel_rfl) (fun _ _ _ h => h) (by rfl) hHeld ?_ ?_
        rotate_left 1
        · (intro w hSw; (try dsimp only at hSw); go_simp; try (with_reducible rfl))
        try simp only [Act.put, List.setIfInBounds_toArray, List.set_cons_zero, List.set_cons_succ]
        refine held_take (i := 9) (v := ?_) rfl (by kernel_rfl) (by kernel_rfl) (by kernel_rfl) (fun _ _ _ h => h) (by rfl) hHeld ?_ ?_
        rotate_left 1
        · (intro w hSw; (try dsimp only at hSw); go_simp; try (with_reducible rfl))
        try simp only [Act.put, List.setIfInBounds_toArray, List.set_cons_zero, List.set_cons_succ]
        refine held_take (i := 10) (v := ?_) rfl (by kernel_rfl) (by kernel_rfl) (by kernel_rfl) (fun _ _ _ h => h) (by rfl) hHeld ?_ ?_
        rotate_left 1
        · (intro w hSw; (try dsimp only at hSw); go_simp; try (with_reducible rfl))
        try simp only [Act.put, List.setIfInBounds_toArray, List.set_cons_zero, List.set_cons_succ]
        refine held_take (i := 11) (v := ?_) rfl (by kernel_rfl) (by kernel_rfl) (by kernel_rfl) (fun _ _ _ h => h) (by rfl) hHeld ?_ ?_
        rotate_left 1
        · (intro w hSw; (try dsimp only at hSw); go_simp; try (with_reducible rfl))
        try simp only [Act.put, List.setIfInBounds_toArray, List.set_cons_zero, List.set_cons_succ]
        refine held_take (i := 12) (v := ?_) rfl (by kernel_rfl) (by kernel_rfl) (by kernel_rfl) (fun _ _ _ h => h) (by rfl) hHeld ?_ ?_
        rotate_left 1
        · (intro w hSw; (try dsimp only at hSw); go_simp; try (with_reducible rfl))
        try simp only [Act.put, List.setIfInBounds_toArray, List.set_cons_zero, List.set_cons_succ]
        refine wpAnyH_done (by kernel_rfl) ?_ _
        go_wp2_with fail
        go_meet
        exact ⟨by rw [hin], rfl⟩
      · have hd0 : decide (kP ≥ 0) = false := decide_eq_false h0
        clear hno
        refine wp_region_held_drew (S := fun w' => w'.cell? ⟨ob, 1, none⟩ = some (.int .i64 kP) ∧ w'.cell? ⟨Bb, 0, none⟩ = some (.slice q B.length cap)) (by kernel_rfl) (And.intro o1 c0) (fun hHeld => ?_)
        refine held_take (i := 0) (v := ?_) rfl (by kernel_rfl) (by kernel_rfl) (by kernel_rfl) (fun _ _ _ h => h) (by rfl) hHeld ?_ ?_
        rotate_left 1
        · (intro w hSw; (try dsimp only at hSw); go_simp; try (with_reducible rfl))
        try simp only [Act.put, List.setIfInBounds_toArray, List.set_cons_zero, List.set_cons_succ]
        refine held_take (i := 1) (v := ?_) rfl (by kernel_rfl) (by kernel_rfl) (by kernel_rfl) (fun _ _ _ h => h) (by rfl) hHeld ?_ ?_
        rotate_left 1
        · (intro w hSw; (try dsimp only at hSw); go_simp; try (with_reducible rfl))
        try simp only [Act.put, List.setIfInBounds_toArray, List.set_cons_zero, List.set_cons_succ]
        refine held_take (i := 2) (v := ?_) rfl (by kernel_rfl) (by kernel_rfl) (by kernel_rfl) (fun _ _ _ h => h) (by rfl) hHeld ?_ ?_
        rotate_left 1
        · (intro w hSw; (try dsimp only at hSw); go_simp; try (with_reducible rfl))
        try simp only [Act.put, List.setIfInBounds_toArray, List.set_cons_zero, List.set_cons_succ]
        refine held_take (i := 3) (v := ?_) rfl (by kernel_rfl) (by kernel_rfl) (by kernel_rfl) (fun _ _ _ h => h) (by rfl) hHeld ?_ ?_
        rotate_left 1
        · (intro w hSw; (try dsimp only at hSw); go_simp; try (with_reducible rfl))
        try simp only [Act.put, List.setIfInBounds_toArray, List.set_cons_zero, List.set_cons_succ]
        refine held_off (i := 4) rfl (by kernel_rfl) (by kernel_rfl) (by kernel_rfl) (fun _ _ _ h => h) (by rfl) hHeld ?_
        try simp only [Act.put, List.setIfInBounds_toArray, List.set_cons_zero, List.set_cons_succ]
        refine held_off (i := 5) rfl (by kernel_rfl) (by kernel_rfl) (by kernel_rfl) (fun _ _ _ h => h) (by rfl) hHeld ?_
        try simp only [Act.put, List.setIfInBounds_toArray, List.set_cons_zero, List.set_cons_succ]
        refine held_off (i := 6) rfl (by kernel_rfl) (by kernel_rfl) (by kernel_rfl) (fun _ _ _ h => h) (by rfl) hHeld ?_
        try simp only [Act.put, List.setIfInBounds_toArray, List.set_cons_zero, List.set_cons_succ]
        refine held_off (i := 7) rfl (by kernel_rfl) (by kernel_rfl) (by kernel_rfl) (fun _ _ _ h => h) (by rfl) hHeld ?_
        try simp only [Act.put, List.setIfInBounds_toArray, List.set_cons_zero, List.set_cons_succ]
        refine held_off (i := 8) rfl (by kernel_rfl) (by kernel_rfl) (by kernel_rfl) (fun _ _ _ h => h) (by rfl) hHeld ?_
        try simp only [Act.put, List.setIfInBounds_toArray, List.set_cons_zero, List.set_cons_succ]
        refine held_off (i := 9) rfl (by kernel_rfl) (by kernel_rfl) (by kernel_rfl) (fun _ _ _ h => h) (by rfl) hHeld ?_
        try simp only [Act.put, List.setIfInBounds_toArray, List.set_cons_zero, List.set_cons_succ]
        refine held_off (i := 10) rfl (by kernel_rfl) (by kernel_rfl) (by kernel_rfl) (fun _ _ _ h => h) (by rfl) hHeld ?_
        try simp only [Act.put, List.setIfInBounds_toArray, List.set_cons_zero, List.set_cons_succ]
        refine held_off (i := 11) rfl (by kernel_rfl) (by kernel_rfl) (by kernel_rfl) (fun _ _ _ h => h) (by rfl) hHeld ?_
        try simp only [Act.put, List.setIfInBounds_toArray, List.set_cons_zero, List.set_cons_succ]
        refine held_take (i := 12) (v := ?_) rfl (by kernel_rfl) (by kernel_rfl) (by kernel_rfl) (fun _ _ _ h => h) (by rfl) hHeld ?_ ?_
        rotate_left 1
        · (intro w hSw; (try dsimp only at hSw); go_simp; try (with_reducible rfl))
        try simp only [Act.put, List.setIfInBounds_toArray, List.set_cons_zero, List.set_cons_succ]
        refine wpAnyH_done (by kernel_rfl) ?_ _
        go_wp2_with fail
        go_meet
        exact ⟨by rw [hin], rfl⟩
    · have hl := (List.getElem?_eq_some_iff.1 hp).1
      have h0 : kP ≥ 0 := by omega
      have h1 : kP < (B.length : Int) := by omega
      clear hk hp
      refine wp_region_held_drew (S := fun w' => w'.cell? ⟨ob, 1, none⟩ = some (.int .i64 kP) ∧ w'.cell? ⟨Bb, 0, none⟩ = some (.slice q B.length cap)) (by kernel_rfl) (And.intro o1 c0) (fun hHeld => ?_)
      refine held_take (i := 0) (v := ?_) rfl (by kernel_rfl) (by kernel_rfl) (by kernel_rfl) (fun _ _ _ h => h) (by rfl) hHeld ?_ ?_
      rotate_left 1
      · (intro w hSw; (try dsimp only at hSw); go_simp; try (with_reducible rfl))
      try simp only [Act.put, List.setIfInBounds_toArray, List.set_cons_zero, List.set_cons_succ]
      refine held_take (i := 1) (v := ?_) rfl (by kernel_rfl) (by kernel_rfl) (by kernel_rfl) (fun _ _ _ h => h) (by rfl) hHeld ?_ ?_
      rotate_left 1
      · (intro w hSw; (try dsimp only at hSw); go_simp; try (with_reducible rfl))
      try simp only [Act.put, List.setIfInBounds_toArray, List.set_cons_zero, List.set_cons_succ]
      refine held_take (i := 2) (v := ?_) rfl (by kernel_rfl) (by kernel_rfl) (by kernel_rfl) (fun _ _ _ h => h) (by rfl) hHeld ?_ ?_
      rotate_left 1
      · (intro w hSw; (try dsimp only at hSw); go_simp; try (with_reducible rfl))
      try simp only [Act.put, List.setIfInBounds_toArray, List.set_cons_zero, List.set_cons_succ]
      refine held_take (i := 3) (v := ?_) rfl (by kernel_rfl) (by kernel_rfl) (by kernel_rfl) (fun _ _ _ h => h) (by rfl) hHeld ?_ ?_
      rotate_left 1
      · (intro w hSw; (try dsimp only at hSw); go_simp; try (with_reducible rfl))
      try simp only [Act.put, List.setIfInBounds_toArray, List.set_cons_zero, List.set_cons_succ]
      refine held_take (i := 4) (v := ?_) rfl (by kernel_rfl) (by kernel_rfl) (by kernel_rfl) (fun _ _ _ h => h) (by rfl) hHeld ?_ ?_
      rotate_left 1
      · (intro w hSw; (try dsimp only at hSw); go_simp; try (with_reducible rfl))
      try simp only [Act.put, List.setIfInBounds_toArray, List.set_cons_zero, List.set_cons_succ]
      refine held_take (i := 5) (v := ?_) rfl (by kernel_rfl) (by kernel_rfl) (by kernel_rfl) (fun _ _ _ h => h) (by rfl) hHeld ?_ ?_
      rotate_left 1
      · (intro w hSw; (try dsimp only at hSw); go_simp; try (with_reducible rfl))
      try simp only [Act.put, List.setIfInBounds_toArray, List.set_cons_zero, List.set_cons_succ]
      refine held_take (i := 6) (v := ?_) rfl (by kernel_rfl) (by kernel_rfl) (by kernel_rfl) (fun _ _ _ h => h) (by rfl) hHeld ?_ ?_
      rotate_left 1
      · (intro w hSw; (try dsimp only at hSw); go_simp; try (with_reducible rfl))
      try simp only [Act.put, List.setIfInBounds_toArray, List.set_cons_zero, List.set_cons_succ]
      refine held_take (i := 7) (v := ?_) rfl (by kernel_rfl) (by kernel_rfl) (by kernel_rfl) (fun _ _ _ h => h) (by rfl) hHeld ?_ ?_
      rotate_left 1
      · (intro w hSw; (try dsimp only at hSw); go_simp; try (with_reducible rfl))
      try simp only [Act.put, List.setIfInBounds_toArray, List.set_cons_zero, List.set_cons_succ]
      refine held_take (i := 8) (v := ?_) rfl (by kernel_rfl) (by kernel_rfl) (by kernel_rfl) (fun _ _ _ h => h) (by rfl) hHeld ?_ ?_
      rotate_left 1
      · (intro w hSw; (try dsimp only at hSw); go_simp; try (with_reducible rfl))
      try simp only [Act.put, List.setIfInBounds_toArray, List.set_cons_zero, List.set_cons_succ]
      refine held_take (i := 9) (v := ?_) rfl (by kernel_rfl) (by kernel_rfl) (by kernel_rfl) (fun _ _ _ h => h) (by rfl) hHeld ?_ ?_
      rotate_left 1
      · (intro w hSw; (try dsimp only at hSw); go_simp; try (with_reducible rfl))
      try simp only [Act.put, List.setIfInBounds_toArray, List.set_cons_zero, List.set_cons_succ]
      refine held_take (i := 10) (v := ?_) rfl (by kernel_rfl) (by kernel_rfl) (by kernel_rfl) (fun _ _ _ h => h) (by rfl) hHeld ?_ ?_
      rotate_left 1
      · (intro w hSw; (try dsimp only at hSw); go_simp; try (with_reducible rfl))
      try simp only [Act.put, List.setIfInBounds_toArray, List.set_cons_zero, List.set_cons_succ]
      refine held_take (i := 11) (v := ?_) rfl (by kernel_rfl) (by kernel_rfl) (by kernel_rfl) (fun _ _ _ h => h) (by rfl) hHeld ?_ ?_
      rotate_left 1
      · (intro w hSw; (try dsimp only at hSw); go_simp; try (with_reducible rfl))
      try simp only [Act.put, List.setIfInBounds_toArray, List.set_cons_zero, List.set_cons_succ]
      refine held_take (i := 12) (v := ?_) rfl (by kernel_rfl) (by kernel_rfl) (by kernel_rfl) (fun _ _ _ h => h) (by rfl) hHeld ?_ ?_
      rotate_left 1
      · (intro w hSw; (try dsimp only at hSw); go_simp; try (with_reducible rfl))
      try simp only [Act.put, List.setIfInBounds_toArray, List.set_cons_zero, List.set_cons_succ]
      refine wpAnyH_done (by kernel_rfl) ?_ _
      go_wp2_with fail
      go_meet
      exact ⟨by rw [hin], rfl⟩
  case rest =>
    obtain ⟨rfl, rfl⟩ := hcut
    have hoc := HF1.out.own (m0 _ _)
    have p0 : w1.drew.cell? ⟨ob, 0, none⟩ = some (.int .i64 0) := (cell_of_row _ _ _ _ _ _ hoc).trans rfl
    have p1 : w1.drew.cell? ⟨ob, 1, none⟩ = some (.int .i64 kP) := (cell_of_row _ _ _ _ _ _ hoc).trans rfl
    have p2 : w1.drew.cell? ⟨ob, 2, none⟩ = some (.int .i64 kc) := (cell_of_row _ _ _ _ _ _ hoc).trans rfl
    have p3 : w1.drew.cell? ⟨ob, 3, none⟩ = some (.int .i32 kv) := (cell_of_row _ _ _ _ _ _ hoc).trans rfl
    have p4 : w1.drew.cell? ⟨ob, 4, none⟩ = some ((.slice A0 ls.length capl)) := (cell_of_row _ _ _ _ _ _ hoc).trans rfl
    have hbm := HO.out.bm (fun x hx => List.mem_cons_of_mem _ hx) HF1.out
    have c0' := hbm.c0
    obtain ⟨q', cap', hv', hrow'⟩ := hbm.row
    obtain ⟨rfl, _, rfl⟩ : q = q' ∧ True ∧ cap = cap' := by injection hv' with e1 e2 e3; exact ⟨e1, trivial, e3⟩
    clear HRow
    have HRow := Lib.hid hrow'
    clear hrow' hv' hbm hoc o0 o1 c0
    generalize w1.drew = W at *
    clear w1
    go_upto_if 31 with fail
    go_cut [7, 8] from 32 to 41 (fun s7 s8 wx => s7 = .int .i64 Z ∧ s8 = .int .i64 X ∧ wx = W)
    case first =>
      rcases HPre.out with ⟨rfl, _, rfl, rfl, _⟩ | ⟨k, p, rfl, hp, rfl, rfl, rfl, _⟩
      · go_wp2_with fail
        go_meet
        exact ⟨rfl, rfl, rfl⟩
      · have hl := (List.getElem?_eq_some_iff.1 hp).1
        have h1 : (k : Int) < (B.length : Int) := by omega
        obtain ⟨b, rfl, _, hcell⟩ := HRow.out k p hp
        have cr : W.cell? ⟨b, k * 38, none⟩ = some (.int .i64 ((k : Int) + 1)) := (hcell 0 (by omega)).trans rfl
        clear hcell hp
        go_wp2_with fail
        go_meet
        exact ⟨rfl, rfl, rfl⟩
    case rest =>
      obtain ⟨rfl, rfl, rfl⟩ := hcut
      go_upto_region 6 with fail
      go_cut [9] from 42 to 54 (fun s9 wx => s9 = .bool bb ∧ wx = wc)
      case first =>
        rcases HPre.out with ⟨rfl, _, rfl, rfl, rfl⟩ | ⟨k, p, rfl, hp, rfl, rfl, rfl, hbb⟩
        · go_wp2_with fail
          go_meet
          exact ⟨rfl, rfl⟩
        · have hl := (List.getElem?_eq_some_iff.1 hp).1
          have h1 : (k : Int) < (B.length : Int) := by omega
          obtain ⟨b, rfl, _, hcell⟩ := HRow.out k p hp
          have cr : wc.cell? ⟨b, k * 38 + 1, none⟩ = some (.int .i64 p.r) := (hcell 1 (by omega)).trans rfl
          have HBB := Lib.hid hbb
          generalize p.r = r at *
          clear hcell hp hbb
          go_wp2_with fail
          go_meet
          exact ⟨by rw [HBB.out], rfl⟩
      case rest =>
        obtain ⟨rfl, rfl⟩ := hcut
        obtain ⟨x, hx⟩ : ∃ x : Int, x = (bused B n : Nat) := ⟨_, rfl⟩
        have hx0 : 0 ≤ x := by omega
        have hx1 : x ≤ 200 := by have := bused_le B n; omega
        have hN0 : 0 ≤ N := HHN.out.1
        have hN1 : N ≤ 200 := HHN.out.2
        have HX := Lib.hid hx
        clear HRow HPre
        by_cases hfit : x + 4 ≤ N
        · obtain ⟨pn, hp0, hp1, hp2, hp3, hpn⟩ := four_pn n
          have HP0 := Lib.hid hp0
          have HP1 := Lib.hid hp1
          have HP2 := Lib.hid hp2
          have HP3 := Lib.hid hp3
          have HPN := Lib.hid hpn
          obtain ⟨y, hy⟩ : ∃ y : Int, y = B.length + 1 := ⟨_, rfl⟩
          have HY := Lib.hid hy
          have hy0 : y > 0 := by omega
          clear hp0 hp1 hp2 hp3 hpn hy
          go_wp2_with (first
            | (go_at_call 15; (with_reducible refine (HOf.out _ HF1.out.be).mono ?_); rintro e w2 ⟨rfl, hb⟩; have HF2 := Lib.hid (HF1.out.belows hb); clear hb)
            | ((with_reducible refine wpList_store_g rfl 38 (.tmp 10) (.tmp 152) rfl _ (by with_unfolding_all rfl) 38 (zG 32) st (GA.new _ _ _) (by with_unfolding_all rfl) (by rw [HS32.out, z32.out]) (by rw [HS32.out]; exact infoState) ?_); intro w3 G3 S3 R3; have HF3 := HF2.out.made G3 R3; clear G3 S3 R3)
            | (with_reducible refine wpList_load_g rfl 38 (.tmp 10) rfl w2.heap.size (by with_unfolding_all rfl) 38 st (HF3.out.ga (m0 _ _)) Try.underlying38 (by rw [HS32.out]; exact infoState) ?_)
            | (go_at_call 16; have HQ := b_make HF3.out hB60 st HS32.out y HY.out (by have := HX.out; omega) pn HPN.out; (with_reducible refine HQ.mono ?_); clear HQ; rintro e w4 ⟨rfl, E⟩; have HF4 := Lib.hid E; have HBM := Lib.hid (HO.out.bm (fun x hx => List.mem_cons_of_mem _ (List.mem_cons_of_mem _ hx)) E); have c2 := HBM.out.c2; have HUd := Lib.hid (bused_any w4.drew Bb _ n N B (HBM.out.belows (Below.refl _ w4).drew) (by omega) (by omega) x hx); clear E))
          have hwN : IntKind.i64.wrap (N - x) = N - x := by rw [IntKind.wrap_i64]; omega
          have hd4 : decide (N - x ≥ 4) = true := decide_eq_true (by omega)
          refine wp_region_held_drew (S := fun w' => w'.cell? ⟨Bb, 2, none⟩ = some (.int .i64 N)) (by kernel_rfl) (c2) (fun hHeld => ?_)
          refine held_take (i := 0) (v := ?_) rfl (by kernel_rfl) (by kernel_rfl) (by kernel_rfl) (fun _ _ _ h => h) (by rfl) hHeld ?_ ?_
          rotate_left 1
          · (intro w hSw; (try dsimp only at hSw); go_simp; try (with_reducible rfl))
          try simp only [Act.put, List.setIfInBounds_toArray, List.set_cons_zero, List.set_cons_succ]
          refine held_take (i := 1) (v := ?_) rfl (by kernel_rfl) (by kernel_rfl) (by kernel_rfl) (fun _ _ _ h => h) (by rfl) hHeld ?_ ?_
          rotate_left 1
          · (intro w hSw; (try dsimp only at hSw); go_simp; try (with_reducible rfl))
          try simp only [Act.put, List.setIfInBounds_toArray, List.set_cons_zero, List.set_cons_succ]
          refine held_take (i := 2) (v := ?_) rfl (by kernel_rfl) (by kernel_rfl) (by kernel_rfl) (fun _ _ _ h => h) (by rfl) hHeld ?_ ?_
          rotate_left 1
          · (intro w hSw; (try dsimp only at hSw); go_simp; try (with_reducible rfl))
          try simp only [Act.put, List.setIfInBounds_toArray, List.set_cons_zero, List.set_cons_succ]
          refine held_take (i := 3) (v := ?_) rfl (by kernel_rfl) (by kernel_rfl) (by kernel_rfl) (fun _ _ _ h => h) (by rfl) hHeld ?_ ?_
          rotate_left 1
          · (intro w hSw; (try dsimp only at hSw); go_simp; try (with_reducible rfl))
          try simp only [Act.put, List.setIfInBounds_toArray, List.set_cons_zero, List.set_cons_succ]
          refine held_take (i := 4) (v := ?_) rfl (by kernel_rfl) (by kernel_rfl) (by kernel_rfl) (fun _ _ _ h => h) (by rfl) hHeld ?_ ?_
          rotate_left 1
          · (intro w hSw; (try dsimp only at hSw); go_simp; try (with_reducible rfl))
          try simp only [Act.put, List.setIfInBounds_toArray, List.set_cons_zero, List.set_cons_succ]
          refine held_one (i := 5) rfl (by kernel_rfl) (by rfl) (fun K hK => ?_)
          go_simp
          with_reducible refine HUd.out.mono ?_
          rintro e u1 ⟨rfl, rfl⟩
          refine hK.out _ _ (hHeld) (fun hHeld2 => ?_)
          clear hK K hHeld; have hHeld := hHeld2; clear hHeld2
          try simp only [Act.put, List.setIfInBounds_toArray, List.set_cons_zero, List.set_cons_succ]
          refine held_take (i := 6) (v := ?_) rfl (by kernel_rfl) (by kernel_rfl) (by kernel_rfl) (fun _ _ _ h => h) (by rfl) hHeld ?_ ?_
          rotate_left 1
          · (intro w hSw; (try dsimp only at hSw); go_simp; try (with_reducible rfl))
          try simp only [Act.put, List.setIfInBounds_toArray, List.set_cons_zero, List.set_cons_succ]
          refine held_take (i := 7) (v := ?_) rfl (by kernel_rfl) (by kernel_rfl) (by kernel_rfl) (fun _ _ _ h => h) (by rfl) hHeld ?_ ?_
          rotate_left 1
          · (intro w hSw; (try dsimp only at hSw); go_simp; try (with_reducible rfl))
          try simp only [Act.put, List.setIfInBounds_toArray, List.set_cons_zero, List.set_cons_succ]
          refine held_take (i := 8) (v := ?_) rfl (by kernel_rfl) (by kernel_rfl) (by kernel_rfl) (fun _ _ _ h => h) (by rfl) hHeld ?_ ?_
          rotate_left 1
          · (intro w hSw; (try dsimp only at hSw); go_simp; try (with_reducible rfl))
          try simp only [Act.put, List.setIfInBounds_toArray, List.set_cons_zero, List.set_cons_succ]
          refine wpAnyH_done (by kernel_rfl) ?_ _
          obtain ⟨y9, hy9⟩ : ∃ y9, y9 = w2.heap.size := ⟨_, rfl⟩
          rw [← hy9] at HF4 ⊢
          clear hy9 HUd HBM c2
          go_wp2_with fail
          have HC : Hid (∀ (u : World) (Q : List Sh → List Pc → Prop) (O' : List (Nat × Obj)), Frm w0 u S P A M Q O' → (y9, gaO 38 st) ∈ O' → (Bb, bookO (.slice q B.length cap) (n : Int) N) ∈ O' → u.cell? ⟨Bb, 0, none⟩ = some (.slice q B.length cap) ∧ u.cell? ⟨Bb, 1, none⟩ = some (.int .i64 (n : Int)) ∧ GA u y9 38 st) := fun u Q O' E e1 e2 => ⟨(cell_of_row _ _ _ _ _ _ (E.own e2)).trans rfl, (cell_of_row _ _ _ _ _ _ (E.own e2)).trans rfl, E.ga e1⟩
          have hF4 := (Frm.drew (Frm.drew HF4.out))
          have hbo : (Bb, bookO (.slice q B.length cap) (n : Int) N) ∈ O := by rcases HO.out with ⟨_, _, rfl⟩ | ⟨b, o, _, rfl⟩; exact m0 _ _; exact m1 _ _ _
          have HBo := Lib.hid hbo
          have hF5 := (hF4.belows ((Below.refl _ w4.drew.drew).alloc (Nat.le_refl _) (.cells (picA B.length ⟨1, st, pn⟩) 69)))
          have hC4 := HC.out _ _ _ hF4 (m0 _ _) (List.mem_cons_of_mem _ (List.mem_cons_of_mem _ hbo))
          have HC5 := Lib.hid (HC.out _ _ _ hF5 (m0 _ _) (List.mem_cons_of_mem _ (List.mem_cons_of_mem _ hbo)))
          have HF5 := Lib.hid hF5
          have hw1 : IntKind.i64.wrap ((n : Int) + 1) = (n : Int) + 1 := by rw [IntKind.wrap_i64]; omega
          have hw2 : IntKind.i64.wrap ((n : Int) + 2) = (n : Int) + 2 := by rw [IntKind.wrap_i64]; omega
          have hw3 : IntKind.i64.wrap ((n : Int) + 3) = (n : Int) + 3 := by rw [IntKind.wrap_i64]; omega
          have hw4 : IntKind.i64.wrap ((n : Int) + 4) = (n : Int) + 4 := by rw [IntKind.wrap_i64]; omega
          clear hF4 hF5 hbo
          refine wp_region_J (s := 33) (S := fun w' => w'.cell? ⟨Bb, 0, none⟩ = some (.slice q B.length cap) ∧ w'.cell? ⟨Bb, 1, none⟩ = some (.int .i64 (n : Int)) ∧ GA w' y9 38 st) (by kernel_rfl) (hC4) (fun hHeld => ?_)
          refine j_take (i := 0) (v := ?_) rfl (by kernel_rfl) (by kernel_rfl) (by kernel_rfl) (by kernel_rfl) (fun _ _ _ h => h) (by rfl) hHeld ?_ ?_
          rotate_left 1
          · (intro w hSw; (try dsimp only at hSw); go_simp; try (with_reducible rfl))
          try simp only [Act.put, List.setIfInBounds_toArray, List.set_cons_zero, List.set_cons_succ]
          refine j_take (i := 1) (v := ?_) rfl (by kernel_rfl) (by kernel_rfl) (by kernel_rfl) (by kernel_rfl) (fun _ _ _ h => h) (by rfl) hHeld ?_ ?_
          rotate_left 1
          · (intro w hSw; (try dsimp only at hSw); go_simp; try (with_reducible rfl))
          try simp only [Act.put, List.setIfInBounds_toArray, List.set_cons_zero, List.set_cons_succ]
          refine j_take (i := 2) (v := ?_) rfl (by kernel_rfl) (by kernel_rfl) (by kernel_rfl) (by kernel_rfl) (fun _ _ _ h => h) (by rfl) hHeld ?_ ?_
          rotate_left 1
          · (intro w hSw; (try dsimp only at hSw); go_simp; try (with_reducible rfl))
          try simp only [Act.put, List.setIfInBounds_toArray, List.set_cons_zero, List.set_cons_succ]
          refine j_take (i := 3) (v := ?_) rfl (by kernel_rfl) (by kernel_rfl) (by kernel_rfl) (by kernel_rfl) (fun _ _ _ h => h) (by rfl) hHeld ?_ ?_
          rotate_left 1
          · (intro w hSw; (try dsimp only at hSw); go_simp; try (with_reducible rfl))
          try simp only [Act.put, List.setIfInBounds_toArray, List.set_cons_zero, List.set_cons_succ]
          refine j_take (i := 4) (v := ?_) rfl (by kernel_rfl) (by kernel_rfl) (by kernel_rfl) (by kernel_rfl) (fun _ _ _ h => h) (by rfl) hHeld ?_ ?_
          rotate_left 1
          · (intro w hSw; (try dsimp only at hSw); go_simp; try (with_reducible rfl))
          try simp only [Act.put, List.setIfInBounds_toArray, List.set_cons_zero, List.set_cons_succ]
          refine j_take (i := 5) (v := ?_) rfl (by kernel_rfl) (by kernel_rfl) (by kernel_rfl) (by kernel_rfl) (fun _ _ _ h => h) (by rfl) hHeld ?_ ?_
          rotate_left 1
          · (intro w hSw; (try dsimp only at hSw); go_simp; try (with_reducible rfl))
          try simp only [Act.put, List.setIfInBounds_toArray, List.set_cons_zero, List.set_cons_succ]
          refine j_take (i := 6) (v := .agg (gC st)) rfl (by kernel_rfl) (by kernel_rfl) (by kernel_rfl) (by kernel_rfl) (fun _ _ _ h => h) (by rfl) hHeld (exec_load_g _ _ rfl y9 (by rfl) 38 st (fun w h => h.2.2) Try.underlying38 (by rw [HS32.out]; exact infoState)) ?_
          try simp only [Act.put, List.setIfInBounds_toArray, List.set_cons_zero, List.set_cons_succ]
          refine j_take (i := 7) (v := ?_) rfl (by kernel_rfl) (by kernel_rfl) (by kernel_rfl) (by kernel_rfl) (fun _ _ _ h => h) (by rfl) hHeld ?_ ?_
          rotate_left 1
          · (intro w hSw; (try dsimp only at hSw); go_simp; try (with_reducible rfl))
          try simp only [Act.put, List.setIfInBounds_toArray, List.set_cons_zero, List.set_cons_succ]
          refine j_take (i := 8) (v := ?_) rfl (by kernel_rfl) (by kernel_rfl) (by kernel_rfl) (by kernel_rfl) (fun _ _ _ h => h) (by rfl) hHeld ?_ ?_
          rotate_left 1
          · (intro w hSw; (try dsimp only at hSw); go_simp; try (with_reducible rfl))
          try simp only [Act.put, List.setIfInBounds_toArray, List.set_cons_zero, List.set_cons_succ]
          refine j_take (i := 9) (v := ?_) rfl (by kernel_rfl) (by kernel_rfl) (by kernel_rfl) (by kernel_rfl) (fun _ _ _ h => h) (by rfl) hHeld ?_ ?_
          rotate_left 1
          · (intro w hSw; (try dsimp only at hSw); go_simp; try (with_reducible rfl))
          try simp only [Act.put, List.setIfInBounds_toArray, List.set_cons_zero, List.set_cons_succ]
          refine j_take (i := 10) (v := ?_) rfl (by kernel_rfl) (by kernel_rfl) (by kernel_rfl) (by kernel_rfl) (fun _ _ _ h => h) (by rfl) hHeld ?_ ?_
          rotate_left 1
          · (intro w hSw; (try dsimp only at hSw); go_simp; try (with_reducible rfl))
          try simp only [Act.put, List.setIfInBounds_toArray, List.set_cons_zero, List.set_cons_succ]
          refine j_take (i := 11) (v := ?_) rfl (by kernel_rfl) (by kernel_rfl) (by kernel_rfl) (by kernel_rfl) (fun _ _ _ h => h) (by rfl) hHeld ?_ ?_
          rotate_left 1
          · (intro w hSw; (try dsimp only at hSw); go_simp; try (with_reducible rfl))
          try simp only [Act.put, List.setIfInBounds_toArray, List.set_cons_zero, List.set_cons_succ]
          refine j_take (i := 12) (v := ?_) rfl (by kernel_rfl) (by kernel_rfl) (by kernel_rfl) (by kernel_rfl) (fun _ _ _ h => h) (by rfl) hHeld ?_ ?_
          rotate_left 1
          · (intro w hSw; (try dsimp only at hSw); go_simp; try (with_reducible rfl))
          try simp only [Act.put, List.setIfInBounds_toArray, List.set_cons_zero, List.set_cons_succ]
          refine j_take (i := 13) (v := ?_) rfl (by kernel_rfl) (by kernel_rfl) (by kernel_rfl) (by kernel_rfl) (fun _ _ _ h => h) (by rfl) hHeld ?_ ?_
          rotate_left 1
          · (intro w hSw; (try dsimp only at hSw); go_simp; try (with_reducible rfl))
          try simp only [Act.put, List.setIfInBounds_toArray, List.set_cons_zero, List.set_cons_succ]
          refine j_take (i := 14) (v := ?_) rfl (by kernel_rfl) (by kernel_rfl) (by kernel_rfl) (by kernel_rfl) (fun _ _ _ h => h) (by rfl) hHeld ?_ ?_
          rotate_left 1
          · (intro w hSw; (try dsimp only at hSw); go_simp; try (with_reducible rfl))
          try simp only [Act.put, List.setIfInBounds_toArray, List.set_cons_zero, List.set_cons_succ]
          refine j_take (i := 15) (v := ?_) rfl (by kernel_rfl) (by kernel_rfl) (by kernel_rfl) (by kernel_rfl) (fun _ _ _ h => h) (by rfl) hHeld ?_ ?_
          rotate_left 1
          · (intro w hSw; (try dsimp only at hSw); go_simp; try (with_reducible rfl))
          try simp only [Act.put, List.setIfInBounds_toArray, List.set_cons_zero, List.set_cons_succ]
          refine j_take (i := 16) (v := ?_) rfl (by kernel_rfl) (by kernel_rfl) (by kernel_rfl) (by kernel_rfl) (fun _ _ _ h => h) (by rfl) hHeld ?_ ?_
          rotate_left 1
          · (intro w hSw; (try dsimp only at hSw); go_simp; try (with_reducible rfl))
          try simp only [Act.put, List.setIfInBounds_toArray, List.set_cons_zero, List.set_cons_succ]
          refine j_take (i := 17) (v := ?_) rfl (by kernel_rfl) (by kernel_rfl) (by kernel_rfl) (by kernel_rfl) (fun _ _ _ h => h) (by rfl) hHeld ?_ ?_
          rotate_left 1
          · (intro w hSw; (try dsimp only at hSw); go_simp; try (with_reducible rfl))
          try simp only [Act.put, List.setIfInBounds_toArray, List.set_cons_zero, List.set_cons_succ]
          refine j_take (i := 18) (v := ?_) rfl (by kernel_rfl) (by kernel_rfl) (by kernel_rfl) (by kernel_rfl) (fun _ _ _ h => h) (by rfl) hHeld ?_ ?_
          rotate_left 1
          · (intro w hSw; (try dsimp only at hSw); go_simp; try (with_reducible rfl))
          try simp only [Act.put, List.setIfInBounds_toArray, List.set_cons_zero, List.set_cons_succ]
          refine j_take (i := 19) (v := ?_) rfl (by kernel_rfl) (by kernel_rfl) (by kernel_rfl) (by kernel_rfl) (fun _ _ _ h => h) (by rfl) hHeld ?_ ?_
          rotate_left 1
          · (intro w hSw; (try dsimp only at hSw); go_simp; try (with_reducible rfl))
          try simp only [Act.put, List.setIfInBounds_toArray, List.set_cons_zero, List.set_cons_succ]
          refine j_take (i := 20) (v := ?_) rfl (by kernel_rfl) (by kernel_rfl) (by kernel_rfl) (by kernel_rfl) (fun _ _ _ h => h) (by rfl) hHeld ?_ ?_
          rotate_left 1
          · (intro w hSw; (try dsimp only at hSw); go_simp; try (with_reducible rfl))
          try simp only [Act.put, List.setIfInBounds_toArray, List.set_cons_zero, List.set_cons_succ]
          refine j_take (i := 21) (v := ?_) rfl (by kernel_rfl) (by kernel_rfl) (by kernel_rfl) (by kernel_rfl) (fun _ _ _ h => h) (by rfl) hHeld ?_ ?_
          rotate_left 1
          · (intro w hSw; (try dsimp only at hSw); go_simp; try (with_reducible rfl))
          try simp only [Act.put, List.setIfInBounds_toArray, List.set_cons_zero, List.set_cons_succ]
          refine j_take (i := 22) (v := ?_) rfl (by kernel_rfl) (by kernel_rfl) (by kernel_rfl) (by kernel_rfl) (fun _ _ _ h => h) (by rfl) hHeld ?_ ?_
          rotate_left 1
          · (intro w hSw; (try dsimp only at hSw); go_simp; try (with_reducible rfl))
          try simp only [Act.put, List.setIfInBounds_toArray, List.set_cons_zero, List.set_cons_succ]
          refine j_take (i := 23) (v := ?_) rfl (by kernel_rfl) (by kernel_rfl) (by kernel_rfl) (by kernel_rfl) (fun _ _ _ h => h) (by rfl) hHeld ?_ ?_
          rotate_left 1
          · (intro w hSw; (try dsimp only at hSw); go_simp; try (with_reducible rfl))
          try simp only [Act.put, List.setIfInBounds_toArray, List.set_cons_zero, List.set_cons_succ]
          refine j_take (i := 24) (v := ?_) rfl (by kernel_rfl) (by kernel_rfl) (by kernel_rfl) (by kernel_rfl) (fun _ _ _ h => h) (by rfl) hHeld ?_ ?_
          rotate_left 1
          · (intro w hSw; (try dsimp only at hSw); go_simp; try (with_reducible rfl))
          try simp only [Act.put, List.setIfInBounds_toArray, List.set_cons_zero, List.set_cons_succ]
          refine j_take (i := 25) (v := ?_) rfl (by kernel_rfl) (by kernel_rfl) (by kernel_rfl) (by kernel_rfl) (fun _ _ _ h => h) (by rfl) hHeld ?_ ?_
          rotate_left 1
          · (intro w hSw; (try dsimp only at hSw); go_simp; try (with_reducible rfl))
          try simp only [Act.put, List.setIfInBounds_toArray, List.set_cons_zero, List.set_cons_succ]
          refine j_take (i := 26) (v := ?_) rfl (by kernel_rfl) (by kernel_rfl) (by kernel_rfl) (by kernel_rfl) (fun _ _ _ h => h) (by rfl) hHeld ?_ ?_
          rotate_left 1
          · (intro w hSw; (try dsimp only at hSw); go_simp; try (with_reducible rfl))
          try simp only [Act.put, List.setIfInBounds_toArray, List.set_cons_zero, List.set_cons_succ]
          refine j_take (i := 27) (v := .agg (q4A pn)) rfl (by kernel_rfl) (by kernel_rfl) (by kernel_rfl) (by kernel_rfl) (fun _ _ _ h => h) (by rfl) hHeld (exec_build_q4 _ _ _ _ rfl pn (by rw [HP0.out]; rfl) (by rw [HP1.out]; rfl) (by rw [HP2.out]; rfl) (by rw [HP3.out]; rfl)) ?_
          try simp only [Act.put, List.setIfInBounds_toArray, List.set_cons_zero, List.set_cons_succ]
          refine j_take (i := 28) (v := .agg (picA B.length ⟨1, st, pn⟩)) rfl (by kernel_rfl) (by kernel_rfl) (by kernel_rfl) (by kernel_rfl) (fun _ _ _ h => h) (by rfl) hHeld (exec_build_pic _ _ _ rfl B.length y HY.out st HS32.out pn (by rfl) (by rfl) (by rfl)) ?_
          try simp only [Act.put, List.setIfInBounds_toArray, List.set_cons_zero, List.set_cons_succ]
          refine j_one (i := 29) rfl (by kernel_rfl) (by rfl) (fun K hK => ?_)
          refine wp_sl_pic _ rfl B.length st HS32.out pn (by rfl) ?_
          refine hK.out _ _ (HC5.out) (fun hHeld2 => ?_)
          clear hK K hHeld; have hHeld := hHeld2; clear hHeld2
          try simp only [Act.put, List.setIfInBounds_toArray, List.set_cons_zero, List.set_cons_succ]
          refine j_one (i := 30) rfl (by kernel_rfl) (by rfl) (fun K hK => ?_)
          refine wp_append_bo _ _ rfl HO.out hB60 HF5.out (by rfl) ⟨w4.drew.drew.heap.size, 0, none⟩ (picL B.length ⟨1, st, pn⟩) (by rfl) (picL_len _ _) (fun j u hu => pic_news w4.drew.drew B.length ⟨1, st, pn⟩ j u hu) (picL_one _ _) ?_
          intro v6 w6 b6 o6 R6 F6
          obtain ⟨cap6, rfl⟩ : ∃ cap6, v6 = .slice (some ⟨b6, 0, none⟩) (B.length + 1) cap6 := by obtain ⟨_, c6, _, h6, _⟩ := R6; exact ⟨c6, h6⟩
          have fz := bookO.fz (F6.own (m3 _ _ _ _ _)) 0
          have HR6 := Lib.hid R6
          have HF6 := Lib.hid F6
          clear R6 F6
          refine hK.out _ _ (HC.out _ _ _ HF6.out (m1 _ _ _) (m3 _ _ _ _ _)) (fun hHeld2 => ?_)
          clear hK K hHeld; have hHeld := hHeld2; clear hHeld2
          try simp only [Act.put, List.setIfInBounds_toArray, List.set_cons_zero, List.set_cons_succ]
          refine j_one (i := 31) rfl (by kernel_rfl) (by rfl) (fun K hK => ?_)
          go_simp
          refine hK.out _ _ (hHeld) (fun hHeld2 => ?_)
          clear hK K hHeld; have hHeld := hHeld2; clear hHeld2
          try simp only [Act.put, List.setIfInBounds_toArray, List.set_cons_zero, List.set_cons_succ]
          refine j_one (i := 32) rfl (by kernel_rfl) (by rfl) (fun K hK => ?_)
          go_simp
          refine hK.out _ _ (hHeld) (fun hHeld2 => ?_)
          clear hK K hHeld; have hHeld := hHeld2; clear hHeld2
          try simp only [Act.put, List.setIfInBounds_toArray, List.set_cons_zero, List.set_cons_succ]
          refine j_last rfl (by kernel_rfl) (by simp) (by kernel_rfl) (by rfl) (fun K hK => ?_)
          go_simp
          refine hK.out _ _ ?_
          have F7 := Frm.book0 HF6.out.up4 (.slice (some ⟨b6, 0, none⟩) (B.length + 1) cap6)
          obtain ⟨w7, hw7⟩ : ∃ w7, w7 = w6.setCell ⟨Bb, 0, none⟩ (.slice (some ⟨b6, 0, none⟩) (B.length + 1) cap6) := ⟨_, rfl⟩
          rw [← hw7] at F7 ⊢
          clear hw7
          have c17 : w7.cell? ⟨Bb, 1, none⟩ = some (.int .i64 (n : Int)) := (cell_of_row _ _ _ _ _ _ (F7.own (m0 _ _))).trans rfl
          have fz1 := bookO.fz (F7.own (m0 _ _)) 1
          have F8 := Frm.book1 F7 ((n : Int) + 4)
          have F9 := Lib.hid (Frm.swap (Frm.less (Frm.up3 (Frm.less (Frm.up4 F8)))))
          have HBO : Hid (BO Bb (B ++ [⟨1, st, pn⟩]) (n + 4) N (.slice (some ⟨b6, 0, none⟩) (B.length + 1) cap6) [(b6, o6), (Bb, bookO (.slice (some ⟨b6, 0, none⟩) (B.length + 1) cap6) ((n : Int) + 4) N)]) := .inr ⟨b6, o6, by rw [picsL_snoc, List.length_append]; exact HR6.out, rfl⟩
          have HNw := Lib.hid (new_ok (w7.setCell ⟨Bb, 1, none⟩ (.int .i64 ((n : Int) + 4))) Bb _ _ N (B ++ [⟨1, st, pn⟩]) (HBO.out.bm (fun x hx => hx) F9.out) (by simp; omega) y (.inr (by rw [HY.out]; simp)))
          clear F7 F8
          go_wp2_with (go_at_call 31; (with_reducible refine HNw.out.mono ?_); rintro e w8 ⟨rfl, rfl⟩)
          go_ret
          exact ⟨rfl, B ++ [⟨1, st, pn⟩], n + 4, _, _, HBO.out, HS.out.snoc ⟨1, st, pn⟩ HS32.out rfl (by omega), F9.out⟩
        · go_wp2_with (first
            | (go_at_call 15; (with_reducible refine (HOf.out _ HF1.out.be).mono ?_); rintro e w2 ⟨rfl, hb⟩; have HF2 := Lib.hid (HF1.out.belows hb); clear hb)
            | ((with_reducible refine wpList_store_g rfl 38 (.tmp 10) (.tmp 152) rfl _ (by with_unfolding_all rfl) 38 (zG 32) st (GA.new _ _ _) (by with_unfolding_all rfl) (by rw [HS32.out, z32.out]) (by rw [HS32.out]; exact infoState) ?_); intro w3 G3 S3 R3; have HF3 := HF2.out.made G3 R3; clear G3 S3 R3)
            | (with_reducible refine wpList_load_g rfl 38 (.tmp 10) rfl w2.heap.size (by with_unfolding_all rfl) 38 st (HF3.out.ga (m0 _ _)) Try.underlying38 (by rw [HS32.out]; exact infoState) ?_)
            | (go_at_call 16; have HQ := b_makeno HF3.out st (by have := HX.out; omega); (with_reducible refine HQ.mono ?_); clear HQ; rintro e w4 ⟨rfl, E⟩; have HF4 := Lib.hid E; have HBM := Lib.hid (HO.out.bm (fun x hx => List.mem_cons_of_mem _ (List.mem_cons_of_mem _ hx)) E); have c2 := HBM.out.c2; have HUd := Lib.hid (bused_any w4.drew Bb _ n N B (HBM.out.belows (Below.refl _ w4).drew) (by omega) (by omega) x hx); clear E))
          have hwN : IntKind.i64.wrap (N - x) = N - x := by rw [IntKind.wrap_i64]; omega
          have hd4 : decide (N - x ≥ 4) = false := decide_eq_false (by omega)
          refine wp_region_held_drew (S := fun w' => w'.cell? ⟨Bb, 2, none⟩ = some (.int .i64 N)) (by kernel_rfl) (c2) (fun hHeld => ?_)
          refine held_take (i := 0) (v := ?_) rfl (by kernel_rfl) (by kernel_rfl) (by kernel_rfl) (fun _ _ _ h => h) (by rfl) hHeld ?_ ?_
          rotate_left 1
          · (intro w hSw; (try dsimp only at hSw); go_simp; try (with_reducible rfl))
          try simp only [Act.put, List.setIfInBounds_toArray, List.set_cons_zero, List.set_cons_succ]
          refine held_take (i := 1) (v := ?_) rfl (by kernel_rfl) (by kernel_rfl) (by kernel_rfl) (fun _ _ _ h => h) (by rfl) hHeld ?_ ?_
          rotate_left 1
          · (intro w hSw; (try dsimp only at hSw); go_simp; try (with_reducible rfl))
          try simp only [Act.put, List.setIfInBounds_toArray, List.set_cons_zero, List.set_cons_succ]
          refine held_take (i := 2) (v := ?_) rfl (by kernel_rfl) (by kernel_rfl) (by kernel_rfl) (fun _ _ _ h => h) (by rfl) hHeld ?_ ?_
          rotate_left 1
          · (intro w hSw; (try dsimp only at hSw); go_simp; try (with_reducible rfl))
          try simp only [Act.put, List.setIfInBounds_toArray, List.set_cons_zero, List.set_cons_succ]
          refine held_take (i := 3) (v := ?_) rfl (by kernel_rfl) (by kernel_rfl) (by kernel_rfl) (fun _ _ _ h => h) (by rfl) hHeld ?_ ?_
          rotate_left 1
          · (intro w hSw; (try dsimp only at hSw); go_simp; try (with_reducible rfl))
          try simp only [Act.put, List.setIfInBounds_toArray, List.set_cons_zero, List.set_cons_succ]
          refine held_take (i := 4) (v := ?_) rfl (by kernel_rfl) (by kernel_rfl) (by kernel_rfl) (fun _ _ _ h => h) (by rfl) hHeld ?_ ?_
          rotate_left 1
          · (intro w hSw; (try dsimp only at hSw); go_simp; try (with_reducible rfl))
          try simp only [Act.put, List.setIfInBounds_toArray, List.set_cons_zero, List.set_cons_succ]
          refine held_one (i := 5) rfl (by kernel_rfl) (by rfl) (fun K hK => ?_)
          go_simp
          with_reducible refine HUd.out.mono ?_
          rintro e u1 ⟨rfl, rfl⟩
          refine hK.out _ _ (hHeld) (fun hHeld2 => ?_)
          clear hK K hHeld; have hHeld := hHeld2; clear hHeld2
          try simp only [Act.put, List.setIfInBounds_toArray, List.set_cons_zero, List.set_cons_succ]
          refine held_take (i := 6) (v := ?_) rfl (by kernel_rfl) (by kernel_rfl) (by kernel_rfl) (fun _ _ _ h => h) (by rfl) hHeld ?_ ?_
          rotate_left 1
          · (intro w hSw; (try dsimp only at hSw); go_simp; try (with_reducible rfl))
          try simp only [Act.put, List.setIfInBounds_toArray, List.set_cons_zero, List.set_cons_succ]
          refine held_take (i := 7) (v := ?_) rfl (by kernel_rfl) (by kernel_rfl) (by kernel_rfl) (fun _ _ _ h => h) (by rfl) hHeld ?_ ?_
          rotate_left 1
          · (intro w hSw; (try dsimp only at hSw); go_simp; try (with_reducible rfl))
          try simp only [Act.put, List.setIfInBounds_toArray, List.set_cons_zero, List.set_cons_succ]
          refine held_take (i := 8) (v := ?_) rfl (by kernel_rfl) (by kernel_rfl) (by kernel_rfl) (fun _ _ _ h => h) (by rfl) hHeld ?_ ?_
          rotate_left 1
          · (intro w hSw; (try dsimp only at hSw); go_simp; try (with_reducible rfl))
          try simp only [Act.put, List.setIfInBounds_toArray, List.set_cons_zero, List.set_cons_succ]
          refine wpAnyH_done (by kernel_rfl) ?_ _
          have HNw := Lib.hid (new_ok w4.drew Bb _ n N B (HBM.out.belows (Below.refl _ w4).drew) (by omega) 0 (.inl rfl))
          clear HUd HBM c2
          go_wp2_with (go_at_call 31; (with_reducible refine HNw.out.mono ?_); rintro e w8 ⟨rfl, rfl⟩)
          go_ret
          exact ⟨rfl, B, n, _, _, HO.out, HS.out.more, (Frm.drew HF4.out).less.less⟩
end Go.Proofs.Ytkmkjfbbpeocdaa
