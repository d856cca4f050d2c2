/- WALK of the law QueueJoint. -/
import Derived.Test.YtbcnaklbbaoihaaXe
import Derived.Test.YtbcnaklbbaoihaaKr
namespace Go.Proofs.Ytbcnaklbbaoihaa
set_option maxRecDepth 100000
open Go.RowKit
set_option linter.unusedVariables false
set_option linter.unusedSimpArgs false

theorem three_new {xs : List Ln} (h : xs.map Ln.l = List.replicate 3 (zB 0)) : ∃ a b c, xs = [⟨a, []⟩, ⟨b, []⟩, ⟨c, []⟩] := by
  have hl : xs.length = 3 := by have := congrArg List.length h; simpa using this
  match xs, hl with
  | [⟨a, x⟩, ⟨b, y⟩, ⟨c, z⟩], _ =>
    simp [zB, List.replicate] at h
    obtain ⟨rfl, rfl, rfl⟩ := h
    exact ⟨a, b, c, rfl⟩
theorem RB.at_ {w : World} {B b off : Nat} {l : List UInt8} (h : RB w B (some ⟨b, off, none⟩) l) (k : Nat) (hk : k < l.length) : w.cell? ⟨b, off + k, none⟩ = some (vb l[k]) := by
  obtain ⟨b', off', e, _, hc⟩ := h (by omega)
  injection e with e
  injection e with e1 e2
  subst e1 e2
  exact hc k hk
/-- a whole line put at a new one's start -/
theorem QF.first {w0 w : World} {q r : Nat} {xs : List Ln} {O : Nat → Prop} (h : QF w0 w q r xs O) (p b : Nat) (hx : xs[p]? = some ⟨b, []⟩) (x : List UInt8) (A : Option Addr) (cap B X : Nat) (hX : x.length = X) (hr : RB w B A x) (hc : X ≤ cap) (hm : cap ≤ maxLen) (hX2 : X ≤ 1000) :
    Calls Try.prog 18 #[pB b, .int .i64 0, .slice A X cap] w fun e w' => e = .returned (.tuple #[.int .i64 X, .int .i64 0]) ∧ QF w0 w' q r (xs.set p ⟨b, x⟩) O ∧ Same O w w' :=
  (put_first w b x A cap B X hX (h.qm.line p _ hx).1 hr hc hm hX2).mono fun e w' ⟨he, h1, h2⟩ => ⟨he, h.put p ⟨b, []⟩ hx x X hX h1 hX2 h2⟩
set_option maxHeartbeats 4000000 in
theorem joint_law (A0 : Option Addr) (l0 : List UInt8) (cap0 : Nat) (A1 : Option Addr) (l1 : List UInt8) (cap1 : Nat) (A2 : Option Addr) (l2 : List UInt8) (cap2 : Nat) (w : World) (h0 : RB w w.heap.size A0 l0) (k0 : l0.length ≤ cap0) (m0 : cap0 ≤ maxLen) (h1 : RB w w.heap.size A1 l1) (k1 : l1.length ≤ cap1) (m1 : cap1 ≤ maxLen) (h2 : RB w w.heap.size A2 l2) (k2 : l2.length ≤ cap2) (m2 : cap2 ≤ maxLen) :
    Calls Try.prog 6 #[.slice A0 l0.length cap0, .slice A1 l1.length cap1, .slice A2 l2.length cap2] w fun e w' => e = .returned (.bool true) ∧ Below w.heap.size w w' := by
  have HG := Lib.hid (begun17_any w)
  obtain ⟨x, hx⟩ : ∃ x, l0.take 20 = x := ⟨_, rfl⟩
  obtain ⟨y, hy⟩ : ∃ y, l1.take 20 = y := ⟨_, rfl⟩
  obtain ⟨z, hz⟩ : ∃ z, l2.take 20 = z := ⟨_, rfl⟩
  obtain ⟨X, hX⟩ : ∃ X, x.length = X := ⟨_, rfl⟩
  obtain ⟨Y, hY⟩ : ∃ Y, y.length = Y := ⟨_, rfl⟩
  obtain ⟨Z, hZ⟩ : ∃ Z, z.length = Z := ⟨_, rfl⟩
  obtain ⟨hX20, hXc⟩ : X ≤ 20 ∧ X ≤ cap0 := by rw [← hx, List.length_take] at hX; omega
  obtain ⟨hY20, hYc⟩ : Y ≤ 20 ∧ Y ≤ cap1 := by rw [← hy, List.length_take] at hY; omega
  obtain ⟨hZ20, hZc⟩ : Z ≤ 20 ∧ Z ≤ cap2 := by rw [← hz, List.length_take] at hZ; omega
  have HS0 := Lib.hid (fun W => short_n A0 l0 l0.length cap0 20 W rfl (by omega) k0 m0 X (by rw [hx, hX]) 20 rfl)
  have HS1 := Lib.hid (fun W => short_n A1 l1 l1.length cap1 20 W rfl (by omega) k1 m1 Y (by rw [hy, hY]) 20 rfl)
  have HS2 := Lib.hid (fun W => short_n A2 l2 l2.length cap2 20 W rfl (by omega) k2 m2 Z (by rw [hz, hZ]) 20 rfl)
  have H0 : Hid (RB w w.heap.size A0 x) := by unfold Hid; rw [← hx]; exact h0.take 20
  have H1 : Hid (RB w w.heap.size A1 y) := by unfold Hid; rw [← hy]; exact h1.take 20
  have H2 : Hid (RB w w.heap.size A2 z) := by unfold Hid; rw [← hz]; exact h2.take 20
  have HX := Lib.hid hX; have HY := Lib.hid hY; have HZ := Lib.hid hZ
  have M0 := Lib.hid m0; have M1 := Lib.hid m1; have M2 := Lib.hid m2
  obtain ⟨n0, hn0⟩ : ∃ n0, l0.length = n0 := ⟨_, rfl⟩
  obtain ⟨n1, hn1⟩ : ∃ n1, l1.length = n1 := ⟨_, rfl⟩
  obtain ⟨n2, hn2⟩ : ∃ n2, l2.length = n2 := ⟨_, rfl⟩
  rw [hn0] at HS0 ⊢; rw [hn1] at HS1 ⊢; rw [hn2] at HS2 ⊢
  obtain ⟨u, hu⟩ : ∃ u : Nat, min Y Z = u := ⟨_, rfl⟩
  obtain ⟨m, hm⟩ : ∃ m : Nat, min X u = m := ⟨_, rfl⟩
  have e1 : min (Y : Int) (Z : Int) = (u : Int) := by omega
  have e2 : min (X : Int) (u : Int) = (m : Int) := by omega
  have hmX : m ≤ X := by omega
  have hmY : m ≤ Y := by omega
  have hmZ : m ≤ Z := by omega
  have hFm : Hid (∀ a b c, frontN [⟨a, x⟩, ⟨b, y⟩, ⟨c, z⟩] = m) := fun a b c => by show min (min (min 1000 x.length) y.length) z.length = m; omega
  clear h0 h1 h2 hx hy hz hX hY hZ hn0 hn1 hn2 k0 k1 k2 m0 m1 m2 hu hm
  go_enter Try.func6, Try.ntmps6
  go_wp2_with (first
    | (go_at_call 7; with_reducible refine HG.out.mono ?_; rintro e w3 ⟨rfl, hb⟩; have HB := Lib.hid hb; clear hb)
    | (go_at_call 19; with_reducible refine (HS0.out _).mono ?_; rintro e w4 ⟨rfl, rfl⟩)
    | (go_at_call 19; with_reducible refine (HS1.out _).mono ?_; rintro e w4 ⟨rfl, rfl⟩)
    | (go_at_call 19; with_reducible refine (HS2.out _).mono ?_; rintro e w4 ⟨rfl, rfl⟩))
  refine (qf_new w _ HB.out noB (no_noB _ _) 3 0 3 0 (by omega) (by omega)).mono ?_
  rintro e w4 ⟨q, r, xs, rfl, F4, hmp, -⟩
  obtain ⟨a, b, c, rfl⟩ := three_new hmp
  have L0 := Lib.hid (line_in w4 q r _ F4.qm 0 0 rfl ⟨a, []⟩ rfl)
  have P0 := Lib.hid (F4.first 0 a rfl x A0 cap0 w.heap.size X HX.out (H0.out.below F4.be) hXc M0.out (by omega))
  clear HG HS0 HS1 HS2 HB hmp F4
  go_wp2_with (go_at_call 17; with_reducible refine L0.out.mono ?_; rintro e w5 ⟨rfl, rfl⟩)
  (with_reducible refine P0.out.mono ?_)
  rintro e w5 ⟨rfl, F5, -⟩
  have L1 := Lib.hid (line_in w5 q r _ F5.qm 1 1 rfl ⟨b, []⟩ rfl)
  have P1 := Lib.hid (F5.first 1 b rfl y A1 cap1 w.heap.size Y HY.out (H1.out.below F5.be) hYc M1.out (by omega))
  clear L0 P0 F5
  go_wp2_with (go_at_call 17; with_reducible refine L1.out.mono ?_; rintro e w6 ⟨rfl, rfl⟩)
  (with_reducible refine P1.out.mono ?_)
  rintro e w6 ⟨rfl, F6, -⟩
  have L2 := Lib.hid (line_in w6 q r _ F6.qm 2 2 rfl ⟨c, []⟩ rfl)
  have P2 := Lib.hid (F6.first 2 c rfl z A2 cap2 w.heap.size Z HZ.out (H2.out.below F6.be) hZc M2.out (by omega))
  clear L1 P1 F6
  go_wp2_with (go_at_call 17; with_reducible refine L2.out.mono ?_; rintro e w7 ⟨rfl, rfl⟩)
  (with_reducible refine P2.out.mono ?_)
  rintro e w7 ⟨rfl, F7, -⟩
  have F7' : QF w w7 q r [⟨a, x⟩, ⟨b, y⟩, ⟨c, z⟩] noB := F7
  have HF7 := Lib.hid F7'
  have hF3 := Lib.hid (hFm.out a b c)
  clear L2 P2 F7 F7' hFm
  go_wp2_with fail
  go_loopw [10, 11, 12, 13] (fun i j ok k' wr => ∃ (k : Nat), i = .int .i64 (k : Int) ∧ k ≤ m ∧ Hid (QF w wr q r [⟨a, x⟩, ⟨b, y⟩, ⟨c, z⟩] noB)) (fun i _ _ _ _ => m - (intOf i).toNat)
  case atStart => exact ⟨0, rfl, by omega, HF7.out⟩
  case round =>
    obtain ⟨k, rfl, hk, F⟩ := hrel
    clear HF7
    by_cases hlt : k < m
    · have hkm : (k : Int) < (m : Int) := by omega
      have HJ := Lib.hid (joint_in wr q r _ F.out.qm 3 rfl (by omega) (by omega) m hF3.out (k : Int) k rfl hlt)
      go_wp2_with fail
      (with_reducible refine HJ.out.mono ?_)
      rintro e w8 ⟨rfl, o8, b8⟩
      have F8 := F.out.belows b8
      obtain ⟨g0, f0, rfl, hg0, q0⟩ := H0.out.below F8.be (by have := HX.out; omega)
      obtain ⟨g1, f1, rfl, hg1, q1⟩ := H1.out.below F8.be (by have := HY.out; omega)
      obtain ⟨g2, f2, rfl, hg2, q2⟩ := H2.out.below F8.be (by have := HZ.out; omega)
      obtain ⟨s0, hs0⟩ : ∃ s : UInt8, x[k]'(by have := HX.out; omega) = s := ⟨_, rfl⟩
      obtain ⟨s1, hs1⟩ : ∃ s : UInt8, y[k]'(by have := HY.out; omega) = s := ⟨_, rfl⟩
      obtain ⟨s2, hs2⟩ : ∃ s : UInt8, z[k]'(by have := HZ.out; omega) = s := ⟨_, rfl⟩
      have j3 : jointN [⟨a, x⟩, ⟨b, y⟩, ⟨c, z⟩] k = [s0, s1, s2] := by
        show [(x[k]?).getD 0, (y[k]?).getD 0, (z[k]?).getD 0] = _
        rw [List.getElem?_eq_getElem (by have := HX.out; omega), List.getElem?_eq_getElem (by have := HY.out; omega), List.getElem?_eq_getElem (by have := HZ.out; omega), hs0, hs1, hs2]; rfl
      rw [j3] at o8
      have J3 := Lib.hid j3
      have d0 : w8.drew.cell? ⟨g0, f0 + k, none⟩ = some (vb s0) := by rw [← hs0]; exact q0 k _
      have d1 : w8.drew.cell? ⟨g1, f1 + k, none⟩ = some (vb s1) := by rw [← hs1]; exact q1 k _
      have d2 : w8.drew.cell? ⟨g2, f2 + k, none⟩ = some (vb s2) := by rw [← hs2]; exact q2 k _
      unfold vb at d0 d1 d2
      obtain ⟨t0, ht0⟩ : ∃ t : Int, (s0.toNat : Int) = t := ⟨_, rfl⟩
      obtain ⟨t1, ht1⟩ : ∃ t : Int, (s1.toNat : Int) = t := ⟨_, rfl⟩
      obtain ⟨t2, ht2⟩ : ∃ t : Int, (s2.toNat : Int) = t := ⟨_, rfl⟩
      rw [ht0] at d0; rw [ht1] at d1; rw [ht2] at d2
      obtain ⟨st, hst⟩ : ∃ st, str [s0, s1, s2] = st := ⟨_, rfl⟩
      have r8 : RB w8 w8.heap.size (some ⟨wr.heap.size, 0, none⟩) [s0, s1, s2] := o8.cells
      obtain ⟨w9, hw9⟩ : ∃ w9, w9 = (w8.alloc (.cells #[.int .u8 t0, .int .u8 t1, .int .u8 t2] 5)).drew := ⟨_, rfl⟩
      have b9 : Below w8.heap.size w8 w9 := by rw [hw9]; exact ((Below.refl _ _).alloc (Nat.le_refl _) _).drew
      have cv1 : (convert 29 9 (.slice (some ⟨wr.heap.size, 0, none⟩) 3 3)).run Try.prog w8.drew = .ok (.string st) w8.drew := by rw [← hst]; exact conv_rb (w := w8.drew) r8 3 3 rfl
      have cv2 : (convert 29 9 (.slice (some ⟨wr.heap.size, 0, none⟩) 3 3)).run Try.prog w9 = .ok (.string st) w9 := by rw [← hst]; exact conv_rb (r8.below b9) 3 3 rfl
      have cv3 : (convert 29 9 (.slice (some ⟨w8.heap.size, 0, none⟩) 3 3)).run Try.prog w9 = .ok (.string st) w9 := by
        rw [← hst]
        refine conv_rb (B := w8.heap.size + 1) ?_ 3 3 rfl
        have := rb_cells w8 [s0, s1, s2] 5 (w8.heap.size + 1) (by show w8.heap.size < _; omega)
        rw [hw9, ← ht0, ← ht1, ← ht2]
        exact this
      have x0 := (b9.cell (p := ⟨g0, f0 + k, none⟩) (Nat.lt_of_lt_of_le hg0 F8.be.size)).trans d0
      have x1 := (b9.cell (p := ⟨g1, f1 + k, none⟩) (Nat.lt_of_lt_of_le hg1 F8.be.size)).trans d1
      have x2 := (b9.cell (p := ⟨g2, f2 + k, none⟩) (Nat.lt_of_lt_of_le hg2 F8.be.size)).trans d2
      have o9 := o8.below b9 (Nat.le_refl _)
      have y0 := o9.cell_at rfl 0 (by show 0 < 3; omega)
      have y0' : w9.cell? ⟨wr.heap.size, 0, none⟩ = some (.int .u8 t0) := by rw [← ht0]; exact y0
      have z0 := o9.frozen_at rfl 0
      have F9 := F8.belows b9
      have t0r : 0 ≤ t0 ∧ t0 ≤ 255 := by rw [← ht0]; have := s0.toNat_lt; omega
      obtain ⟨t0a, t0b⟩ := t0r
      have HT0 := Lib.hid ht0; have HS0 := Lib.hid hs0
      have KP := Lib.hid (And.intro cv2 (And.intro x0 (And.intro x1 x2)))
      have HW9 := Lib.hid hw9; have HB9 := Lib.hid b9; have HF9 := Lib.hid F9; have HB8 := Lib.hid b8; have C3 := Lib.hid cv3; have HO9 := Lib.hid o9
      have hk20 : (k : Int) ≤ 20 := by omega
      have g0' : (k : Int) < (X : Int) := by omega
      have g1' : (k : Int) < (Y : Int) := by omega
      have g2' : (k : Int) < (Z : Int) := by omega
      clear HJ F8 F9 q0 q1 q2 hs0 hs1 hs2 ht0 ht1 ht2 hst r8 hw9 b9 cv2 cv3 x0 x1 x2 y0 o9 j3 o8 b8
      go_wp2_with fail
      refine wp_region_held_drew (S := (fun w' => (convert 29 9 (.slice (some ⟨wr.heap.size, 0, none⟩) 3 3)).run Try.prog w' = .ok (.string st) w' ∧ w'.cell? ⟨g0, f0 + k, none⟩ = some (.int .u8 t0) ∧ w'.cell? ⟨g1, f1 + k, none⟩ = some (.int .u8 t1) ∧ w'.cell? ⟨g2, f2 + k, none⟩ = some (.int .u8 t2))) (by kernel_rfl) (⟨cv1, d0, d1, d2⟩) (fun hHeld => ?_)
      refine held_take (i := 0) (v := ?_) rfl (by kernel_rfl) (by kernel_rfl) (by kernel_rfl) (fun _ _ _ h => h) (by rfl) hHeld ?_ ?_
      rotate_left 1
      · (intro w hSw; (try dsimp only at hSw); go_simp; try (with_reducible rfl))
      try simp only [Act.put, List.setIfInBounds_toArray, List.set_cons_zero, List.set_cons_succ]
      refine held_take (i := 1) (v := ?_) rfl (by kernel_rfl) (by kernel_rfl) (by kernel_rfl) (fun _ _ _ h => h) (by rfl) hHeld ?_ ?_
      rotate_left 1
      · (intro w hSw; (try dsimp only at hSw); go_simp; try (with_reducible rfl))
      try simp only [Act.put, List.setIfInBounds_toArray, List.set_cons_zero, List.set_cons_succ]
      refine held_take (i := 2) (v := ?_) rfl (by kernel_rfl) (by kernel_rfl) (by kernel_rfl) (fun _ _ _ h => h) (by rfl) hHeld ?_ ?_
      rotate_left 1
      · (intro w hSw; (try dsimp only at hSw); go_simp; try (with_reducible rfl))
      try simp only [Act.put, List.setIfInBounds_toArray, List.set_cons_zero, List.set_cons_succ]
      refine held_take (i := 3) (v := ?_) rfl (by kernel_rfl) (by kernel_rfl) (by kernel_rfl) (fun _ _ _ h => h) (by rfl) hHeld ?_ ?_
      rotate_left 1
      · (intro w hSw; (try dsimp only at hSw); go_simp; try (with_reducible rfl))
      try simp only [Act.put, List.setIfInBounds_toArray, List.set_cons_zero, List.set_cons_succ]
      refine held_take (i := 4) (v := ?_) rfl (by kernel_rfl) (by kernel_rfl) (by kernel_rfl) (fun _ _ _ h => h) (by rfl) hHeld ?_ ?_
      rotate_left 1
      · (intro w hSw; (try dsimp only at hSw); go_simp; try (with_reducible rfl))
      try simp only [Act.put, List.setIfInBounds_toArray, List.set_cons_zero, List.set_cons_succ]
      refine held_take (i := 5) (v := ?_) rfl (by kernel_rfl) (by kernel_rfl) (by kernel_rfl) (fun _ _ _ h => h) (by rfl) hHeld ?_ ?_
      rotate_left 1
      · (intro w hSw; (try dsimp only at hSw); go_simp; try (with_reducible rfl))
      try simp only [Act.put, List.setIfInBounds_toArray, List.set_cons_zero, List.set_cons_succ]
      refine held_take (i := 6) (v := ?_) rfl (by kernel_rfl) (by kernel_rfl) (by kernel_rfl) (fun _ _ _ h => h) (by rfl) hHeld ?_ ?_
      rotate_left 1
      · (intro w hSw; (try dsimp only at hSw); go_simp; try (with_reducible rfl))
      try simp only [Act.put, List.setIfInBounds_toArray, List.set_cons_zero, List.set_cons_succ]
      refine held_take (i := 7) (v := ?_) rfl (by kernel_rfl) (by kernel_rfl) (by kernel_rfl) (fun _ _ _ h => h) (by rfl) hHeld ?_ ?_
      rotate_left 1
      · (intro w hSw; (try dsimp only at hSw); go_simp; try (with_reducible rfl))
      try simp only [Act.put, List.setIfInBounds_toArray, List.set_cons_zero, List.set_cons_succ]
      refine held_take (i := 8) (v := ?_) rfl (by kernel_rfl) (by kernel_rfl) (by kernel_rfl) (fun _ _ _ h => h) (by rfl) hHeld ?_ ?_
      rotate_left 1
      · (intro w hSw; (try dsimp only at hSw); go_simp; try (with_reducible rfl))
      try simp only [Act.put, List.setIfInBounds_toArray, List.set_cons_zero, List.set_cons_succ]
      refine held_take (i := 9) (v := ?_) rfl (by kernel_rfl) (by kernel_rfl) (by kernel_rfl) (fun _ _ _ h => h) (by rfl) hHeld ?_ ?_
      rotate_left 1
      · (intro w hSw; (try dsimp only at hSw); go_simp; try (with_reducible rfl))
      try simp only [Act.put, List.setIfInBounds_toArray, List.set_cons_zero, List.set_cons_succ]
      refine held_take (i := 10) (v := ?_) rfl (by kernel_rfl) (by kernel_rfl) (by kernel_rfl) (fun _ _ _ h => h) (by rfl) hHeld ?_ ?_
      rotate_left 1
      · (intro w hSw; (try dsimp only at hSw); go_simp; try (with_reducible rfl))
      try simp only [Act.put, List.setIfInBounds_toArray, List.set_cons_zero, List.set_cons_succ]
      refine held_take (i := 11) (v := ?_) rfl (by kernel_rfl) (by kernel_rfl) (by kernel_rfl) (fun _ _ _ h => h) (by rfl) hHeld ?_ ?_
      rotate_left 1
      · (intro w hSw; (try dsimp only at hSw); go_simp; try (with_reducible rfl))
      try simp only [Act.put, List.setIfInBounds_toArray, List.set_cons_zero, List.set_cons_succ]
      refine held_take (i := 12) (v := ?_) rfl (by kernel_rfl) (by kernel_rfl) (by kernel_rfl) (fun _ _ _ h => h) (by rfl) hHeld ?_ ?_
      rotate_left 1
      · (intro w hSw; (try dsimp only at hSw); go_simp; try (with_reducible rfl))
      try simp only [Act.put, List.setIfInBounds_toArray, List.set_cons_zero, List.set_cons_succ]
      refine held_take (i := 13) (v := ?_) rfl (by kernel_rfl) (by kernel_rfl) (by kernel_rfl) (fun _ _ _ h => h) (by rfl) hHeld ?_ ?_
      rotate_left 1
      · (intro w hSw; (try dsimp only at hSw); go_simp; try (with_reducible rfl))
      try simp only [Act.put, List.setIfInBounds_toArray, List.set_cons_zero, List.set_cons_succ]
      refine held_take (i := 14) (v := ?_) rfl (by kernel_rfl) (by kernel_rfl) (by kernel_rfl) (fun _ _ _ h => h) (by rfl) hHeld ?_ ?_
      rotate_left 1
      · (intro w hSw; (try dsimp only at hSw); go_simp; try (with_reducible rfl))
      try simp only [Act.put, List.setIfInBounds_toArray, List.set_cons_zero, List.set_cons_succ]
      refine held_take (i := 15) (v := ?_) rfl (by kernel_rfl) (by kernel_rfl) (by kernel_rfl) (fun _ _ _ h => h) (by rfl) hHeld ?_ ?_
      rotate_left 1
      · (intro w hSw; (try dsimp only at hSw); go_simp; try (with_reducible rfl))
      try simp only [Act.put, List.setIfInBounds_toArray, List.set_cons_zero, List.set_cons_succ]
      refine held_take (i := 16) (v := ?_) rfl (by kernel_rfl) (by kernel_rfl) (by kernel_rfl) (fun _ _ _ h => h) (by rfl) hHeld ?_ ?_
      rotate_left 1
      · (intro w hSw; (try dsimp only at hSw); go_simp; try (with_reducible rfl))
      try simp only [Act.put, List.setIfInBounds_toArray, List.set_cons_zero, List.set_cons_succ]
      refine held_one (i := 17) rfl (by kernel_rfl) (by rfl) (fun K hK => ?_)
      go_simp
      rw [← HW9.out]
      have cv3 := C3.out
      refine hK.out _ _ (KP.out) (fun hHeld2 => ?_)
      clear hK K hHeld; have hHeld := hHeld2; clear hHeld2
      try simp only [Act.put, List.setIfInBounds_toArray, List.set_cons_zero, List.set_cons_succ]
      refine held_one (i := 18) rfl (by kernel_rfl) (by rfl) (fun K hK => ?_)
      go_simp
      refine hK.out _ _ (KP.out) (fun hHeld2 => ?_)
      clear hK K hHeld; have hHeld := hHeld2; clear hHeld2
      try simp only [Act.put, List.setIfInBounds_toArray, List.set_cons_zero, List.set_cons_succ]
      refine held_take (i := 19) (v := ?_) rfl (by kernel_rfl) (by kernel_rfl) (by kernel_rfl) (fun _ _ _ h => h) (by rfl) hHeld ?_ ?_
      rotate_left 1
      · (intro w hSw; (try dsimp only at hSw); go_simp; try (with_reducible rfl))
      try simp only [Act.put, List.setIfInBounds_toArray, List.set_cons_zero, List.set_cons_succ]
      refine held_take (i := 20) (v := ?_) rfl (by kernel_rfl) (by kernel_rfl) (by kernel_rfl) (fun _ _ _ h => h) (by rfl) hHeld ?_ ?_
      rotate_left 1
      · (intro w hSw; (try dsimp only at hSw); go_simp; try (with_reducible rfl))
      try simp only [Act.put, List.setIfInBounds_toArray, List.set_cons_zero, List.set_cons_succ]
      refine wpAnyH_done (by kernel_rfl) ?_ _
      skip
      go_wp2_with fail
      have b10 : Below wr.heap.size wr (w9.setCell ⟨wr.heap.size, 0, none⟩ (.int .u8 ((t0 + 1) % 256))) := (HB8.out.trans (HB9.out.mono HB8.out.size)).setCell (p := ⟨wr.heap.size, 0, none⟩) (Nat.le_refl _) _
      obtain ⟨w10, hw10⟩ : ∃ w10, w10 = w9.setCell ⟨wr.heap.size, 0, none⟩ (.int .u8 ((t0 + 1) % 256)) := ⟨_, rfl⟩
      rw [← hw10] at b10 ⊢
      have F10 := F.out.belows b10
      have HJ2 := Lib.hid (joint_in w10 q r _ F10.qm 3 rfl (by omega) (by omega) m hF3.out (k : Int) k rfl hlt)
      have HF10 := Lib.hid F10
      clear hw10 b10 F10 HW9 HB9 HB8 HF9 C3 HO9 KP y0' z0
      (with_reducible refine HJ2.out.mono ?_)
      rintro e w11 ⟨rfl, o11, b11⟩
      rw [J3.out] at o11
      have F11 := HF10.out.belows b11
      have r0 : w11.drew.cell? ⟨g0, f0 + k, none⟩ = some (.int .u8 t0) := by
        have := (H0.out.below F11.be).at_ k (by have := HX.out; omega)
        rw [HS0.out] at this
        rw [← HT0.out]; exact this
      have r1 : w11.drew.cell? ⟨w10.heap.size, 0, none⟩ = some (.int .u8 t0) := by
        have := o11.cell_at rfl 0 (by show 0 < 3; omega)
        rw [← HT0.out]; exact this
      have HF11 := Lib.hid F11
      have hk2 : Hid (k + 1 ≤ m) := hlt
      have hms : Hid (m - (k + 1) < m - k) := by show _ < _; omega
      clear HJ2 o11 b11 F11 HF10
      go_wp2_with fail
      go_region
      all_goals
        go_wp2
        go_roundw
        case rel => exact ⟨k + 1, by go_num, hk2.out, HF11.out.drew⟩
        case measure => simp [intOf]; have := hms.out; omega
    · obtain rfl : k = m := by omega
      have HFR := Lib.hid (front_any wr q r _ F.out.qm (by show 0 < 3; omega) (by show 3 ≤ 8; omega) k hF3.out)
      have HB := Lib.hid F.out.be
      clear F
      go_wp2_with (go_at_call 12; with_reducible refine HFR.out.mono ?_; rintro e w8 ⟨rfl, rfl⟩)
      go_ret
      exact ⟨rfl, HB.out⟩
end Go.Proofs.Ytbcnaklbbaoihaa
