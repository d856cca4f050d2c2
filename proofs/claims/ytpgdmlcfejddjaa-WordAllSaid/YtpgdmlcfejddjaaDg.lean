/- WALK of WordAll. -/
import Derived.Test.YtpgdmlcfejddjaaDf
import Derived.Deep.QuietTactic
import Derived.BigQuiet
namespace Go.Proofs.Ytpgdmlcfejddjaa
open Go.RowKit
set_option linter.unusedVariables false
attribute [local go_sem ↓] Go.wp_at_zero Go.wp_at_succ

theorem round_eq (x c : Int) (h : rd x = c) (w : World) :
    Calls Try.prog 10 #[.int .i64 x] w fun e w' => e = .returned (.int .i32 c) ∧ w = w' := by rw [← h]; exact round_any x w
theorem refdiv_eq (a b c : Int) (a1 : -2147483648 ≤ a) (a2 : a ≤ 2147483647) (b1 : -2147483648 ≤ b) (b2 : b ≤ 2147483647) (h : dv a b = c) (w : World) :
    Calls Try.prog 14 #[.int .i32 a, .int .i32 b] w fun e w' => e = .returned (.int .i32 c) ∧ w = w' := by rw [← h]; exact refdiv_any a b w a1 a2 b1 b2
theorem refmod_eq (a n c : Int) (a1 : -2147483648 ≤ a) (a2 : a ≤ 2147483647) (n1 : -9223372036854775808 ≤ n) (n2 : n ≤ 9223372036854775807) (h : md a n = c) (w : World) :
    Calls Try.prog 16 #[.int .i32 a, .int .i64 n] w fun e w' => e = .returned (.int .i64 c) ∧ w = w' := by rw [← h]; exact refmod_any a n w a1 a2 n1 n2
theorem mul_rng (a b : Int) (a1 : -2147483648 ≤ a) (a2 : a ≤ 2147483647) (b1 : -2147483648 ≤ b) (b2 : b ≤ 2147483647) : -4611686018427387904 ≤ a * b ∧ a * b ≤ 4611686018427387904 := by
  have h : (a * b).natAbs ≤ 2147483648 * 2147483648 := by rw [Int.natAbs_mul]; exact Nat.mul_le_mul (by omega) (by omega)
  omega

theorem u8_mod (a : Int) : u8 (a % 4294967296) = u8 a := by unfold u8; rw [show a % 4294967296 % 256 = a % 256 by omega]
theorem u8_mod1 (a : Int) : u8 (a % 4294967296 / 256) = u8 (a / 256) := by unfold u8; rw [show a % 4294967296 / 256 % 256 = a / 256 % 256 by omega]
theorem u8_mod2 (a : Int) : u8 (a % 4294967296 / 65536) = u8 (a / 65536) := by unfold u8; rw [show a % 4294967296 / 65536 % 256 = a / 65536 % 256 by omega]
theorem u8_mod3 (a : Int) : u8 (a % 4294967296 / 16777216) = u8 (a / 16777216) := by unfold u8; rw [show a % 4294967296 / 16777216 % 256 = a / 16777216 % 256 by omega]
theorem s4_mod (a : Int) : s4 (a % 4294967296) = s4 a := by unfold s4; rw [u8_mod, u8_mod1, u8_mod2, u8_mod3]
theorem four_mod (a : Int) (w : World) :
    Calls Try.prog 18 #[.int .u32 (a % 4294967296)] w fun e w' => e = .returned (.slice (some ⟨w.heap.size, 0, none⟩) 4 4) ∧ w.alloc (rowB (s4 a)) = w' := by
  have h := four_any (a % 4294967296) w (by omega) (by omega)
  rw [s4_mod] at h
  exact h
/-- Get at bytes known by name -/
theorem get_named (A : Option Addr) (l : List UInt8) (cap B n : Nat) (hn : l.length = n) (v : Int) (hv : gt4 l = v) (w : World) (hr : RB w B A l) (hc : n ≤ cap) (hm : cap ≤ maxLen) :
    Calls Try.prog 19 #[.slice A n cap] w fun e w' => e = .returned (.int .i32 v) ∧ w = w' := by
  subst hn hv
  exact get_any A l cap B w hr hc hm
theorem want_four (y0 y1 y2 y3 : UInt8) (r : List UInt8) : gt4 (y0 :: y1 :: y2 :: y3 :: r) = rd ((y0.toNat : Int) * 16777216 + (y1.toNat : Int) * 65536 + (y2.toNat : Int) * 256 + (y3.toNat : Int)) := by
  unfold gt4
  rw [if_pos (by simp)]
  have h : acc4 ((y0 :: y1 :: y2 :: y3 :: r).take 4) = (((0 * 256 + (y0.toNat : Int)) * 256 + (y1.toNat : Int)) * 256 + (y2.toNat : Int)) * 256 + (y3.toNat : Int) := rfl
  rw [h]
  have e : (((0 * 256 + (y0.toNat : Int)) * 256 + (y1.toNat : Int)) * 256 + (y2.toNat : Int)) * 256 + (y3.toNat : Int) = (y0.toNat : Int) * 16777216 + (y1.toNat : Int) * 65536 + (y2.toNat : Int) * 256 + (y3.toNat : Int) := by
    generalize (y0.toNat : Int) = a; generalize (y1.toNat : Int) = b; generalize (y2.toNat : Int) = c; generalize (y3.toNat : Int) = d
    omega
  rw [e]
theorem four_of (l : List UInt8) (h : 4 ≤ l.length) : ∃ y0 y1 y2 y3 r, l = y0 :: y1 :: y2 :: y3 :: r := by
  match l, h with
  | y0 :: y1 :: y2 :: y3 :: r, _ => exact ⟨y0, y1, y2, y3, r, rfl⟩
theorem drew_below {B : Nat} {a w : World} (h : Below B a w) : Below B a w.drew := h.drew
theorem pack (a : Int) (w : World) (a1 : -2147483648 ≤ a) (a2 : a ≤ 2147483647) :
    (convert 22 9 (.slice (some ⟨w.heap.size, 0, none⟩) 4 4)).run Try.prog (w.alloc (rowB (s4 a))).drew = .ok (.string (str (s4 a))) (w.alloc (rowB (s4 a))).drew ∧
    (convert 22 9 (.slice (some ⟨w.heap.size, 0, none⟩) 4 4)).run Try.prog ((w.alloc (rowB (s4 a))).alloc (rowB (s4 a))).drew = .ok (.string (str (s4 a))) ((w.alloc (rowB (s4 a))).alloc (rowB (s4 a))).drew ∧
    (convert 22 9 (.slice (some ⟨w.heap.size + 1, 0, none⟩) 4 4)).run Try.prog ((w.alloc (rowB (s4 a))).alloc (rowB (s4 a))).drew = .ok (.string (str (s4 a))) ((w.alloc (rowB (s4 a))).alloc (rowB (s4 a))).drew ∧
    Calls Try.prog 19 #[.slice (some ⟨w.heap.size + 1 + 1, 0, none⟩) 4 4] (((w.alloc (rowB (s4 a))).alloc (rowB (s4 a))).alloc (rowB (s4 a))).drew fun e w' => e = .returned (.int .i32 a) ∧ (((w.alloc (rowB (s4 a))).alloc (rowB (s4 a))).alloc (rowB (s4 a))).drew = w' := by
  have r1 := s4_reads w a
  have r2 := s4_reads (w.alloc (rowB (s4 a))) a
  have r3 := s4_reads ((w.alloc (rowB (s4 a))).alloc (rowB (s4 a))) a
  simp only [World.size_alloc] at r1 r2 r3
  have b2 : Below (w.heap.size + 1) (w.alloc (rowB (s4 a))) ((w.alloc (rowB (s4 a))).alloc (rowB (s4 a))) := (Below.refl _ _).alloc (by simp) _
  refine ⟨conv_bytes _ _ 0 4 (s4 a) _ (r1.below (Below.refl _ _).drew) 4 rfl, conv_bytes _ _ 0 4 (s4 a) _ (r1.below b2.drew) 4 rfl, conv_bytes _ _ 0 4 (s4 a) _ (r2.below (Below.refl _ _).drew) 4 rfl, ?_⟩
  have h := get_any (some ⟨w.heap.size + 1 + 1, 0, none⟩) (s4 a) 4 _ _ (r3.below (Below.refl _ _).drew) (by show 4 ≤ 4; omega) (by unfold maxLen; omega)
  rw [gt4_s4 a a1 a2] at h
  exact h

set_option maxRecDepth 100000 in
set_option maxHeartbeats 2000000 in
theorem all_short (a b n : Int) (A : Option Addr) (l : List UInt8) (cap : Nat) (w : World) (a1 : -2147483648 ≤ a) (a2 : a ≤ 2147483647) (b1 : -2147483648 ≤ b) (b2 : b ≤ 2147483647) (n1 : -9223372036854775808 ≤ n) (n2 : n ≤ 9223372036854775807)
    (hr : RB w w.heap.size A l) (hc : l.length ≤ cap) (hm : cap ≤ maxLen) (h4 : l.length < 4) :
    Calls Try.prog 3 #[.int .i32 a, .int .i32 b, .int .i64 n, .slice A l.length cap] w fun e w' => e = .returned (.bool true) ∧ Below w.heap.size w w' := by
  unfold maxLen at hm
  obtain ⟨p1, p2⟩ := mul_rng a b a1 a2 b1 b2
  obtain ⟨p, hp⟩ : ∃ p, a * b = p := ⟨_, rfl⟩
  obtain ⟨x1, hx1⟩ : ∃ x, rd (a + b) = x := ⟨_, rfl⟩
  obtain ⟨x2, hx2⟩ : ∃ x, rd (a - b) = x := ⟨_, rfl⟩
  obtain ⟨x3, hx3⟩ : ∃ x, rd p = x := ⟨_, rfl⟩
  obtain ⟨x4, hx4⟩ : ∃ x, dv a b = x := ⟨_, rfl⟩
  obtain ⟨x5, hx5⟩ : ∃ x, md a n = x := ⟨_, rfl⟩
  have hx3' : rd (a * b) = x3 := by rw [hp]; exact hx3
  rw [hp] at p1 p2
  have k1 := Lib.hid hx1; have k2 := Lib.hid hx2; have k3 := Lib.hid hx3; have k3' := Lib.hid hx3'; have k4 := Lib.hid hx4; have k5 := Lib.hid hx5
  clear hx1 hx2 hx3 hx3' hx4 hx5
  have K1 := Lib.hid n1; have K2 := Lib.hid n2; clear n1 n2
  have HR := Lib.hid hr; clear hr
  go_enter Try.func3, Try.ntmps3
  go_wp2_with fail
  refine (begun_below _).mono ?_
  rintro e w1 ⟨rfl, hb1⟩
  go_wp2_with fail
  refine (add_eq _ _ _ k1.out _).mono ?_
  rintro e w' ⟨rfl, rfl⟩
  go_wp2_with fail
  refine (round_eq _ _ k1.out _).mono ?_
  rintro e w' ⟨rfl, rfl⟩
  go_wp2_with fail
  refine (sub_eq _ _ _ k2.out _).mono ?_
  rintro e w' ⟨rfl, rfl⟩
  go_wp2_with fail
  refine (round_eq _ _ k2.out _).mono ?_
  rintro e w' ⟨rfl, rfl⟩
  go_wp2_with fail
  refine (mul_eq _ _ _ k3'.out _).mono ?_
  rintro e w' ⟨rfl, rfl⟩
  go_wp2_with fail
  refine (round_eq _ _ k3.out _).mono ?_
  rintro e w' ⟨rfl, rfl⟩
  go_wp2_with fail
  refine (div_eq _ _ _ b1 b2 k4.out _).mono ?_
  rintro e w' ⟨rfl, rfl⟩
  go_wp2_with fail
  refine (refdiv_eq _ _ _ a1 a2 b1 b2 k4.out _).mono ?_
  rintro e w' ⟨rfl, rfl⟩
  go_wp2_with fail
  refine (mod_eq _ _ _ a1 a2 K1.out K2.out k5.out _).mono ?_
  rintro e w' ⟨rfl, rfl⟩
  go_wp2_with fail
  refine (refmod_eq _ _ _ a1 a2 K1.out K2.out k5.out _).mono ?_
  rintro e w' ⟨rfl, rfl⟩
  clear hp k1 k2 k3 k3' k4 k5 p1 p2 K1 K2
  have hg : gt4 l = 0 := by unfold gt4; rw [if_neg (by omega)]
  have rw2 : RB w1 w.heap.size A l := HR.out.below hb1
  obtain ⟨w2, hw2⟩ : ∃ w2, w1 = w2 := ⟨_, rfl⟩
  have hb2 := hb1
  rw [hw2] at hb2 rw2
  obtain ⟨N, hN⟩ : ∃ N, l.length = N := ⟨_, rfl⟩
  rw [hN] at h4 hc ⊢
  have HN := Lib.hid hN; clear hN
  have HG := Lib.hid hg; clear hg
  go_wp2_with fail
  clear hw2 hb1

  obtain ⟨d1, d2, d3, kb⟩ := pack a w2 a1 a2
  have KB := Lib.hid kb; clear kb
  have bz : Below w2.heap.size w2 (((w2.alloc (rowB (s4 a))).alloc (rowB (s4 a))).alloc (rowB (s4 a))).drew := ((((Below.refl _ _).alloc (Nat.le_refl _) _).alloc (by simp) _).alloc (by simp; omega) _).drew
  have KG := Lib.hid (get_named _ _ cap w.heap.size _ HN.out _ HG.out (((w2.alloc (rowB (s4 a))).alloc (rowB (s4 a))).alloc (rowB (s4 a))).drew (rw2.below (bz.mono hb2.size)) hc (by unfold maxLen; omega))
  have bfin : Below w.heap.size w (((w2.alloc (rowB (s4 a))).alloc (rowB (s4 a))).alloc (rowB (s4 a))).drew := hb2.trans (bz.mono hb2.size)
  clear rw2 bz
  go_region_with (first
    | (go_at_call 17; (refine (put_any _ _ a1 a2).mono ?_); rintro e w' ⟨rfl, rfl⟩)
    | (go_at_call 18; (refine (four_mod _ _).mono ?_); rintro e w' ⟨rfl, rfl⟩)
    | (go_at_call 19; ((with_reducible refine KB.out.mono ?_); rintro e w' ⟨rfl, rfl⟩))
    | (go_at_call 19; ((with_reducible refine KG.out.mono ?_); rintro e w' ⟨rfl, rfl⟩)))
  all_goals
    go_wp2
    go_ret
    exact ⟨rfl, bfin⟩
end Go.Proofs.Ytpgdmlcfejddjaa
