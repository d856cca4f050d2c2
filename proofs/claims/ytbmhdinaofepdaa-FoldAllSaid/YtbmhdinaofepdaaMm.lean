/- WALKS over package quintainref1: pressed, reckon. -/
import Derived.Test.YtbmhdinaofepdaaMd
import Derived.Test.YtbmhdinaofepdaaMd
namespace Go.Proofs.Ytbmhdinaofepdaa
set_option maxRecDepth 100000
open Go.RowKit
set_option linter.unusedVariables false

theorem refpressed_any (PA : Option Addr) (l : List UInt8) (pc B : Nat) (z : Int) (w : World) (hr : RB w B PA l) (hc : l.length ≤ pc) (hm : pc ≤ maxLen) (hz : in32 z) :
    Calls Try.prog 21 #[.slice PA l.length pc, .int .i32 z] w fun e w' => e = .returned (.int .i32 (pressN l z)) ∧ w = w' := by
  obtain ⟨z0, z1⟩ := hz
  unfold maxLen at hm
  by_cases h0 : z < 0
  · have HQ := Lib.hid (pressed_none l z (.inl h0))
    clear hr
    go_enter Try.func21, Try.ntmps21
    go_wp2
    go_ret
    exact ⟨ret_i32 HQ.out.symm, rfl⟩
  · by_cases h1 : (l.length : Int) ≤ z
    · have HQ := Lib.hid (pressed_none l z (.inr h1))
      have h2 : z ≥ (l.length : Int) := h1
      clear hr
      go_enter Try.func21, Try.ntmps21
      go_wp2
      go_ret
      exact ⟨ret_i32 HQ.out.symm, rfl⟩
    · obtain ⟨k, hk⟩ := Int.eq_ofNat_of_zero_le (show 0 ≤ z by omega)
      have hkl : k < l.length := by omega
      have HQ := Lib.hid (pressed_some l k hkl)
      have h2 : ¬ z ≥ (l.length : Int) := by omega
      have h3 : z < (l.length : Int) := by omega
      have h4 : z.toNat = k := by omega
      obtain ⟨b, off, rfl, hbB, hcell⟩ := hr (by omega)
      have hv := hcell k hkl
      unfold vb at hv
      have hu := (l[k]'hkl).toNat_lt
      generalize l[k]'hkl = y at *
      have HK := Lib.hid hk
      clear hk hcell hr
      generalize hyy : (y.toNat : Int) = u at *
      have u0 : 0 ≤ u := by omega
      have u1 : u ≤ 255 := by omega
      clear hyy hu
      go_enter Try.func21, Try.ntmps21
      go_wp2
      go_ret
      exact ⟨by rw [HK.out]; exact ret_i32 HQ.out.symm, rfl⟩
theorem mul_rng (a b : Int) (a1 : -2147483648 ≤ a) (a2 : a ≤ 2147483647) (b1 : -2147483648 ≤ b) (b2 : b ≤ 2147483647) : -4611686018427387904 ≤ a * b ∧ a * b ≤ 4611686018427387904 := by
  have h : (a * b).natAbs ≤ 2147483648 * 2147483648 := by rw [Int.natAbs_mul]; exact Nat.mul_le_mul (by omega) (by omega)
  omega

theorem round_at (x y : Int) (h : Hid (rd x = y)) (w : World) : Calls Try.prog 23 #[.int .i64 x] w fun e w' => e = .returned (.int .i32 y) ∧ w = w' := by
  have := round_any x w
  rw [h.out] at this
  exact this
theorem refreckon_any (k b c : Int) (w : World) (k0 : 3 ≤ k) (k1 : k ≤ 8) (hb : in32 b) (hc : in32 c) :
    Calls Try.prog 24 #[.int .i64 k, .int .i32 b, .int .i32 c] w fun e w' => e = .returned (.int .i32 (reckN k b c)) ∧ w = w' := by
  obtain ⟨b0, b1⟩ := hb
  obtain ⟨c0, c1⟩ := hc
  obtain rfl | rfl | rfl | rfl | rfl | rfl : k = 3 ∨ k = 4 ∨ k = 5 ∨ k = 6 ∨ k = 7 ∨ k = 8 := by omega
  · have HR := Lib.hid (round_any (b + c))
    have HQ := Lib.hid (reckN_3 b c)
    go_enter Try.func24, Try.ntmps24
    go_wp2_with (go_at_call 23; with_reducible refine (HR.out _).mono ?_; rintro e w1 ⟨rfl, rfl⟩)
    go_ret
    exact ⟨ret_i32 HQ.out.symm, rfl⟩
  · have HR := Lib.hid (round_any (b - c))
    have HQ := Lib.hid (reckN_4 b c)
    go_enter Try.func24, Try.ntmps24
    go_wp2_with (go_at_call 23; with_reducible refine (HR.out _).mono ?_; rintro e w1 ⟨rfl, rfl⟩)
    go_ret
    exact ⟨ret_i32 HQ.out.symm, rfl⟩
  · have hlo : -4611686018427387904 ≤ b * c ∧ b * c ≤ 4611686018427387904 := mul_rng b c b0 b1 c0 c1
    obtain ⟨p0, p1⟩ := hlo
    have HR := Lib.hid (round_any (b * c))
    have HQ := Lib.hid (reckN_5 b c)
    go_enter Try.func24, Try.ntmps24
    go_wp2_with (go_at_call 23; with_reducible refine (HR.out _).mono ?_; rintro e w1 ⟨rfl, rfl⟩)
    go_ret
    exact ⟨ret_i32 HQ.out.symm, rfl⟩
  · have HR := Lib.hid (refdiv_any b c · b0 b1 c0 c1)
    have HQ := Lib.hid (reckN_6 b c)
    go_enter Try.func24, Try.ntmps24
    go_wp2_with (go_at_call 29; with_reducible refine (HR.out _).mono ?_; rintro e w1 ⟨rfl, rfl⟩)
    go_ret
    exact ⟨ret_i32 HQ.out.symm, rfl⟩
  · have HQ := Lib.hid (reckN_7 b c)
    by_cases h : b < c
    · have HT : Hid (decide (b < c) = true) := by unfold Hid; simp [h]
      go_enter Try.func24, Try.ntmps24
      go_wp2
      go_ret
      exact ⟨ret_i32 (by rw [HQ.out, HT.out]; rfl), rfl⟩
    · have HT : Hid (decide (b < c) = false) := by unfold Hid; simp [h]
      go_enter Try.func24, Try.ntmps24
      go_wp2
      go_ret
      exact ⟨ret_i32 (by rw [HQ.out, HT.out]; rfl), rfl⟩
  · have HQ := Lib.hid (reckN_8 b c)
    cases h : (b == c) with
    | true =>
      rw [h] at HQ
      go_enter Try.func24, Try.ntmps24
      go_wp2
      go_ret
      exact ⟨ret_i32 HQ.out.symm, rfl⟩
    | false =>
      rw [h] at HQ
      go_enter Try.func24, Try.ntmps24
      go_wp2
      go_ret
      exact ⟨ret_i32 HQ.out.symm, rfl⟩
end Go.Proofs.Ytbmhdinaofepdaa
