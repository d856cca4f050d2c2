/- WALKS of the laws of layer 4: begun, WordRing. -/
import Derived.Test.YtpgdmlcfejddjaaDb
import Derived.OpenShut
namespace Go.Proofs.Ytpgdmlcfejddjaa
open Go.RowKit
set_option linter.unusedVariables false

theorem add_eq (a b c : Int) (h : rd (a + b) = c) (w : World) :
    Calls Try.prog 9 #[.int .i32 a, .int .i32 b] w fun e w' => e = .returned (.int .i32 c) ∧ w = w' := by rw [← h]; exact add_any a b w
theorem sub_eq (a b c : Int) (h : rd (a - b) = c) (w : World) :
    Calls Try.prog 11 #[.int .i32 a, .int .i32 b] w fun e w' => e = .returned (.int .i32 c) ∧ w = w' := by rw [← h]; exact sub_any a b w
theorem mul_eq (a b c : Int) (h : rd (a * b) = c) (w : World) :
    Calls Try.prog 12 #[.int .i32 a, .int .i32 b] w fun e w' => e = .returned (.int .i32 c) ∧ w = w' := by rw [← h]; exact mul_any a b w
theorem div_eq (a b c : Int) (b1 : -2147483648 ≤ b) (b2 : b ≤ 2147483647) (h : dv a b = c) (w : World) :
    Calls Try.prog 13 #[.int .i32 a, .int .i32 b] w fun e w' => e = .returned (.int .i32 c) ∧ w = w' := by rw [← h]; exact div_any a b w b1 b2
theorem mod_eq (a n c : Int) (a1 : -2147483648 ≤ a) (a2 : a ≤ 2147483647) (n1 : -9223372036854775808 ≤ n) (n2 : n ≤ 9223372036854775807) (h : md a n = c) (w : World) :
    Calls Try.prog 15 #[.int .i32 a, .int .i64 n] w fun e w' => e = .returned (.int .i64 c) ∧ w = w' := by rw [← h]; exact mod_any a n w a1 a2 n1 n2

set_option maxRecDepth 100000 in
set_option maxHeartbeats 1000000 in
theorem begun_any (w : World) : Calls Try.prog 8 #[] w fun e w' => e = .returned (.bool true) ∧ w.alloc (rowB (s4 (-2))) = w' := by
  go_enter Try.func8, Try.ntmps8
  go_wp2_with fail
  refine (add_eq _ _ (-2147483648) (by decide) _).mono ?_
  rintro e w' ⟨rfl, rfl⟩
  go_wp2_with fail
  refine (sub_eq _ _ (-2147483648) (by decide) _).mono ?_
  rintro e w' ⟨rfl, rfl⟩
  go_wp2_with fail
  refine (mul_eq _ _ 0 (by decide) _).mono ?_
  rintro e w' ⟨rfl, rfl⟩
  go_wp2_with fail
  refine (div_eq _ _ (-3) (by decide) (by decide) (by decide) _).mono ?_
  rintro e w' ⟨rfl, rfl⟩
  go_wp2_with fail
  refine (div_eq _ _ 0 (by decide) (by decide) (by decide) _).mono ?_
  rintro e w' ⟨rfl, rfl⟩
  go_wp2_with fail
  refine (mod_eq _ _ 7 (by decide) (by decide) (by decide) (by decide) (by decide) _).mono ?_
  rintro e w' ⟨rfl, rfl⟩
  go_wp2_with fail
  refine (put_any (-2) _ (by decide) (by decide)).mono ?_
  rintro e w' ⟨rfl, rfl⟩
  go_wp2_with fail
  refine (back_any (-2) _ (by decide) (by decide)).mono ?_
  rintro e w' ⟨rfl, rfl⟩
  go_wp2
  go_ret
  exact ⟨rfl, rfl⟩
theorem begun_below (w : World) : Calls Try.prog 8 #[] w fun e w' => e = .returned (.bool true) ∧ Below w.heap.size w w' :=
  (begun_any w).mono fun e w' ⟨he, hw⟩ => ⟨he, hw ▸ (Below.refl _ _).alloc (Nat.le_refl _) _⟩

/-! ### a ring -/
theorem rd_mod (x : Int) : ∃ k, rd x = x + 4294967296 * k := ⟨-((x + 2147483648) / 4294967296), by unfold rd; omega⟩
theorem rd_cong (x y k : Int) (h : x = y + 4294967296 * k) : rd x = rd y := by subst h; unfold rd; omega
theorem rd_add_l (x y : Int) : rd (rd x + y) = rd (x + y) := by
  obtain ⟨k, hk⟩ := rd_mod x
  rw [hk]; exact rd_cong _ _ k (by omega)
theorem rd_add_r (x y : Int) : rd (x + rd y) = rd (x + y) := by rw [Int.add_comm, rd_add_l, Int.add_comm]
theorem rd_sub_l (x y : Int) : rd (rd x - y) = rd (x - y) := by rw [Int.sub_eq_add_neg, rd_add_l, ← Int.sub_eq_add_neg]
theorem rd_sub_r (x y : Int) : rd (x - rd y) = rd (x - y) := by
  obtain ⟨k, hk⟩ := rd_mod y
  rw [hk]; exact rd_cong _ _ (-k) (by omega)
theorem rd_mul_l (x y : Int) : rd (rd x * y) = rd (x * y) := by
  obtain ⟨k, hk⟩ := rd_mod x
  rw [hk]; exact rd_cong _ _ (k * y) (by rw [Int.add_mul, Int.mul_assoc])
theorem rd_mul_r (x y : Int) : rd (x * rd y) = rd (x * y) := by rw [Int.mul_comm, rd_mul_l, Int.mul_comm]

set_option maxRecDepth 100000 in
set_option maxHeartbeats 1000000 in
theorem ring_law (a b c : Int) (w : World) (ha : (Lit.int .i32 a).wf = true) (hb : (Lit.int .i32 b).wf = true) (hc : (Lit.int .i32 c).wf = true) :
    Calls Try.prog 4 #[.int .i32 a, .int .i32 b, .int .i32 c] w fun e w' => e = .returned (.bool true) ∧ Below w.heap.size w w' := by
  obtain ⟨a1, a2⟩ := bounds_i32 ha
  obtain ⟨b1, b2⟩ := bounds_i32 hb
  obtain ⟨c1, c2⟩ := bounds_i32 hc
  clear ha hb hc
  obtain ⟨p, hp⟩ : ∃ p, rd (a + b) = p := ⟨_, rfl⟩
  obtain ⟨q, hq⟩ : ∃ q, rd (b + c) = q := ⟨_, rfl⟩
  obtain ⟨m, hm⟩ : ∃ m, rd (a * b) = m := ⟨_, rfl⟩
  obtain ⟨n, hn⟩ : ∃ n, rd (a * c) = n := ⟨_, rfl⟩
  obtain ⟨r, hr⟩ : ∃ r, rd (b * c) = r := ⟨_, rfl⟩
  obtain ⟨x, hx⟩ : ∃ x, rd (a + b + c) = x := ⟨_, rfl⟩
  obtain ⟨y, hy⟩ : ∃ y, rd (a * b + a * c) = y := ⟨_, rfl⟩
  obtain ⟨z, hz⟩ : ∃ z, rd (a * b * c) = z := ⟨_, rfl⟩
  have kp2 := Lib.hid (show rd (b + a) = p by rw [Int.add_comm, hp])
  have k2 := Lib.hid (show rd (p + c) = x by rw [← hp, rd_add_l, hx])
  have k3 := Lib.hid (show rd (a + q) = x by rw [← hq, rd_add_r, ← hx, Int.add_assoc])
  have k4 := Lib.hid (show rd (a * q) = y by rw [← hq, rd_mul_r, ← hy, Int.mul_add])
  have k5 := Lib.hid (show rd (m + n) = y by rw [← hm, ← hn, rd_add_l, rd_add_r, hy])
  have k6 := Lib.hid (show rd (p - b) = a by rw [← hp, rd_sub_l]; unfold rd; omega)
  have k7 := Lib.hid (show rd (m * c) = z by rw [← hm, rd_mul_l, hz])
  have k8 := Lib.hid (show rd (a * r) = z by rw [← hr, rd_mul_r, ← hz, Int.mul_assoc])
  have k9 := Lib.hid (show rd (a + 0) = a by unfold rd; omega)
  have k10 := Lib.hid (show rd (a * 1) = a by unfold rd; omega)
  have kp := Lib.hid hp; have kq := Lib.hid hq; have km := Lib.hid hm; have kn := Lib.hid hn; have kr := Lib.hid hr
  clear hp hq hm hn hr hx hy hz
  go_enter Try.func4, Try.ntmps4
  go_wp2_with fail
  refine (begun_below _).mono ?_
  rintro e w1 ⟨rfl, hb1⟩
  go_wp2_with fail
  refine (add_eq _ _ _ kp.out _).mono ?_
  rintro e w' ⟨rfl, rfl⟩
  go_wp2_with fail
  refine (add_eq _ _ _ kp2.out _).mono ?_
  rintro e w' ⟨rfl, rfl⟩
  go_wp2_with fail
  refine (add_eq _ _ _ kp.out _).mono ?_
  rintro e w' ⟨rfl, rfl⟩
  go_wp2_with fail
  refine (add_eq _ _ _ k2.out _).mono ?_
  rintro e w' ⟨rfl, rfl⟩
  go_wp2_with fail
  refine (add_eq _ _ _ kq.out _).mono ?_
  rintro e w' ⟨rfl, rfl⟩
  go_wp2_with fail
  refine (add_eq _ _ _ k3.out _).mono ?_
  rintro e w' ⟨rfl, rfl⟩
  go_wp2_with fail
  refine (add_eq _ _ _ kq.out _).mono ?_
  rintro e w' ⟨rfl, rfl⟩
  go_wp2_with fail
  refine (mul_eq _ _ _ k4.out _).mono ?_
  rintro e w' ⟨rfl, rfl⟩
  go_wp2_with fail
  refine (mul_eq _ _ _ km.out _).mono ?_
  rintro e w' ⟨rfl, rfl⟩
  go_wp2_with fail
  refine (mul_eq _ _ _ kn.out _).mono ?_
  rintro e w' ⟨rfl, rfl⟩
  go_wp2_with fail
  refine (add_eq _ _ _ k5.out _).mono ?_
  rintro e w' ⟨rfl, rfl⟩
  go_wp2_with fail
  refine (add_eq _ _ _ kp.out _).mono ?_
  rintro e w' ⟨rfl, rfl⟩
  go_wp2_with fail
  refine (sub_eq _ _ _ k6.out _).mono ?_
  rintro e w' ⟨rfl, rfl⟩
  go_wp2_with fail
  refine (mul_eq _ _ _ km.out _).mono ?_
  rintro e w' ⟨rfl, rfl⟩
  go_wp2_with fail
  refine (mul_eq _ _ _ k7.out _).mono ?_
  rintro e w' ⟨rfl, rfl⟩
  go_wp2_with fail
  refine (mul_eq _ _ _ kr.out _).mono ?_
  rintro e w' ⟨rfl, rfl⟩
  go_wp2_with fail
  refine (mul_eq _ _ _ k8.out _).mono ?_
  rintro e w' ⟨rfl, rfl⟩
  go_wp2_with fail
  refine (add_eq _ _ _ k9.out _).mono ?_
  rintro e w' ⟨rfl, rfl⟩
  go_wp2_with fail
  refine (mul_eq _ _ _ k10.out _).mono ?_
  rintro e w' ⟨rfl, rfl⟩
  go_wp2
  go_ret
  exact ⟨rfl, hb1⟩
end Go.Proofs.Ytpgdmlcfejddjaa
