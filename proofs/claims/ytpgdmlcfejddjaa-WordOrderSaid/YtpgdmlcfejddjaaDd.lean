/- WALK of WordDiv. -/
import Derived.Test.YtpgdmlcfejddjaaDc
namespace Go.Proofs.Ytpgdmlcfejddjaa
open Go.RowKit
set_option linter.unusedVariables false

set_option maxRecDepth 100000 in
set_option maxHeartbeats 1000000 in
theorem divlaw_zero (a : Int) (w : World) :
    Calls Try.prog 5 #[.int .i32 a, .int .i32 0] w fun e w' => e = .returned (.bool true) ∧ Below w.heap.size w w' := by
  obtain ⟨m, hm⟩ : ∃ m, rd (0 * 0) = m := ⟨_, rfl⟩
  obtain ⟨r, hr⟩ : ∃ r, rd (a - m) = r := ⟨_, rfl⟩
  have km := Lib.hid hm; have kr := Lib.hid hr
  have r1 := rd_lo (a - m); have r2 := rd_hi (a - m)
  rw [hr] at r1 r2
  clear hm hr
  have kd := Lib.hid (dv_zero a)
  go_enter Try.func5, Try.ntmps5
  go_wp2_with fail
  refine (begun_below _).mono ?_
  rintro e w1 ⟨rfl, hb1⟩
  go_wp2_with fail
  refine (div_eq _ _ _ (by decide) (by decide) kd.out _).mono ?_
  rintro e w' ⟨rfl, rfl⟩
  go_wp2_with fail
  refine (mul_eq _ _ _ km.out _).mono ?_
  rintro e w' ⟨rfl, rfl⟩
  go_wp2_with fail
  refine (sub_eq _ _ _ kr.out _).mono ?_
  rintro e w' ⟨rfl, rfl⟩
  go_wp2
  go_ret
  exact ⟨rfl, hb1⟩
set_option maxRecDepth 100000 in
set_option maxHeartbeats 1000000 in
theorem divlaw_minus (a : Int) (w : World) (a1 : -2147483648 ≤ a) (a2 : a ≤ 2147483647) :
    Calls Try.prog 5 #[.int .i32 a, .int .i32 (-1)] w fun e w' => e = .returned (.bool true) ∧ Below w.heap.size w w' := by
  obtain ⟨q, hq⟩ : ∃ q, dv a (-1) = q := ⟨_, rfl⟩
  obtain ⟨m, hm⟩ : ∃ m, rd (q * -1) = m := ⟨_, rfl⟩
  obtain ⟨r, hr⟩ : ∃ r, rd (a - m) = r := ⟨_, rfl⟩
  have ks := Lib.hid (show rd (0 - a) = q by rw [← hq, dv_not _ _ (by decide), Int.tdiv_neg, Int.tdiv_one, Int.zero_sub])
  have km := Lib.hid hm; have kr := Lib.hid hr; have kq := Lib.hid hq
  have r1 := rd_lo (a - m); have r2 := rd_hi (a - m)
  rw [hr] at r1 r2
  clear hm hr hq
  go_enter Try.func5, Try.ntmps5
  go_wp2_with fail
  refine (begun_below _).mono ?_
  rintro e w1 ⟨rfl, hb1⟩
  go_wp2_with fail
  refine (div_eq _ _ _ (by decide) (by decide) kq.out _).mono ?_
  rintro e w' ⟨rfl, rfl⟩
  go_wp2_with fail
  refine (mul_eq _ _ _ km.out _).mono ?_
  rintro e w' ⟨rfl, rfl⟩
  go_wp2_with fail
  refine (sub_eq _ _ _ kr.out _).mono ?_
  rintro e w' ⟨rfl, rfl⟩
  go_wp2_with fail
  refine (sub_eq _ _ _ ks.out _).mono ?_
  rintro e w' ⟨rfl, rfl⟩
  go_wp2
  go_ret
  exact ⟨rfl, hb1⟩
theorem ret_bool {a b : Bool} (h : a = b) : Ending.returned (.bool a) = .returned (.bool b) := by rw [h]
/-- the rest: nearer to nought than b, of a's sign -/
theorem rest_is (a b : Int) (a1 : -2147483648 ≤ a) (a2 : a ≤ 2147483647) (b1 : -2147483648 ≤ b) (b2 : b ≤ 2147483647) (h0 : b ≠ 0) (h1 : b ≠ -1) (q m r : Int) (hq : dv a b = q) (hm : rd (q * b) = m) (hr : rd (a - m) = r) :
    ((0 < b ∧ -b < r ∧ r < b) ∨ (b < 0 ∧ b < r ∧ r < -b)) ∧ ((r = 0) ∨ (r < 0 ∧ a < 0) ∨ (0 < r ∧ 0 ≤ a)) := by
  rw [dv_not a b h0] at hq
  have hr2 : r = rd (a.tmod b) := by
    rw [← hr, ← hm, rd_sub_r, ← hq]
    obtain ⟨k, hk⟩ := rd_mod (a.tdiv b)
    rw [hk]
    have e := Int.mul_tdiv_add_tmod a b
    refine rd_cong _ _ (-(k * b)) ?_
    have e2 : (a.tdiv b + 4294967296 * k) * b = b * a.tdiv b + 4294967296 * (k * b) := by rw [Int.add_mul, Int.mul_comm (a.tdiv b) b, Int.mul_assoc]
    omega
  have hlt : (0 < b ∧ -b < a.tmod b ∧ a.tmod b < b) ∨ (b < 0 ∧ b < a.tmod b ∧ a.tmod b < -b) := by
    have hsg := Int.tmod_eq_emod (a := a) (b := b)
    have he0 := Int.emod_nonneg a h0
    have he1 := Int.emod_lt a h0
    split at hsg <;> omega
  have hr3 : r = a.tmod b := by rw [hr2, rd_same _ (by omega) (by omega)]
  have hs1 : 0 ≤ a → 0 ≤ a.tmod b := fun h => Int.tmod_nonneg b h
  have hs2 : a < 0 → a.tmod b ≤ 0 := fun h => by
    have := Int.tmod_nonneg b (show 0 ≤ -a by omega)
    rw [Int.neg_tmod] at this; omega
  rw [hr3]
  generalize a.tmod b = t at *
  omega
set_option maxRecDepth 100000 in
set_option maxHeartbeats 1000000 in
theorem divlaw_rest (a b : Int) (w : World) (a1 : -2147483648 ≤ a) (a2 : a ≤ 2147483647) (b1 : -2147483648 ≤ b) (b2 : b ≤ 2147483647) (h0 : b ≠ 0) (h1 : b ≠ -1) :
    Calls Try.prog 5 #[.int .i32 a, .int .i32 b] w fun e w' => e = .returned (.bool true) ∧ Below w.heap.size w w' := by
  obtain ⟨q, hq⟩ : ∃ q, dv a b = q := ⟨_, rfl⟩
  obtain ⟨m, hm⟩ : ∃ m, rd (q * b) = m := ⟨_, rfl⟩
  obtain ⟨r, hr⟩ : ∃ r, rd (a - m) = r := ⟨_, rfl⟩
  have hc := rest_is a b a1 a2 b1 b2 h0 h1 q m r hq hm hr
  have km := Lib.hid hm; have kr := Lib.hid hr; have kq := Lib.hid hq
  have r1 := rd_lo (a - m); have r2 := rd_hi (a - m)
  rw [hr] at r1 r2
  have e0 : ((b == 0) : Bool) = false := by rw [beq_eq_false_iff_ne]; exact h0
  have e1 : ((b == -1) : Bool) = false := by rw [beq_eq_false_iff_ne]; exact h1
  clear hm hr hq h0 h1
  obtain ⟨hB, hR⟩ := hc
  go_enter Try.func5, Try.ntmps5
  go_wp2_with fail
  refine (begun_below _).mono ?_
  rintro e w1 ⟨rfl, hb1⟩
  go_wp2_with fail
  refine (div_eq _ _ _ b1 b2 kq.out _).mono ?_
  rintro e w' ⟨rfl, rfl⟩
  go_wp2_with fail
  refine (mul_eq _ _ _ km.out _).mono ?_
  rintro e w' ⟨rfl, rfl⟩
  go_wp2_with fail
  refine (sub_eq _ _ _ kr.out _).mono ?_
  rintro e w' ⟨rfl, rfl⟩
  clear kq km kr
  have HF : Hid ((r == 0 || decide (r < 0) == decide (a < 0)) = true) := by
    unfold Hid
    rcases hR with rfl | ⟨f1, f2⟩ | ⟨f1, f2⟩
    · rfl
    · rw [decide_eq_true f1, decide_eq_true f2]; simp
    · rw [decide_eq_false (by omega), decide_eq_false (by omega)]; simp
  rcases hB with ⟨g1, g2, g3⟩ | ⟨g1, g2, g3⟩
  all_goals
    rcases hR with rfl | ⟨f1, f2⟩ | ⟨f1, f2⟩
    all_goals
      go_wp2
      go_ret
      first | exact ⟨rfl, hb1⟩ | exact ⟨ret_bool HF.out, hb1⟩
theorem div_law (a b : Int) (w : World) (ha : (Lit.int .i32 a).wf = true) (hb : (Lit.int .i32 b).wf = true) :
    Calls Try.prog 5 #[.int .i32 a, .int .i32 b] w fun e w' => e = .returned (.bool true) ∧ Below w.heap.size w w' := by
  obtain ⟨a1, a2⟩ := bounds_i32 ha
  obtain ⟨b1, b2⟩ := bounds_i32 hb
  by_cases h0 : b = 0
  · subst h0; exact divlaw_zero a w
  by_cases h1 : b = -1
  · subst h1; exact divlaw_minus a w a1 a2
  exact divlaw_rest a b w a1 a2 b1 b2 h0 h1
end Go.Proofs.Ytpgdmlcfejddjaa
