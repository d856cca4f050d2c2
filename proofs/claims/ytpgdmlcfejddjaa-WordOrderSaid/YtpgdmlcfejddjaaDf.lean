/- WALK of WordOrder. -/
import Derived.Test.YtpgdmlcfejddjaaDe
import Derived.Test.YtpgdmlcfejddjaaKc
import Derived.BigRegion
import Derived.Deep.DrawnRows
import Derived.Deep.RegionWith
namespace Go.Proofs.Ytpgdmlcfejddjaa
open Go.RowKit
set_option linter.unusedVariables false
attribute [local go_sem ↓] Go.wp_at_zero Go.wp_at_succ

theorem less4 (a b : Int) (h0 : 0 ≤ a) (h1 : a ≤ 2147483647) (h2 : 0 ≤ b) (h3 : b ≤ 2147483647) : Op.bytesLess (str (s4 a)).toList (str (s4 b)).toList = decide (a < b) := by
  rw [str_toList, str_toList]
  unfold s4
  simp only [Op.bytesLess]
  have hlt : ∀ x y : Int, (decide (u8 x < u8 y)) = decide (x % 256 < y % 256) := fun x y => by
    have hx := u8_nat x; have hy := u8_nat y
    rw [decide_eq_decide, UInt8.lt_iff_toNat_lt]; omega
  have heq : ∀ x y : Int, (u8 x == u8 y) = decide (x % 256 = y % 256) := fun x y => by
    have hx := u8_nat x; have hy := u8_nat y
    rw [Bool.eq_iff_iff, beq_iff_eq, decide_eq_true_iff, ← UInt8.toNat_inj]; omega
  simp only [hlt, heq]
  rw [Bool.eq_iff_iff]
  simp only [Bool.or_eq_true, Bool.and_eq_true, decide_eq_true_iff, Bool.or_false, Bool.and_false]
  have f1 : a / 16777216 % 256 = a / 16777216 := by omega
  have f2 : b / 16777216 % 256 = b / 16777216 := by omega
  have f3 : a / 65536 = a / 16777216 * 256 + a / 65536 % 256 := by omega
  have f4 : b / 65536 = b / 16777216 * 256 + b / 65536 % 256 := by omega
  have f5 : a / 256 = a / 65536 * 256 + a / 256 % 256 := by omega
  have f6 : b / 256 = b / 65536 * 256 + b / 256 % 256 := by omega
  have f7 : a = a / 256 * 256 + a % 256 := by omega
  have f8 : b = b / 256 * 256 + b % 256 := by omega
  have g1 : 0 ≤ a / 65536 % 256 ∧ a / 65536 % 256 < 256 ∧ 0 ≤ b / 65536 % 256 ∧ b / 65536 % 256 < 256 := by omega
  have g2 : 0 ≤ a / 256 % 256 ∧ a / 256 % 256 < 256 ∧ 0 ≤ b / 256 % 256 ∧ b / 256 % 256 < 256 := by omega
  have g3 : 0 ≤ a % 256 ∧ a % 256 < 256 ∧ 0 ≤ b % 256 ∧ b % 256 < 256 := by omega
  rw [f1, f2]
  generalize a % 256 = a0 at *
  generalize b % 256 = b0 at *
  generalize a / 256 % 256 = a1 at *
  generalize b / 256 % 256 = b1 at *
  generalize a / 65536 % 256 = a2 at *
  generalize b / 65536 % 256 = b2 at *
  generalize a / 16777216 = a3 at *
  generalize b / 16777216 = b3 at *
  generalize a / 65536 = a4 at *
  generalize b / 65536 = b4 at *
  generalize a / 256 = a5 at *
  generalize b / 256 = b5 at *
  omega

set_option maxRecDepth 100000 in
set_option maxHeartbeats 1000000 in
theorem orderlaw_out (a b : Int) (w : World) (h : a < 0 ∨ (0 ≤ a ∧ b < 0)) :
    Calls Try.prog 7 #[.int .i32 a, .int .i32 b] w fun e w' => e = .returned (.bool true) ∧ Below w.heap.size w w' := by
  rcases h with h | ⟨h, h1⟩
  all_goals
    go_enter Try.func7, Try.ntmps7
    go_wp2_with fail
    refine (begun_below _).mono ?_
    rintro e w1 ⟨rfl, hb1⟩
    go_wp2
    go_ret
    exact ⟨rfl, hb1⟩
set_option maxRecDepth 100000 in
set_option maxHeartbeats 1000000 in
theorem orderlaw_in (a b : Int) (w : World) (h0 : 0 ≤ a) (h1 : a ≤ 2147483647) (h2 : 0 ≤ b) (h3 : b ≤ 2147483647) :
    Calls Try.prog 7 #[.int .i32 a, .int .i32 b] w fun e w' => e = .returned (.bool true) ∧ Below w.heap.size w w' := by
  go_enter Try.func7, Try.ntmps7
  go_wp2_with fail
  refine (begun_below _).mono ?_
  rintro e w1 ⟨rfl, hb1⟩
  have r1 := s4_reads w1 a
  have r2 := s4_reads (w1.alloc (rowB (s4 a))) b
  have b2 : Below (w1.heap.size + 1) (w1.alloc (rowB (s4 a))) ((w1.alloc (rowB (s4 a))).alloc (rowB (s4 b))) := (Below.refl _ _).alloc (by simp) _
  have c1 : ∀ n, (convert 22 9 (.slice (some ⟨w1.heap.size, 0, none⟩) 4 4)).run Try.prog ((w1.alloc (rowB (s4 a))).drewN n) = .ok (.string (str (s4 a))) ((w1.alloc (rowB (s4 a))).drewN n) := fun n => conv_bytes _ _ 0 4 (s4 a) _ (r1.below (below_drewN (Below.refl _ _) n)) 4 rfl
  have c2 : ∀ n, (convert 22 9 (.slice (some ⟨w1.heap.size, 0, none⟩) 4 4)).run Try.prog (((w1.alloc (rowB (s4 a))).alloc (rowB (s4 b))).drewN n) = .ok (.string (str (s4 a))) (((w1.alloc (rowB (s4 a))).alloc (rowB (s4 b))).drewN n) := fun n => conv_bytes _ _ 0 4 (s4 a) _ (r1.below (below_drewN b2 n)) 4 rfl
  have c3 : ∀ n, (convert 22 9 (.slice (some ⟨w1.heap.size + 1, 0, none⟩) 4 4)).run Try.prog (((w1.alloc (rowB (s4 a))).alloc (rowB (s4 b))).drewN n) = .ok (.string (str (s4 b))) (((w1.alloc (rowB (s4 a))).alloc (rowB (s4 b))).drewN n) := fun n => by
    have h := conv_bytes (((w1.alloc (rowB (s4 a))).alloc (rowB (s4 b))).drewN n) _ 0 4 (s4 b) _ (r2.below (below_drewN (Below.refl _ _) n)) 4 rfl
    simp only [World.size_alloc] at h
    exact h
  have d1 : (convert 22 9 (.slice (some ⟨w1.heap.size, 0, none⟩) 4 4)).run Try.prog (w1.alloc (rowB (s4 a))).drew = .ok (.string (str (s4 a))) (w1.alloc (rowB (s4 a))).drew := c1 1
  have d2 : (convert 22 9 (.slice (some ⟨w1.heap.size, 0, none⟩) 4 4)).run Try.prog ((w1.alloc (rowB (s4 a))).alloc (rowB (s4 b))).drew = .ok (.string (str (s4 a))) ((w1.alloc (rowB (s4 a))).alloc (rowB (s4 b))).drew := c2 1
  have d3 : (convert 22 9 (.slice (some ⟨w1.heap.size + 1, 0, none⟩) 4 4)).run Try.prog ((w1.alloc (rowB (s4 a))).alloc (rowB (s4 b))).drew = .ok (.string (str (s4 b))) ((w1.alloc (rowB (s4 a))).alloc (rowB (s4 b))).drew := c3 1
  clear c1 c2 c3 r1 r2 b2
  have hl := less4 a b h0 h1 h2 h3
  go_wp2_with fail
  go_region_with (go_at_call 17; (refine (put_any _ _ (by omega) (by omega)).mono ?_); rintro e w' ⟨rfl, rfl⟩)
  all_goals
    go_wp2
    go_ret
    exact ⟨rfl, ((((hb1.alloc hb1.size _).alloc (Nat.le_trans hb1.size (by simp)) _).alloc (Nat.le_trans hb1.size (by simp; omega)) _)).drew⟩
theorem order_law (a b : Int) (w : World) (ha : (Lit.int .i32 a).wf = true) (hb : (Lit.int .i32 b).wf = true) :
    Calls Try.prog 7 #[.int .i32 a, .int .i32 b] w fun e w' => e = .returned (.bool true) ∧ Below w.heap.size w w' := by
  obtain ⟨a1, a2⟩ := bounds_i32 ha
  obtain ⟨b1, b2⟩ := bounds_i32 hb
  by_cases h : 0 ≤ a ∧ 0 ≤ b
  · exact orderlaw_in a b w h.1 a2 h.2 b2
  · exact orderlaw_out a b w (by omega)
end Go.Proofs.Ytpgdmlcfejddjaa
