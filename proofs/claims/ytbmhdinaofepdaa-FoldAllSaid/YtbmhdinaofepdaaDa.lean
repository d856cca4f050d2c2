/- WALKS over package word, and quintainref1's Round, Div, Mod. -/
import Derived.Test.YtbmhdinaofepdaaKa
namespace Go.Proofs.Ytbmhdinaofepdaa
open Go.RowKit
set_option linter.unusedVariables false

/-- a number modulo 2^32, from -2^31 on: a plain definition, so that the walk does not look into it -/
def rd (x : Int) : Int := (x + 2147483648) % 4294967296 - 2147483648
theorem rd_lo (x : Int) : -2147483648 ≤ rd x := by unfold rd; omega
theorem rd_hi (x : Int) : rd x ≤ 2147483647 := by unfold rd; omega
theorem rd_same (x : Int) (h1 : -2147483648 ≤ x) (h2 : x ≤ 2147483647) : rd x = x := by unfold rd; omega
theorem rd_wrap (x : Int) : wrap32 x = rd x := by unfold wrap32 rd; rfl
theorem ret_i32 {a b : Int} (h : a = b) : Ending.returned (.int .i32 a) = .returned (.int .i32 b) := by rw [h]
theorem ret_i64 {a b : Int} (h : a = b) : Ending.returned (.int .i64 a) = .returned (.int .i64 b) := by rw [h]

theorem add_any (a b : Int) (w : World) :
    Calls Try.prog 54 #[.int .i32 a, .int .i32 b] w fun e w' => e = .returned (.int .i32 (rd (a + b))) ∧ w = w' := by
  go_enter Try.func54, Try.ntmps54
  go_wp2
  go_ret
  exact ⟨ret_i32 (rd_wrap _), rfl⟩
theorem sub_any (a b : Int) (w : World) :
    Calls Try.prog 55 #[.int .i32 a, .int .i32 b] w fun e w' => e = .returned (.int .i32 (rd (a - b))) ∧ w = w' := by
  go_enter Try.func55, Try.ntmps55
  go_wp2
  go_ret
  exact ⟨ret_i32 (rd_wrap _), rfl⟩
theorem mul_any (a b : Int) (w : World) :
    Calls Try.prog 56 #[.int .i32 a, .int .i32 b] w fun e w' => e = .returned (.int .i32 (rd (a * b))) ∧ w = w' := by
  go_enter Try.func56, Try.ntmps56
  go_wp2
  go_ret
  exact ⟨ret_i32 (rd_wrap _), rfl⟩
def dv (a b : Int) : Int := if b = 0 then 0 else rd (a.tdiv b)
theorem dv_zero (a : Int) : dv a 0 = 0 := if_pos rfl
theorem dv_not (a b : Int) (h : b ≠ 0) : dv a b = rd (a.tdiv b) := if_neg h
theorem div_any (a b : Int) (w : World) (b1 : -2147483648 ≤ b) (b2 : b ≤ 2147483647) :
    Calls Try.prog 57 #[.int .i32 a, .int .i32 b] w fun e w' => e = .returned (.int .i32 (dv a b)) ∧ w = w' := by
  by_cases h : b = 0
  · subst h
    go_enter Try.func57, Try.ntmps57
    go_wp2
    go_ret
    exact ⟨ret_i32 (dv_zero a).symm, rfl⟩
  · have hb : ((b == 0) : Bool) = false := by rw [beq_eq_false_iff_ne]; exact h
    have HB := Lib.hid h
    clear h
    go_enter Try.func57, Try.ntmps57
    go_wp2
    go_ret
    exact ⟨ret_i32 (by rw [rd_wrap, dv_not a b HB.out]), rfl⟩
def md (a n : Int) : Int := if n < 1 then 0 else a % n
theorem md_none (a n : Int) (h : n < 1) : md a n = 0 := if_pos h
theorem md_some (a n : Int) (h : ¬ n < 1) : md a n = a % n := if_neg h
theorem tmod_neg (a n : Int) (h : 0 < n) (hr : a.tmod n < 0) : a.tmod n + n = a % n := by
  have h1 := Int.emod_nonneg a (show n ≠ 0 by omega)
  have h2 := Int.emod_lt_of_pos a h
  have h3 := Int.tmod_eq_emod (a := a) (b := n)
  split at h3 <;> omega
theorem tmod_pos (a n : Int) (h : 0 < n) (hr : ¬ a.tmod n < 0) : a.tmod n = a % n := by
  have h1 := Int.emod_nonneg a (show n ≠ 0 by omega)
  have h2 := Int.emod_lt_of_pos a h
  have h3 := Int.tmod_eq_emod (a := a) (b := n)
  split at h3 <;> omega
theorem wrap_mod (a n : Int) (h : 0 < n) (h2 : n ≤ 9223372036854775807) : wrap64 (a % n) = a % n := by
  have h1 := Int.emod_nonneg a (show n ≠ 0 by omega)
  have h2 := Int.emod_lt_of_pos a h
  unfold wrap64; omega
theorem mod_any (a n : Int) (w : World) (a1 : -2147483648 ≤ a) (a2 : a ≤ 2147483647) (n1 : -9223372036854775808 ≤ n) (n2 : n ≤ 9223372036854775807) :
    Calls Try.prog 44 #[.int .i32 a, .int .i64 n] w fun e w' => e = .returned (.int .i64 (md a n)) ∧ w = w' := by
  by_cases h : n < 1
  · have HB := Lib.hid (md_none a n h)
    go_enter Try.func44, Try.ntmps44
    go_wp2
    go_ret
    exact ⟨ret_i64 HB.out.symm, rfl⟩
  · have HB := Lib.hid (md_some a n h)
    by_cases hr : a.tmod n < 0
    · have HR := Lib.hid (tmod_neg a n (by omega) hr)
      go_enter Try.func44, Try.ntmps44
      go_wp2
      go_ret
      exact ⟨ret_i64 (by rw [HB.out, HR.out]; exact wrap_mod a n (by omega) n2), rfl⟩
    · have HR := Lib.hid (tmod_pos a n (by omega) hr)
      go_enter Try.func44, Try.ntmps44
      go_wp2
      go_ret
      exact ⟨ret_i64 (by rw [HB.out, HR.out]), rfl⟩
end Go.Proofs.Ytbmhdinaofepdaa
