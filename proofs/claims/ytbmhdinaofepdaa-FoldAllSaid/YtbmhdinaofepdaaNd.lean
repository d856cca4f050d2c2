/- THE WALKS over package num, of reading: signed, Get. -/
import Derived.Test.YtbmhdinaofepdaaNb
import Derived.Outline
namespace Go.Proofs.Ytbmhdinaofepdaa
open Go.RowKit
set_option linter.unusedVariables false

def gotV : Got → Value
  | .more => .tuple #[.int .i64 0, .int .i64 0, .int .i64 2]
  | .form => .tuple #[.int .i64 0, .int .i64 0, .int .i64 1]
  | .ok u k => .tuple #[.int .i64 (zag u), .int .i64 (k : Int), .int .i64 0]
theorem add_or (i x c : Nat) (hx : x < 128 ^ i) (hc : x + c * 128 ^ i < 18446744073709551616) : bits .or .u64 (x : Int) ((c * 128 ^ i : Nat) : Int) = ((x + c * 128 ^ i : Nat) : Int) := by
  have e : (128 : Nat) ^ i = 2 ^ (7 * i) := by rw [Nat.pow_mul]
  rw [u64_or_nat _ _ (by omega) (by omega), Nat.or_comm, Nat.mul_comm c, e, ← Nat.two_pow_add_eq_or_of_lt (by rw [← e]; exact hx)]
  rw [Nat.add_comm]
/-- a step of reading, as the walk spells it -/
theorem shl_step (i x c : Nat) (s y m : Int) (hs : s = 7 * i) (hy : y = x) (hm : m = c) (hi : i ≤ 9) (hx : x < 128 ^ i) (hc : x + c * 128 ^ i < 18446744073709551616) :
    bits .or .u64 y (IntKind.u64.wrap (m * 2 ^ min s.toNat 64)) = ((x + c * 128 ^ i : Nat) : Int) := by
  subst hy hm hs
  have h1 : min (7 * (i : Int)).toNat 64 = 7 * i := by omega
  have h2 : (c : Int) * 2 ^ (7 * i) = ((c * 128 ^ i : Nat) : Int) := by
    have e : (128 : Nat) ^ i = 2 ^ (7 * i) := by rw [Nat.pow_mul]
    rw [e]; simp
  rw [h1, h2, IntKind.wrap_u64, Int.emod_eq_of_lt (by omega) (by omega)]
  exact add_or i x c hx hc
theorem acc_next (k x c : Nat) (hx : x < 128 ^ k) (hc : c < 128) : x + c * 128 ^ k < 128 ^ (k + 1) := by
  have h1 : c * 128 ^ k ≤ 127 * 128 ^ k := Nat.mul_le_mul_right _ (by omega)
  rw [Nat.pow_succ]; omega
theorem acc_lt (k x c : Nat) (hk : k ≤ 9) (hx : x < 128 ^ k) (hc : c < 128) (h9 : k = 9 → c ≤ 1) : x + c * 128 ^ k < 18446744073709551616 := by
  have e : (128 : Nat) ^ 9 = 9223372036854775808 := by decide
  by_cases h : k = 9
  · have h1 : c * 128 ^ k ≤ 1 * 128 ^ k := Nat.mul_le_mul_right _ (h9 h)
    subst h
    rw [e] at *; omega
  · have h1 := acc_next k x c hx hc
    have h2 : (128 : Nat) ^ (k + 1) ≤ 128 ^ 9 := Nat.pow_le_pow_right (by omega) (by omega)
    omega
end Go.Proofs.Ytbmhdinaofepdaa
