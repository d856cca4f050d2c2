/- THE WALK of ref Put. -/
import Derived.Test.YtbmhdinaofepdaaNb
namespace Go.Proofs.Ytbmhdinaofepdaa
open Go.RowKit
set_option linter.unusedVariables false

theorem not_u64 (x : Nat) (h : x < 18446744073709551616) : bits .xor .u64 IntKind.u64.max (x : Int) = 18446744073709551615 - (x : Int) := by
  have hx : 18446744073709551615 ^^^ x = 18446744073709551615 - x := by
    apply Nat.eq_of_testBit_eq
    intro i
    have e := congrArg (fun b => b) (Nat.testBit_two_pow_sub_succ (x := x) (n := 64) (by simpa using h) i)
    have e2 : (2 : Nat) ^ 64 - (x + 1) = 18446744073709551615 - x := by omega
    rw [e2] at e
    rw [e, Nat.testBit_xor]
    have e3 : (18446744073709551615 : Nat) = 2 ^ 64 - 1 := by decide
    rw [e3, Nat.testBit_two_pow_sub_one]
    by_cases hi : i < 64
    · simp [hi]
    · have : x.testBit i = false := Nat.testBit_lt_two_pow (Nat.lt_of_lt_of_le h (by
        have := Nat.pow_le_pow_right (n := 2) (by omega) (show 64 ≤ i by omega)
        simpa using this))
      simp [hi, this]
  have hm : IntKind.u64.max = ((18446744073709551615 : Nat) : Int) := by decide
  rw [hm, u64_xor_nat _ _ (by omega) h, hx]
  omega
theorem flip (n : Int) (h1 : -9223372036854775808 ≤ n) (h : n < 0) : bits .xor .u64 IntKind.u64.max (IntKind.u64.wrap (IntKind.u64.wrap n * 2)) = (zig n : Int) := by
  obtain ⟨x, hx⟩ : ∃ x : Nat, (x : Int) = 18446744073709551616 + 2 * n := ⟨(18446744073709551616 + 2 * n).toNat, by omega⟩
  have e : IntKind.u64.wrap (IntKind.u64.wrap n * 2) = (x : Int) := by rw [IntKind.wrap_u64, IntKind.wrap_u64]; omega
  rw [e, not_u64 x (by omega)]
  unfold zig; rw [if_pos h]; omega
end Go.Proofs.Ytbmhdinaofepdaa
