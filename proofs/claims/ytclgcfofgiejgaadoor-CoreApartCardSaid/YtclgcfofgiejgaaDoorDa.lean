/- WALKS over package word, and quintainref1's Round, Div, Mod. -/
import Derived.Test.YtclgcfofgiejgaaDoorKa
namespace Go.Proofs.YtclgcfofgiejgaaDoor
open Go.RowKit
set_option linter.unusedVariables false

/-- a number modulo 2^32, from -2^31 on: a plain definition, so that the walk does not look into it -/
def rd (x : Int) : Int := (x + 2147483648) % 4294967296 - 2147483648
theorem rd_lo (x : Int) : -2147483648 ≤ rd x := by unfold rd; omega
theorem rd_hi (x : Int) : rd x ≤ 2147483647 := by unfold rd; omega
theorem rd_same (x : Int) (h1 : -2147483648 ≤ x) (h2 : x ≤ 2147483647) : rd x = x := by unfold rd; omega
theorem rd_wrap (x : Int) : wrap32 x = rd x := by unfold wrap32 rd; rfl
theorem ret_i32 {a b : Int} (h : a = b) : Ending.returned (.int .i32 a) = .returned (.int .i32 b) := by rw [h]
theorem ret_i64 {a b : Int} (h : a = b) : Ending.returned (.int .i64 a) = .returned (.int .i64 b) := by rw [h]

def dv (a b : Int) : Int := if b = 0 then 0 else rd (a.tdiv b)
theorem dv_zero (a : Int) : dv a 0 = 0 := if_pos rfl
theorem dv_not (a b : Int) (h : b ≠ 0) : dv a b = rd (a.tdiv b) := if_neg h
def md (a n : Int) : Int := if n < 1 then 0 else a % n
theorem md_none (a n : Int) (h : n < 1) : md a n = 0 := if_pos h
theorem md_some (a n : Int) (h : ¬ n < 1) : md a n = a % n := if_neg h
theorem tmod_neg (a n : Int) (h : 0 < n) (hr : a.tmod n < 0) : a.tmod n + n = a % n := by
  have h1 := Int.emod_nonneg a (show n ≠ 0 by omega)
  have h2 := Int.emod_lt_of_pos a h
  have h3 := Int.tmod_eq_emod (a := a) (b := n)
  split at h3 <;> omega
theorem tmod_pos (a n : Int) (h : 0 < n) (hr : ¬ a.tmod n < 0) : a.tmod n = a % n := by
  have h1 := Int.emod_nonneg a (show n ≠ 0 by omega)
  have h2 := Int.emod_lt_of_pos a h
  have h3 := Int.tmod_eq_emod (a := a) (b := n)
  split at h3 <;> omega
theorem wrap_mod (a n : Int) (h : 0 < n) (h2 : n ≤ 9223372036854775807) : wrap64 (a % n) = a % n := by
  have h1 := Int.emod_nonneg a (show n ≠ 0 by omega)
  have h2 := Int.emod_lt_of_pos a h
  unfold wrap64; omega
end Go.Proofs.YtclgcfofgiejgaaDoor
