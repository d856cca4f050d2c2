/- KINDS OF GUESS in memory: predict.May, MayBy. -/
import Derived.Test.YtomiligjcpmnjaaFb
import Derived.Test.YtomiligjcpmnjaaKc
namespace Go.Proofs.Ytomiligjcpmnjaa
set_option maxRecDepth 100000
open Go.RowKit
set_option linter.unusedVariables false
set_option linter.unusedSimpArgs false

def byA (z o : Int) (A : Option Addr) (n c : Nat) : Array Value := #[.int .i64 z, .int .i64 o, .slice A n c]
def byV (z o : Int) (A : Option Addr) (n c : Nat) : Value := .agg (byA z o A n c)
def mayB (z o : Int) (n : Nat) : Bool := decide ((z = 1 ∧ o = 0 ∧ n = 0) ∨ (z = 2 ∧ 0 ≤ o ∧ o ≤ 3 ∧ n = 0) ∨ (z = 3 ∧ o = 0 ∧ 1 ≤ n ∧ n ≤ 1000))
theorem mayB_t {z o : Int} {n : Nat} (h : (z = 1 ∧ o = 0 ∧ n = 0) ∨ (z = 2 ∧ 0 ≤ o ∧ o ≤ 3 ∧ n = 0) ∨ (z = 3 ∧ o = 0 ∧ 1 ≤ n ∧ n ≤ 1000)) : mayB z o n = true := decide_eq_true h
theorem mayB_f {z o : Int} {n : Nat} (h : ¬ ((z = 1 ∧ o = 0 ∧ n = 0) ∨ (z = 2 ∧ 0 ≤ o ∧ o ≤ 3 ∧ n = 0) ∨ (z = 3 ∧ o = 0 ∧ 1 ≤ n ∧ n ≤ 1000))) : mayB z o n = false := decide_eq_false h
set_option maxHeartbeats 2000000 in
theorem may_any (z o : Int) (A : Option Addr) (n c : Nat) (w : World) (hn0 : n ≤ maxLen) :
    Calls Try.prog 26 #[byV z o A n c] w fun e w' => e = .returned (.bool (mayB z o n)) ∧ Below w.heap.size w w' := by
  unfold maxLen at hn0
  unfold byV byA
  obtain ⟨r, hr⟩ : ∃ r, mayB z o n = r := ⟨_, rfl⟩
  rw [hr]
  by_cases z0 : z < 1
  · have z1 : (z == 1) = false := by simp; omega
    have z2 : (z == 2) = false := by simp; omega
    have z3 : (z == 3) = false := by simp; omega
    obtain rfl : r = false := by rw [← hr]; exact mayB_f (by omega)
    clear hr
    go_enter Try.func26, Try.ntmps26
    go_wp2_with fail
    go_ret
    exact ⟨by first | rfl | simp | (simp; omega), (Below.refl _ _).alloc (Nat.le_refl _) _⟩
  by_cases z4 : 3 < z
  · have z1 : (z == 1) = false := by simp; omega
    have z2 : (z == 2) = false := by simp; omega
    have z3 : (z == 3) = false := by simp; omega
    obtain rfl : r = false := by rw [← hr]; exact mayB_f (by omega)
    clear hr
    go_enter Try.func26, Try.ntmps26
    go_wp2_with fail
    go_ret
    exact ⟨by first | rfl | simp | (simp; omega), (Below.refl _ _).alloc (Nat.le_refl _) _⟩
  by_cases o0 : o < 0
  · have o1 : (o == 0) = false := by simp; omega
    have o2 : ¬ 0 ≤ o := by omega
    obtain rfl | rfl | rfl : z = 1 ∨ z = 2 ∨ z = 3 := by omega
    · skip
      obtain rfl : r = false := by rw [← hr]; exact mayB_f (by omega)
      clear hr
      go_enter Try.func26, Try.ntmps26
      go_wp2_with fail
      go_ret
      exact ⟨by first | rfl | simp | (simp; omega), (Below.refl _ _).alloc (Nat.le_refl _) _⟩
    · skip
      obtain rfl : r = false := by rw [← hr]; exact mayB_f (by omega)
      clear hr
      go_enter Try.func26, Try.ntmps26
      go_wp2_with fail
      go_ret
      exact ⟨by first | rfl | simp | (simp; omega), (Below.refl _ _).alloc (Nat.le_refl _) _⟩
    · skip
      obtain rfl : r = false := by rw [← hr]; exact mayB_f (by omega)
      clear hr
      go_enter Try.func26, Try.ntmps26
      go_wp2_with fail
      go_ret
      exact ⟨by first | rfl | simp | (simp; omega), (Below.refl _ _).alloc (Nat.le_refl _) _⟩
  by_cases o3 : 3 < o
  · have o1 : (o == 0) = false := by simp; omega
    have o2 : 0 ≤ o := by omega
    have o4 : ¬ o ≤ 3 := by omega
    obtain rfl | rfl | rfl : z = 1 ∨ z = 2 ∨ z = 3 := by omega
    · skip
      obtain rfl : r = false := by rw [← hr]; exact mayB_f (by omega)
      clear hr
      go_enter Try.func26, Try.ntmps26
      go_wp2_with fail
      go_ret
      exact ⟨by first | rfl | simp | (simp; omega), (Below.refl _ _).alloc (Nat.le_refl _) _⟩
    · skip
      obtain rfl : r = false := by rw [← hr]; exact mayB_f (by omega)
      clear hr
      go_enter Try.func26, Try.ntmps26
      go_wp2_with fail
      go_ret
      exact ⟨by first | rfl | simp | (simp; omega), (Below.refl _ _).alloc (Nat.le_refl _) _⟩
    · skip
      obtain rfl : r = false := by rw [← hr]; exact mayB_f (by omega)
      clear hr
      go_enter Try.func26, Try.ntmps26
      go_wp2_with fail
      go_ret
      exact ⟨by first | rfl | simp | (simp; omega), (Below.refl _ _).alloc (Nat.le_refl _) _⟩
  have o2 : 0 ≤ o := by omega
  have o4 : o ≤ 3 := by omega
  by_cases o5 : o = 0
  · subst o5
    obtain rfl | rfl | rfl : z = 1 ∨ z = 2 ∨ z = 3 := by omega
    · skip
      by_cases hn : n = 0
      · have n1 : (n : Int) = 0 := by omega
        obtain rfl : r = true := by rw [← hr]; exact mayB_t (by omega)
        clear hr
        go_enter Try.func26, Try.ntmps26
        go_wp2_with fail
        go_ret
        exact ⟨by first | rfl | simp | (simp; omega), (Below.refl _ _).alloc (Nat.le_refl _) _⟩
      · have n1 : ((n : Int) == 0) = false := by simp; omega
        obtain rfl : r = false := by rw [← hr]; exact mayB_f (by omega)
        clear hr
        go_enter Try.func26, Try.ntmps26
        go_wp2_with fail
        go_ret
        exact ⟨by first | rfl | simp | (simp; omega), (Below.refl _ _).alloc (Nat.le_refl _) _⟩
    · skip
      by_cases hn : n = 0
      · have n1 : (n : Int) = 0 := by omega
        obtain rfl : r = true := by rw [← hr]; exact mayB_t (by omega)
        clear hr
        go_enter Try.func26, Try.ntmps26
        go_wp2_with fail
        go_ret
        exact ⟨by first | rfl | simp | (simp; omega), (Below.refl _ _).alloc (Nat.le_refl _) _⟩
      · have n1 : ((n : Int) == 0) = false := by simp; omega
        obtain rfl : r = false := by rw [← hr]; exact mayB_f (by omega)
        clear hr
        go_enter Try.func26, Try.ntmps26
        go_wp2_with fail
        go_ret
        exact ⟨by first | rfl | simp | (simp; omega), (Below.refl _ _).alloc (Nat.le_refl _) _⟩
    · by_cases hn : 1 ≤ n
      · by_cases hn2 : n ≤ 1000
        · have n1 : (1 : Int) ≤ (n : Int) := by omega
          have n2 : (n : Int) ≤ 1000 := by omega
          obtain rfl : r = true := by rw [← hr]; exact mayB_t (by omega)
          clear hr
          go_enter Try.func26, Try.ntmps26
          go_wp2_with fail
          go_ret
          exact ⟨by first | rfl | simp | (simp; omega), (Below.refl _ _).alloc (Nat.le_refl _) _⟩
        · have n1 : (1 : Int) ≤ (n : Int) := by omega
          have n2 : ¬ (n : Int) ≤ 1000 := by omega
          obtain rfl : r = false := by rw [← hr]; exact mayB_f (by omega)
          clear hr
          go_enter Try.func26, Try.ntmps26
          go_wp2_with fail
          go_ret
          exact ⟨by first | rfl | simp | (simp; omega), (Below.refl _ _).alloc (Nat.le_refl _) _⟩
      · have n1 : ¬ (1 : Int) ≤ (n : Int) := by omega
        obtain rfl : r = false := by rw [← hr]; exact mayB_f (by omega)
        clear hr
        go_enter Try.func26, Try.ntmps26
        go_wp2_with fail
        go_ret
        exact ⟨by first | rfl | simp | (simp; omega), (Below.refl _ _).alloc (Nat.le_refl _) _⟩
  · have o1 : (o == 0) = false := by simp; omega
    have o7 : (o != 0) = true := by simp; omega
    obtain rfl | rfl | rfl : z = 1 ∨ z = 2 ∨ z = 3 := by omega
    · skip
      obtain rfl : r = false := by rw [← hr]; exact mayB_f (by omega)
      clear hr
      go_enter Try.func26, Try.ntmps26
      go_wp2_with fail
      go_ret
      exact ⟨by first | rfl | simp | (simp; omega), (Below.refl _ _).alloc (Nat.le_refl _) _⟩
    · skip
      by_cases hn : n = 0
      · have n1 : (n : Int) = 0 := by omega
        obtain rfl : r = true := by rw [← hr]; exact mayB_t (by omega)
        clear hr
        go_enter Try.func26, Try.ntmps26
        go_wp2_with fail
        go_ret
        exact ⟨by first | rfl | simp | (simp; omega), (Below.refl _ _).alloc (Nat.le_refl _) _⟩
      · have n1 : ((n : Int) == 0) = false := by simp; omega
        obtain rfl : r = false := by rw [← hr]; exact mayB_f (by omega)
        clear hr
        go_enter Try.func26, Try.ntmps26
        go_wp2_with fail
        go_ret
        exact ⟨by first | rfl | simp | (simp; omega), (Below.refl _ _).alloc (Nat.le_refl _) _⟩
    · skip
      obtain rfl : r = false := by rw [← hr]; exact mayB_f (by omega)
      clear hr
      go_enter Try.func26, Try.ntmps26
      go_wp2_with fail
      go_ret
      exact ⟨by first | rfl | simp | (simp; omega), (Below.refl _ _).alloc (Nat.le_refl _) _⟩
set_option maxHeartbeats 2000000 in
theorem mayBy_any (z o : Int) (A : Option Addr) (n c : Nat) (w : World) (hn0 : n ≤ maxLen) :
    Calls Try.prog 32 #[byV z o A n c] w fun e w' => e = .returned (.bool (mayB z o n)) ∧ Below w.heap.size w w' := by
  unfold maxLen at hn0
  unfold byV byA
  obtain ⟨r, hr⟩ : ∃ r, mayB z o n = r := ⟨_, rfl⟩
  rw [hr]
  by_cases z0 : z < 1
  · have z1 : (z == 1) = false := by simp; omega
    have z2 : (z == 2) = false := by simp; omega
    have z3 : (z == 3) = false := by simp; omega
    obtain rfl : r = false := by rw [← hr]; exact mayB_f (by omega)
    clear hr
    go_enter Try.func32, Try.ntmps32
    go_wp2_with fail
    go_ret
    exact ⟨by first | rfl | simp | (simp; omega), (Below.refl _ _).alloc (Nat.le_refl _) _⟩
  by_cases z4 : 3 < z
  · have z1 : (z == 1) = false := by simp; omega
    have z2 : (z == 2) = false := by simp; omega
    have z3 : (z == 3) = false := by simp; omega
    obtain rfl : r = false := by rw [← hr]; exact mayB_f (by omega)
    clear hr
    go_enter Try.func32, Try.ntmps32
    go_wp2_with fail
    go_ret
    exact ⟨by first | rfl | simp | (simp; omega), (Below.refl _ _).alloc (Nat.le_refl _) _⟩
  by_cases o0 : o < 0
  · have o1 : (o == 0) = false := by simp; omega
    have o2 : ¬ 0 ≤ o := by omega
    obtain rfl | rfl | rfl : z = 1 ∨ z = 2 ∨ z = 3 := by omega
    · skip
      obtain rfl : r = false := by rw [← hr]; exact mayB_f (by omega)
      clear hr
      go_enter Try.func32, Try.ntmps32
      go_wp2_with fail
      go_ret
      exact ⟨by first | rfl | simp | (simp; omega), (Below.refl _ _).alloc (Nat.le_refl _) _⟩
    · skip
      obtain rfl : r = false := by rw [← hr]; exact mayB_f (by omega)
      clear hr
      go_enter Try.func32, Try.ntmps32
      go_wp2_with fail
      go_ret
      exact ⟨by first | rfl | simp | (simp; omega), (Below.refl _ _).alloc (Nat.le_refl _) _⟩
    · skip
      obtain rfl : r = false := by rw [← hr]; exact mayB_f (by omega)
      clear hr
      go_enter Try.func32, Try.ntmps32
      go_wp2_with fail
      go_ret
      exact ⟨by first | rfl | simp | (simp; omega), (Below.refl _ _).alloc (Nat.le_refl _) _⟩
  by_cases o3 : 3 < o
  · have o1 : (o == 0) = false := by simp; omega
    have o2 : 0 ≤ o := by omega
    have o4 : ¬ o ≤ 3 := by omega
    obtain rfl | rfl | rfl : z = 1 ∨ z = 2 ∨ z = 3 := by omega
    · skip
      obtain rfl : r = false := by rw [← hr]; exact mayB_f (by omega)
      clear hr
      go_enter Try.func32, Try.ntmps32
      go_wp2_with fail
      go_ret
      exact ⟨by first | rfl | simp | (simp; omega), (Below.refl _ _).alloc (Nat.le_refl _) _⟩
    · skip
      obtain rfl : r = false := by rw [← hr]; exact mayB_f (by omega)
      clear hr
      go_enter Try.func32, Try.ntmps32
      go_wp2_with fail
      go_ret
      exact ⟨by first | rfl | simp | (simp; omega), (Below.refl _ _).alloc (Nat.le_refl _) _⟩
    · skip
      obtain rfl : r = false := by rw [← hr]; exact mayB_f (by omega)
      clear hr
      go_enter Try.func32, Try.ntmps32
      go_wp2_with fail
      go_ret
      exact ⟨by first | rfl | simp | (simp; omega), (Below.refl _ _).alloc (Nat.le_refl _) _⟩
  have o2 : 0 ≤ o := by omega
  have o4 : o ≤ 3 := by omega
  by_cases o5 : o = 0
  · subst o5
    obtain rfl | rfl | rfl : z = 1 ∨ z = 2 ∨ z = 3 := by omega
    · skip
      by_cases hn : n = 0
      · have n1 : (n : Int) = 0 := by omega
        obtain rfl : r = true := by rw [← hr]; exact mayB_t (by omega)
        clear hr
        go_enter Try.func32, Try.ntmps32
        go_wp2_with fail
        go_ret
        exact ⟨by first | rfl | simp | (simp; omega), (Below.refl _ _).alloc (Nat.le_refl _) _⟩
      · have n1 : ((n : Int) == 0) = false := by simp; omega
        obtain rfl : r = false := by rw [← hr]; exact mayB_f (by omega)
        clear hr
        go_enter Try.func32, Try.ntmps32
        go_wp2_with fail
        go_ret
        exact ⟨by first | rfl | simp | (simp; omega), (Below.refl _ _).alloc (Nat.le_refl _) _⟩
    · skip
      by_cases hn : n = 0
      · have n1 : (n : Int) = 0 := by omega
        obtain rfl : r = true := by rw [← hr]; exact mayB_t (by omega)
        clear hr
        go_enter Try.func32, Try.ntmps32
        go_wp2_with fail
        go_ret
        exact ⟨by first | rfl | simp | (simp; omega), (Below.refl _ _).alloc (Nat.le_refl _) _⟩
      · have n1 : ((n : Int) == 0) = false := by simp; omega
        obtain rfl : r = false := by rw [← hr]; exact mayB_f (by omega)
        clear hr
        go_enter Try.func32, Try.ntmps32
        go_wp2_with fail
        go_ret
        exact ⟨by first | rfl | simp | (simp; omega), (Below.refl _ _).alloc (Nat.le_refl _) _⟩
    · by_cases hn : 1 ≤ n
      · by_cases hn2 : n ≤ 1000
        · have n1 : (1 : Int) ≤ (n : Int) := by omega
          have n2 : (n : Int) ≤ 1000 := by omega
          obtain rfl : r = true := by rw [← hr]; exact mayB_t (by omega)
          clear hr
          go_enter Try.func32, Try.ntmps32
          go_wp2_with fail
          go_ret
          exact ⟨by first | rfl | simp | (simp; omega), (Below.refl _ _).alloc (Nat.le_refl _) _⟩
        · have n1 : (1 : Int) ≤ (n : Int) := by omega
          have n2 : ¬ (n : Int) ≤ 1000 := by omega
          obtain rfl : r = false := by rw [← hr]; exact mayB_f (by omega)
          clear hr
          go_enter Try.func32, Try.ntmps32
          go_wp2_with fail
          go_ret
          exact ⟨by first | rfl | simp | (simp; omega), (Below.refl _ _).alloc (Nat.le_refl _) _⟩
      · have n1 : ¬ (1 : Int) ≤ (n : Int) := by omega
        obtain rfl : r = false := by rw [← hr]; exact mayB_f (by omega)
        clear hr
        go_enter Try.func32, Try.ntmps32
        go_wp2_with fail
        go_ret
        exact ⟨by first | rfl | simp | (simp; omega), (Below.refl _ _).alloc (Nat.le_refl _) _⟩
  · have o1 : (o == 0) = false := by simp; omega
    have o7 : (o != 0) = true := by simp; omega
    obtain rfl | rfl | rfl : z = 1 ∨ z = 2 ∨ z = 3 := by omega
    · skip
      obtain rfl : r = false := by rw [← hr]; exact mayB_f (by omega)
      clear hr
      go_enter Try.func32, Try.ntmps32
      go_wp2_with fail
      go_ret
      exact ⟨by first | rfl | simp | (simp; omega), (Below.refl _ _).alloc (Nat.le_refl _) _⟩
    · skip
      by_cases hn : n = 0
      · have n1 : (n : Int) = 0 := by omega
        obtain rfl : r = true := by rw [← hr]; exact mayB_t (by omega)
        clear hr
        go_enter Try.func32, Try.ntmps32
        go_wp2_with fail
        go_ret
        exact ⟨by first | rfl | simp | (simp; omega), (Below.refl _ _).alloc (Nat.le_refl _) _⟩
      · have n1 : ((n : Int) == 0) = false := by simp; omega
        obtain rfl : r = false := by rw [← hr]; exact mayB_f (by omega)
        clear hr
        go_enter Try.func32, Try.ntmps32
        go_wp2_with fail
        go_ret
        exact ⟨by first | rfl | simp | (simp; omega), (Below.refl _ _).alloc (Nat.le_refl _) _⟩
    · skip
      obtain rfl : r = false := by rw [← hr]; exact mayB_f (by omega)
      clear hr
      go_enter Try.func32, Try.ntmps32
      go_wp2_with fail
      go_ret
      exact ⟨by first | rfl | simp | (simp; omega), (Below.refl _ _).alloc (Nat.le_refl _) _⟩
end Go.Proofs.Ytomiligjcpmnjaa
