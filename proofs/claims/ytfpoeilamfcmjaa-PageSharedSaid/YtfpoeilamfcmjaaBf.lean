/- WALK of the law PageShared. -/
import Derived.Test.YtfpoeilamfcmjaaBe
namespace Go.Proofs.Ytfpoeilamfcmjaa
set_option maxRecDepth 100000
open Go.RowKit
set_option linter.unusedVariables false
set_option linter.unusedSimpArgs false

def shf : Nat → Int := shPut zN 0 1
def shW (r : Int) (f : Nat → Int) : List Sh := [⟨r, f⟩, zS, zS]
theorem w64s (x : Int) (h0 : -1000000 ≤ x) (h1 : x ≤ 1000000) : IntKind.i64.wrap x = x := by rw [IntKind.wrap_i64]; omega
set_option maxHeartbeats 4000000 in
theorem shared_law (n v : Int) (w : World) (n0 : -9223372036854775808 ≤ n) (n1 : n ≤ 9223372036854775807) :
    Calls Try.prog 6 #[.int .i64 n, .int .i32 v] w fun e w' => e = .returned (.bool true) ∧ Below w.heap.size w w' := by
  have HBg := Lib.hid begun10_any
  by_cases g1 : n < 0
  · go_enter Try.func6, Try.ntmps6
    go_wp2_with (go_at_call 8; with_reducible refine (HBg.out _).mono ?_; rintro e w0 ⟨rfl, B0⟩; have B := Lib.hid B0; clear B0)
    go_ret
    exact ⟨rfl, B.out⟩
  by_cases g2 : n > 20
  · go_enter Try.func6, Try.ntmps6
    go_wp2_with (go_at_call 8; with_reducible refine (HBg.out _).mono ?_; rintro e w0 ⟨rfl, B0⟩; have B := Lib.hid B0; clear B0)
    go_ret
    exact ⟨rfl, B.out⟩
  obtain ⟨N, hN⟩ : ∃ N : Nat, n = N := ⟨n.toNat, by omega⟩
  subst hN
  have hN20 : N ≤ 20 := by omega
  have HN : Hid (∀ w, Calls Try.prog 9 #[.int .i64 3] w fun e w' => ∃ P A, e = .returned (.pointer (some ⟨P, 0, none⟩)) ∧ w.heap.size ≤ A ∧ w.heap.size ≤ P ∧ RM w' P A (List.replicate 3 zS) ∧ Below w.heap.size w w') := fun w => new_any 3 3 (by omega) w
  have HT : Hid (∀ W P A, RM W P A (List.replicate 3 zS) → Calls Try.prog 10 #[.pointer (some ⟨P, 0, none⟩)] W fun e w' => e = .returned (.tuple #[.int .i64 1, .bool true]) ∧ Upd W w' P A (shW 1 zN)) := fun W P A R => take_hit W P A _ R 0 (by decide) rfl (fun j hj => by omega) 1 rfl _ rfl
  have HS1 : Hid (∀ W P A, RM W P A (shW 1 zN) → Calls Try.prog 14 #[.pointer (some ⟨P, 0, none⟩), .int .i64 1, .int .i64 0, .int .i32 1] W fun e w' => e = .returned (.bool true) ∧ Upd W w' P A (shW 1 shf)) := fun W P A R => set_in W P A _ R 1 0 1 0 0 rfl (by decide) rfl rfl (by omega) _ rfl
  by_cases hz : N = 0
  · have hb0 : ((N : Int) == 0) = true := by simp; omega
    have HZ := Lib.hid hz; clear hz
    have HS2 : Hid (∀ W P A, RM W P A (shW 1 shf) → Calls Try.prog 14 #[.pointer (some ⟨P, 0, none⟩), .int .i64 1, .int .i64 0, .int .i32 v] W fun e w' => e = .returned (.bool true) ∧ Upd W w' P A (shW 1 (shPut shf 0 v))) := fun W P A R => set_in W P A _ R 1 0 v 0 0 rfl (by show 0 < 3; omega) rfl rfl (by omega) _ rfl
    have HF : Hid ((shPut shf 0 v) 0 = v) := rfl
    have HS3 : Hid (∀ W P A, RM W P A (shW 1 (shPut shf 0 v)) → Calls Try.prog 14 #[.pointer (some ⟨P, 0, none⟩), .int .i64 1, .int .i64 1, .int .i32 v] W fun e w' => e = .returned (.bool true) ∧ Upd W w' P A (shW 1 (shPut (shPut shf 0 v) 1 v))) := fun W P A R => set_in W P A _ R 1 1 v 0 1 rfl (by show 0 < 3; omega) rfl rfl (by omega) _ rfl
    have HG : Hid (∀ W P A, RM W P A (shW 1 (shPut shf 0 v)) → Calls Try.prog 16 #[.pointer (some ⟨P, 0, none⟩), .int .i64 1, .int .i64 0] W fun e w' => e = .returned (.tuple #[.int .i32 v, .bool true]) ∧ W = w') := fun W P A R => get_in W P A _ R 1 0 0 0 rfl (by show 0 < 3; omega) (by show (1 : Int) ≠ 0; omega) rfl (by omega) _ rfl
    have HR : Hid (∀ W P A, RM W P A (shW 1 (shPut (shPut shf 0 v) 1 v)) → Calls Try.prog 18 #[.pointer (some ⟨P, 0, none⟩), .int .i64 1] W fun e w' => e = .returned (.int .i64 1) ∧ W = w') := fun W P A R => refs_any W P A _ R 1 1 rfl
    go_enter Try.func6, Try.ntmps6
    go_wp2_with (first
          | (go_at_call 8; with_reducible refine (HBg.out _).mono ?_; rintro e w0 ⟨rfl, B0⟩; have B := Lib.hid B0; clear B0)
          | (go_at_call 9; with_reducible refine (HN.out _).mono ?_; rintro e w1 ⟨P, A, rfl, hA0, hP0, R0, B0⟩; have hA : w.heap.size ≤ A := Nat.le_trans B.out.size hA0; have R := Lib.hid R0; replace B := Lib.hid (B.out.trans (B0.mono B.out.size)); clear R0 B0 hA0 hP0)
          | (go_at_call 10; with_reducible refine (HT.out _ P A R.out).mono ?_; rintro e w1 ⟨rfl, U⟩; replace R := Lib.hid U.rm; replace B := Lib.hid (B.out.grown U.gr B.out.size (fun k e => by have := Option.some.inj e; omega)); clear U)
          | (go_at_call 14; with_reducible refine (HS1.out _ P A R.out).mono ?_; rintro e w1 ⟨rfl, U⟩; replace R := Lib.hid U.rm; replace B := Lib.hid (B.out.grown U.gr B.out.size (fun k e => by have := Option.some.inj e; omega)); clear U))
    have hA' := hA
    go_loopw [9] (fun i wr => ∃ (k : Nat) (r : Int), i = .int .i64 k ∧ k ≤ N ∧ Hid (r = 1 + k) ∧ 1 ≤ r ∧ r ≤ 1000 ∧ Hid (RM wr P A (shW r shf)) ∧ Hid (Below w.heap.size w wr)) (fun i _ => N - (intOf i).toNat)
    case atStart => exact ⟨0, 1, rfl, by omega, rfl, by omega, by omega, R, B⟩
    case round =>
      obtain ⟨k, r, rfl, hk, hr, r1, r2, R2, B2⟩ := hrel
      clear R B; have R := R2; have B := B2; clear R2 B2
      by_cases hlt : k < N
      · have hkc : (k : Int) < (N : Int) := by omega
        have HH : Hid (∀ W P A, RM W P A (shW r shf) → Calls Try.prog 12 #[.pointer (some ⟨P, 0, none⟩), .int .i64 1] W fun e w' => e = .returned (.bool true) ∧ Upd W w' P A (shW (r + 1) shf)) := fun W P A R => hold_in W P A _ R 1 0 rfl (by show 0 < 3; omega) (by show r ≠ 0; omega) (by show 0 ≤ r; omega) (by show r ≤ 1000000; omega) _ rfl
        go_wp2_with (go_at_call 12; with_reducible refine (HH.out _ P A R.out).mono ?_; rintro e w1 ⟨rfl, U⟩; replace R := Lib.hid U.rm; replace B := Lib.hid (B.out.grown U.gr B.out.size (fun k e => by have := Option.some.inj e; omega)); clear U)
        go_roundw
        case rel => exact ⟨k + 1, r + 1, by go_num, by omega, by have := hr.out; unfold Hid; omega, by omega, by have := hr.out; omega, R, B⟩
        case measure => simp [intOf]; omega
      · obtain rfl : N = k := by omega
        obtain ⟨r', hr'⟩ : ∃ r', r' = r := ⟨_, rfl⟩
        have e1 : r = 1 := by have := hr.out; have := HZ.out; omega
        subst e1
        clear hr'
        go_wp2_with (go_at_call 14; with_reducible refine (HS2.out _ P A R.out).mono ?_; rintro e w1 ⟨rfl, U⟩; replace R := Lib.hid U.rm; replace B := Lib.hid (B.out.grown U.gr B.out.size (fun k e => by have := Option.some.inj e; omega)); clear U)
        go_loopw [11] (fun i wr => ∃ (k : Nat) (r : Int), i = .int .i64 k ∧ k ≤ N ∧ Hid (r = 1 + N - k) ∧ 1 ≤ r ∧ r ≤ 1000 ∧ Hid (RM wr P A (shW r (shPut shf 0 v))) ∧ Hid (Below w.heap.size w wr)) (fun i _ => N - (intOf i).toNat)
        case atStart => exact ⟨0, _, rfl, by omega, by have := hr; unfold Hid at *; omega, by omega, by omega, R, B⟩
        case round =>
          obtain ⟨k, r3, rfl, hk, hr3, r31, r32, R2, B2⟩ := hrel
          clear R B; have R := R2; have B := B2; clear R2 B2
          by_cases hlt : k < N
          · have hkc : (k : Int) < (N : Int) := by omega
            have HD : Hid (∀ W P A, RM W P A (shW r3 (shPut shf 0 v)) → Calls Try.prog 13 #[.pointer (some ⟨P, 0, none⟩), .int .i64 1] W fun e w' => e = .returned (.bool true) ∧ Upd W w' P A (shW (r3 - 1) (shPut shf 0 v))) := fun W P A R => drop_in W P A _ R 1 0 rfl (by show 0 < 3; omega) (by show r3 ≠ 0; omega) (by show 0 ≤ r3; omega) (by show r3 ≤ 1000000; omega) _ rfl
            go_wp2_with (go_at_call 13; with_reducible refine (HD.out _ P A R.out).mono ?_; rintro e w1 ⟨rfl, U⟩; replace R := Lib.hid U.rm; replace B := Lib.hid (B.out.grown U.gr B.out.size (fun k e => by have := Option.some.inj e; omega)); clear U)
            go_roundw
            case rel => exact ⟨k + 1, r3 - 1, by go_num, by omega, by have := hr3.out; unfold Hid; omega, by have := hr3.out; omega, by omega, R, B⟩
            case measure => simp [intOf]; omega
          · obtain rfl : N = k := by omega
            obtain rfl : r3 = 1 := by have := hr3.out; omega
            go_wp2_with (first
          | (go_at_call 16; with_reducible refine (HG.out _ P A R.out).mono ?_; rintro e w1 ⟨rfl, rfl⟩)
          | (go_at_call 14; with_reducible refine (HS3.out _ P A R.out).mono ?_; rintro e w1 ⟨rfl, U⟩; replace R := Lib.hid U.rm; replace B := Lib.hid (B.out.grown U.gr B.out.size (fun k e => by have := Option.some.inj e; omega)); clear U)
          | (go_at_call 18; with_reducible refine (HR.out _ P A R.out).mono ?_; rintro e w1 ⟨rfl, rfl⟩))
            go_ret
            exact ⟨rfl, B.out⟩
  · have hb0 : ((N : Int) == 0) = false := by simp; omega
    have HZ := Lib.hid hz; clear hz
    have HF : Hid (shf 0 = 1) := rfl
    have HS3 : Hid (∀ W P A, RM W P A (shW 1 shf) → Calls Try.prog 14 #[.pointer (some ⟨P, 0, none⟩), .int .i64 1, .int .i64 1, .int .i32 v] W fun e w' => e = .returned (.bool true) ∧ Upd W w' P A (shW 1 (shPut shf 1 v))) := fun W P A R => set_in W P A _ R 1 1 v 0 1 rfl (by show 0 < 3; omega) rfl rfl (by omega) _ rfl
    have HG : Hid (∀ W P A, RM W P A (shW 1 shf) → Calls Try.prog 16 #[.pointer (some ⟨P, 0, none⟩), .int .i64 1, .int .i64 0] W fun e w' => e = .returned (.tuple #[.int .i32 1, .bool true]) ∧ W = w') := fun W P A R => get_in W P A _ R 1 0 0 0 rfl (by show 0 < 3; omega) (by show (1 : Int) ≠ 0; omega) rfl (by omega) _ rfl
    have HR : Hid (∀ W P A, RM W P A (shW 1 (shPut shf 1 v)) → Calls Try.prog 18 #[.pointer (some ⟨P, 0, none⟩), .int .i64 1] W fun e w' => e = .returned (.int .i64 1) ∧ W = w') := fun W P A R => refs_any W P A _ R 1 1 rfl
    go_enter Try.func6, Try.ntmps6
    go_wp2_with (first
          | (go_at_call 8; with_reducible refine (HBg.out _).mono ?_; rintro e w0 ⟨rfl, B0⟩; have B := Lib.hid B0; clear B0)
          | (go_at_call 9; with_reducible refine (HN.out _).mono ?_; rintro e w1 ⟨P, A, rfl, hA0, hP0, R0, B0⟩; have hA : w.heap.size ≤ A := Nat.le_trans B.out.size hA0; have R := Lib.hid R0; replace B := Lib.hid (B.out.trans (B0.mono B.out.size)); clear R0 B0 hA0 hP0)
          | (go_at_call 10; with_reducible refine (HT.out _ P A R.out).mono ?_; rintro e w1 ⟨rfl, U⟩; replace R := Lib.hid U.rm; replace B := Lib.hid (B.out.grown U.gr B.out.size (fun k e => by have := Option.some.inj e; omega)); clear U)
          | (go_at_call 14; with_reducible refine (HS1.out _ P A R.out).mono ?_; rintro e w1 ⟨rfl, U⟩; replace R := Lib.hid U.rm; replace B := Lib.hid (B.out.grown U.gr B.out.size (fun k e => by have := Option.some.inj e; omega)); clear U))
    have hA' := hA
    go_loopw [9] (fun i wr => ∃ (k : Nat) (r : Int), i = .int .i64 k ∧ k ≤ N ∧ Hid (r = 1 + k) ∧ 1 ≤ r ∧ r ≤ 1000 ∧ Hid (RM wr P A (shW r shf)) ∧ Hid (Below w.heap.size w wr)) (fun i _ => N - (intOf i).toNat)
    case atStart => exact ⟨0, 1, rfl, by omega, rfl, by omega, by omega, R, B⟩
    case round =>
      obtain ⟨k, r, rfl, hk, hr, r1, r2, R2, B2⟩ := hrel
      clear R B; have R := R2; have B := B2; clear R2 B2
      by_cases hlt : k < N
      · have hkc : (k : Int) < (N : Int) := by omega
        have HH : Hid (∀ W P A, RM W P A (shW r shf) → Calls Try.prog 12 #[.pointer (some ⟨P, 0, none⟩), .int .i64 1] W fun e w' => e = .returned (.bool true) ∧ Upd W w' P A (shW (r + 1) shf)) := fun W P A R => hold_in W P A _ R 1 0 rfl (by show 0 < 3; omega) (by show r ≠ 0; omega) (by show 0 ≤ r; omega) (by show r ≤ 1000000; omega) _ rfl
        go_wp2_with (go_at_call 12; with_reducible refine (HH.out _ P A R.out).mono ?_; rintro e w1 ⟨rfl, U⟩; replace R := Lib.hid U.rm; replace B := Lib.hid (B.out.grown U.gr B.out.size (fun k e => by have := Option.some.inj e; omega)); clear U)
        go_roundw
        case rel => exact ⟨k + 1, r + 1, by go_num, by omega, by have := hr.out; unfold Hid; omega, by omega, by have := hr.out; omega, R, B⟩
        case measure => simp [intOf]; omega
      · obtain rfl : N = k := by omega
        obtain ⟨r', hr'⟩ : ∃ r', r' = r := ⟨_, rfl⟩
        clear hr'
        have HS2 : Hid (∀ W P A, RM W P A (shW r shf) → Calls Try.prog 14 #[.pointer (some ⟨P, 0, none⟩), .int .i64 1, .int .i64 0, .int .i32 v] W fun e w' => e = .returned (.bool false) ∧ W = w') := fun W P A R => set_out W P A _ R 1 0 v (.inr (.inl (by show r > 1; have := hr.out; have := HZ.out; omega)))
        go_wp2_with (go_at_call 14; with_reducible refine (HS2.out _ P A R.out).mono ?_; rintro e w1 ⟨rfl, rfl⟩)
        go_loopw [11] (fun i wr => ∃ (k : Nat) (r : Int), i = .int .i64 k ∧ k ≤ N ∧ Hid (r = 1 + N - k) ∧ 1 ≤ r ∧ r ≤ 1000 ∧ Hid (RM wr P A (shW r shf)) ∧ Hid (Below w.heap.size w wr)) (fun i _ => N - (intOf i).toNat)
        case atStart => exact ⟨0, _, rfl, by omega, by have := hr; unfold Hid at *; omega, by omega, by omega, R, B⟩
        case round =>
          obtain ⟨k, r3, rfl, hk, hr3, r31, r32, R2, B2⟩ := hrel
          clear R B; have R := R2; have B := B2; clear R2 B2
          by_cases hlt : k < N
          · have hkc : (k : Int) < (N : Int) := by omega
            have HD : Hid (∀ W P A, RM W P A (shW r3 shf) → Calls Try.prog 13 #[.pointer (some ⟨P, 0, none⟩), .int .i64 1] W fun e w' => e = .returned (.bool true) ∧ Upd W w' P A (shW (r3 - 1) shf)) := fun W P A R => drop_in W P A _ R 1 0 rfl (by show 0 < 3; omega) (by show r3 ≠ 0; omega) (by show 0 ≤ r3; omega) (by show r3 ≤ 1000000; omega) _ rfl
            go_wp2_with (go_at_call 13; with_reducible refine (HD.out _ P A R.out).mono ?_; rintro e w1 ⟨rfl, U⟩; replace R := Lib.hid U.rm; replace B := Lib.hid (B.out.grown U.gr B.out.size (fun k e => by have := Option.some.inj e; omega)); clear U)
            go_roundw
            case rel => exact ⟨k + 1, r3 - 1, by go_num, by omega, by have := hr3.out; unfold Hid; omega, by have := hr3.out; omega, by omega, R, B⟩
            case measure => simp [intOf]; omega
          · obtain rfl : N = k := by omega
            obtain rfl : r3 = 1 := by have := hr3.out; omega
            go_wp2_with (first
          | (go_at_call 16; with_reducible refine (HG.out _ P A R.out).mono ?_; rintro e w1 ⟨rfl, rfl⟩)
          | (go_at_call 14; with_reducible refine (HS3.out _ P A R.out).mono ?_; rintro e w1 ⟨rfl, U⟩; replace R := Lib.hid U.rm; replace B := Lib.hid (B.out.grown U.gr B.out.size (fun k e => by have := Option.some.inj e; omega)); clear U)
          | (go_at_call 18; with_reducible refine (HR.out _ P A R.out).mono ?_; rintro e w1 ⟨rfl, rfl⟩))
            go_ret
            exact ⟨rfl, B.out⟩
end Go.Proofs.Ytfpoeilamfcmjaa
