/- WALK OF THE LAW AsmMany. -/
import Derived.Test.YthidkkjhpdcenaaDoorUa
namespace Go.Proofs.YthidkkjhpdcenaaDoor
set_option maxRecDepth 100000
open Go.RowKit
set_option linter.unusedVariables false

/-! ### plain -/
def nothingS : List UInt8 := [32, 32, 35, 32, 110, 111, 116, 104, 105, 110, 103]
def timeS : List UInt8 := [116, 105, 109, 101, 32, 51]
def manyS : List UInt8 := [116, 105, 116, 108, 101, 32, 109, 97, 110, 121]
def manyT : List UInt8 := [109, 97, 110, 121]
def timeO : O4 := ⟨15, 3, 0, 0⟩
def gapL : Nat → List UInt8
  | 0 => []
  | g + 1 => gapL g ++ (nothingS ++ [10])
def repL (g : Nat) : Nat → List UInt8
  | 0 => []
  | n + 1 => repL g n ++ (gapL g ++ (timeS ++ [10]))
theorem add_nothing (t : List UInt8) (os : List O4) : addL t os (bareL nothingS) = some (t, os) := by
  have : bareL nothingS = [] := by decide +kernel
  rw [this]; exact addL_nil t os
theorem add_time (t : List UInt8) (os : List O4) (ht : t ≠ []) : addL t os (bareL timeS) = if os.length < 64 then some (t, os ++ [timeO]) else none := by
  have h1 : bareL timeS = timeS := by decide +kernel
  have h2 : readW (wordsL [] timeS) = some timeO := by kernel_rfl
  rw [h1]
  unfold addL
  rw [if_neg (by decide), if_neg ht, h2]
  rfl
theorem add_many : addL [] [] (bareL manyS) = some (manyT, []) := by kernel_rfl
theorem gap_go (t : List UInt8) (os : List O4) : ∀ (g n : Nat) (r : List UInt8), pgo t os n [] (gapL g ++ r) = pgo t os (n + g) [] r
  | 0, n, r => by simp [gapL]
  | g + 1, n, r => by
    have e : gapL (g + 1) ++ r = gapL g ++ (nothingS ++ 10 :: r) := by simp [gapL]
    rw [e, gap_go t os g n, pgo_line t t os os (n + g) nothingS r (by decide) (add_nothing t os)]
    rfl
/-- so many lines of time that all may be -/
theorem rep_ok (g : Nat) (t : List UInt8) (ht : t ≠ []) : ∀ (N n : Nat) (r : List UInt8), N ≤ 64 → pgo t [] n [] (repL g N ++ r) = pgo t (List.replicate N timeO) (n + N * (g + 1)) [] r
  | 0, n, r, _ => by simp [repL]
  | N + 1, n, r, h => by
    have e : repL g (N + 1) ++ r = repL g N ++ (gapL g ++ (timeS ++ 10 :: r)) := by simp [repL]
    have e2 : n + N * (g + 1) + g + 1 = n + (N + 1) * (g + 1) := by rw [Nat.succ_mul]; omega
    rw [e, rep_ok g t ht N n _ (by omega), gap_go, pgo_line t t _ (List.replicate N timeO ++ [timeO]) _ timeS r (by decide) (by
      rw [add_time t _ ht, if_pos (by rw [List.length_replicate]; omega)]), ← List.replicate_succ', e2]
theorem rep_split (g N M : Nat) : ∃ r, repL g (N + M) = repL g N ++ r ∧ (0 < M → ∃ r2, r = gapL g ++ (timeS ++ 10 :: r2)) := by
  induction M with
  | zero => exact ⟨[], by simp, fun h => by omega⟩
  | succ M ih =>
    obtain ⟨r, h1, h2⟩ := ih
    refine ⟨r ++ (gapL g ++ (timeS ++ [10])), by rw [Nat.add_succ, repL, h1, List.append_assoc], fun _ => ?_⟩
    cases M with
    | zero =>
      have : r = [] := by
        have := congrArg List.length h1
        rw [Nat.add_zero, List.length_append] at this
        exact List.eq_nil_of_length_eq_zero (by omega)
      rw [this]
      exact ⟨[], by simp⟩
    | succ M =>
      obtain ⟨r2, hr2⟩ := h2 (by omega)
      rw [hr2]
      exact ⟨r2 ++ (gapL g ++ (timeS ++ [10])), by simp⟩
def manyL (g N : Nat) : List UInt8 := manyS ++ 10 :: repL g N
theorem many_start (g N : Nat) : parseL (manyL g N) = pgo manyT [] 2 [] (repL g N) := by
  unfold parseL manyL
  exact pgo_line [] manyT [] [] 1 manyS _ (by decide) add_many
theorem many_few (g N : Nat) (h : N ≤ 64) : parseL (manyL g N) = finL manyT (List.replicate N timeO) := by
  have := rep_ok g manyT (by decide) N 2 [] h
  rw [List.append_nil, pgo_done] at this
  rw [many_start, this]
theorem many_over (g N : Nat) (h : 64 < N) : parseL (manyL g N) = .bad (1 + 65 * (g + 1)) := by
  obtain ⟨M, rfl⟩ : ∃ M, N = 64 + M := ⟨N - 64, by omega⟩
  obtain ⟨r, h1, h2⟩ := rep_split g 64 M
  obtain ⟨r2, hr2⟩ := h2 (by omega)
  rw [many_start, h1, rep_ok g manyT (by decide) 64 2 r (by omega), hr2, gap_go, pgo_line_bad manyT _ _ timeS r2 (by decide) (by
    rw [add_time manyT _ (by decide), if_neg (by rw [List.length_replicate]; omega)])]
  congr 1
  omega
theorem gapL_len (g : Nat) : (gapL g).length = 12 * g := by
  induction g with
  | zero => rfl
  | succ g ih => rw [gapL, List.length_append, ih]; show 12 * g + 12 = _; omega

/-- Parse, by what it says of these texts -/
theorem many_parse (z : ByteArray) (G N : Nat) (w : World) (hT : Tabs w) (hz : z.size ≤ 100000) (hl : lst z = manyL G N) :
    Calls Tryd.prog 11 #[.string z] w fun e w' => Below w.heap.size w w' ∧ ∃ (pv : Value) (t : ByteArray) (A : Option Addr) (m cap : Nat) (at_ er : Int), e = .returned (.tuple #[.agg #[.string t, .slice A m cap], .int .i64 at_, .int .i64 er]) ∧
      Hid ((N = 0 → at_ = 0 ∧ er = 1) ∧ (64 < N → at_ = 1 + 65 * ((G : Int) + 1) ∧ er = 1) ∧ (0 < N → N ≤ 64 → at_ = 0 ∧ er = 0 ∧ m = N)) := by
  refine (parse_any z w hT hz).mono ?_
  intro e w' h
  rw [hl] at h
  unfold Parsed at h
  by_cases h64 : 64 < N
  · rw [many_over G N h64] at h
    obtain ⟨rfl, hb⟩ := h
    refine ⟨hb, .nilIface, _, _, _, _, _, _, rfl, fun h => by omega, fun _ => ⟨by omega, rfl⟩, fun _ h => by omega⟩
  · rw [many_few G N (by omega)] at h
    by_cases h0 : N = 0
    · subst h0
      have e : finL manyT (List.replicate 0 timeO) = .bad 0 := rfl
      rw [e] at h
      obtain ⟨rfl, hb⟩ := h
      exact ⟨hb, .nilIface, _, _, _, _, _, _, rfl, fun _ => ⟨rfl, rfl⟩, fun h => by omega, fun h => by omega⟩
    · have e : finL manyT (List.replicate N timeO) = .ok manyT (List.replicate N timeO) := by
        unfold finL
        rw [if_neg]
        intro e
        have := congrArg List.length e
        rw [List.length_replicate] at this
        exact h0 this
      rw [e] at h
      obtain ⟨A, cap, rfl, _, _, _, hb⟩ := h
      exact ⟨hb, .nilIface, _, _, _, _, _, _, rfl, fun h => by omega, fun h => by omega, fun _ _ => ⟨rfl, rfl, List.length_replicate⟩⟩

set_option maxHeartbeats 2000000 in
theorem many_main (N G : Nat) (w : World) (hT : Tabs w) (hN : N ≤ 70) (hG : G ≤ 3) :
    Calls Tryd.prog 8 #[.int .i64 (N : Int), .int .i64 (G : Int)] w fun e w' => e = .returned (.bool true) ∧ Below w.heap.size w w' := by
  have HTT := Lib.hid hT; clear hT
  have a1 : ¬ (N : Int) < 0 := by omega
  have a2 : ¬ (N : Int) > 70 := by omega
  have a3 : ¬ (G : Int) < 0 := by omega
  have a4 : ¬ (G : Int) > 3 := by omega
  go_enter Tryd.func8, Tryd.ntmps8
  go_wp2_with fail
  refine (begun6_any _ HTT.out).mono ?_
  rintro e w1 ⟨rfl, hb1⟩
  go_wp2_with fail
  go_loop [6, 7] (fun sv iv => ∃ (i : Nat) (z : ByteArray), iv = .int .i64 i ∧ sv = .string z ∧ i ≤ N ∧ z.size ≤ 11 + 43 * i ∧ Hid (lst z = manyL G i)) (fun _ iv => N - (intOf iv).toNat)
  case atStart => exact ⟨0, ⟨#[116, 105, 116, 108, 101, 32, 109, 97, 110, 121, 10]⟩, rfl, rfl, by omega, by decide, rfl⟩
  case round =>
    obtain ⟨i, z, rfl, rfl, hi, hz, HZ⟩ := hrel
    by_cases hlt : i < N
    · have hic : (i : Int) < (N : Int) := by omega
      go_wp2_with fail
      go_loop [6, 8] (fun sv kv => ∃ (k : Nat) (y : ByteArray), kv = .int .i64 k ∧ sv = .string y ∧ k ≤ G ∧ y.size ≤ 11 + 43 * i + 12 * k ∧ Hid (lst y = manyL G i ++ gapL k)) (fun _ kv => G - (intOf kv).toNat)
      case atStart => exact ⟨0, z, rfl, rfl, by omega, by omega, by unfold Hid; rw [HZ.out]; simp [gapL]⟩
      case round =>
        obtain ⟨k, y, rfl, rfl, hk, hy, HY⟩ := hrel
        by_cases hkG : k < G
        · have hkc : (k : Int) < (G : Int) := by omega
          go_wp2
          go_round
          case rel =>
            refine ⟨k + 1, _, by go_num, rfl, by omega, ?_, ?_⟩
            · simp only [ByteArray.size_append]
              have e : (⟨#[32, 32, 35, 32, 110, 111, 116, 104, 105, 110, 103, 10]⟩ : ByteArray).size = 12 := rfl
              omega
            · unfold Hid
              have e : lst (⟨#[32, 32, 35, 32, 110, 111, 116, 104, 105, 110, 103, 10]⟩ : ByteArray) = nothingS ++ [10] := rfl
              rw [lst_append, HY.out, e, gapL, List.append_assoc]
          case measure => simp [intOf]; omega
        · obtain rfl : k = G := by omega
          go_wp2
          go_round
          case rel =>
            refine ⟨i + 1, _, by go_num, rfl, by omega, ?_, ?_⟩
            · simp only [ByteArray.size_append]
              have e : (⟨#[116, 105, 109, 101, 32, 51, 10]⟩ : ByteArray).size = 7 := rfl
              omega
            · unfold Hid
              have e : lst (⟨#[116, 105, 109, 101, 32, 51, 10]⟩ : ByteArray) = timeS ++ [10] := rfl
              rw [lst_append, HY.out, e]
              unfold manyL
              rw [repL]
              simp
          case measure => simp [intOf]; omega
    · obtain rfl : i = N := by omega
      have HPM := Lib.hid (many_parse z G i w1 (HTT.out.next hb1) (by omega) HZ.out)
      go_wp2_with fail
      refine HPM.out.mono ?_
      rintro e w2 ⟨hb2, -, t, A, m, cap, at_, er, rfl, hans⟩
      have hb3 := hb1.trans (hb2.mono hb1.size)
      have hb4 : Below w.heap.size w (w2.alloc (.cells #[.string t, .slice A m cap] 26)) := hb3.alloc hb3.size _
      by_cases h0 : i = 0
      · obtain ⟨h1, h2⟩ := hans.out.1 h0
        have q0 : ((i : Int) == 0) = true := by rw [h0]; rfl
        subst h1 h2
        clear h0 hans
        go_wp2
        go_ret
        exact ⟨rfl, hb4⟩
      · have q0 : ((i : Int) == 0) = false := by rw [beq_eq_false_iff_ne]; omega
        by_cases h64 : 64 < i
        · obtain ⟨h1, h2⟩ := hans.out.2.1 h64
          have q1 : (i : Int) > 64 := by omega
          have q2 : (at_ == 1 + 65 * ((G : Int) + 1)) = true := by rw [beq_iff_eq]; exact h1
          subst h2
          clear h0 h64 h1 hans
          go_wp2
          go_ret
          exact ⟨rfl, hb4⟩
        · obtain ⟨h1, h2, h3⟩ := hans.out.2.2 (by omega) (by omega)
          have q1 : ¬ (i : Int) > 64 := by omega
          subst h1 h2 h3
          clear h0 h64 hans
          go_wp2
          go_ret
          exact ⟨rfl, hb4⟩
theorem many_law (n gap : Int) (w : World) (hT : Tabs w) :
    Calls Tryd.prog 8 #[.int .i64 n, .int .i64 gap] w fun e w' => e = .returned (.bool true) ∧ Below w.heap.size w w' := by
  by_cases h : n < 0 ∨ n > 70 ∨ gap < 0 ∨ gap > 3
  · have hcase : n < 0 ∨ (¬ n < 0 ∧ n > 70) ∨ (¬ n < 0 ∧ ¬ n > 70 ∧ gap < 0) ∨ (¬ n < 0 ∧ ¬ n > 70 ∧ ¬ gap < 0 ∧ gap > 3) := by omega
    clear h
    have HB := Lib.hid (begun6_any w hT)
    rcases hcase with a1 | ⟨a1, a2⟩ | ⟨a1, a2, a3⟩ | ⟨a1, a2, a3, a4⟩
    all_goals
      go_enter Tryd.func8, Tryd.ntmps8
      go_wp2_with (go_at_call 9; refine HB.out.mono ?_; rintro e w1 ⟨rfl, hb1⟩)
      go_ret
      exact ⟨rfl, hb1⟩
  · obtain ⟨N, rfl⟩ : ∃ N : Nat, n = (N : Int) := ⟨n.toNat, by omega⟩
    obtain ⟨G, rfl⟩ : ∃ G : Nat, gap = (G : Int) := ⟨gap.toNat, by omega⟩
    exact many_main N G w hT (by omega) (by omega)
end Go.Proofs.YthidkkjhpdcenaaDoor
