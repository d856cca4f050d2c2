/- WALKS over package queue: N, Line, Front, Joint. -/
import Derived.Test.YtomiligjcpmnjaaXa
namespace Go.Proofs.Ytomiligjcpmnjaa
set_option maxRecDepth 100000
open Go.RowKit
set_option linter.unusedVariables false
set_option linter.unusedSimpArgs false

theorem qn_nil (w : World) : Calls Try.prog 25 #[.pointer none] w fun e w' => e = .returned (.int .i64 0) ∧ w = w' := by
  go_enter Try.func25, Try.ntmps25
  go_wp2
  go_ret
  exact ⟨rfl, rfl⟩
theorem qn_any (w : World) (q r : Nat) (xs : List Ln) (h : QM w q r xs) (n : Nat) (hn : xs.length = n) : Calls Try.prog 25 #[pB q] w fun e w' => e = .returned (.int .i64 n) ∧ w = w' := by
  have c0 := h.c0
  rw [hn] at c0
  clear h hn
  go_enter Try.func25, Try.ntmps25
  go_wp2
  go_ret
  exact ⟨rfl, rfl⟩
theorem line_nil (w : World) (p : Int) : Calls Try.prog 20 #[.pointer none, .int .i64 p] w fun e w' => e = .returned (.pointer none) ∧ w = w' := by
  have HL := Lib.hid (qn_nil w)
  by_cases h0 : p < 0
  · go_enter Try.func20, Try.ntmps20
    go_wp2_with (go_at_call 25; with_reducible refine (HL.out).mono ?_; rintro e w1 ⟨rfl, rfl⟩)
    go_ret
    exact ⟨rfl, rfl⟩
  · have h1 : 0 ≤ p := by omega
    go_enter Try.func20, Try.ntmps20
    go_wp2_with (go_at_call 25; with_reducible refine (HL.out).mono ?_; rintro e w1 ⟨rfl, rfl⟩)
    go_ret
    exact ⟨rfl, rfl⟩
theorem line_out (w : World) (q r : Nat) (xs : List Ln) (h : QM w q r xs) (n : Nat) (hn : xs.length = n) (p : Int) (hp : ¬ (0 ≤ p ∧ p < (n : Int))) : Calls Try.prog 20 #[pB q, .int .i64 p] w fun e w' => e = .returned (.pointer none) ∧ w = w' := by
  have HL := Lib.hid (qn_any w q r xs h n hn)
  clear h hn
  by_cases h0 : p < 0
  · clear hp
    go_enter Try.func20, Try.ntmps20
    go_wp2_with (go_at_call 25; with_reducible refine (HL.out).mono ?_; rintro e w1 ⟨rfl, rfl⟩)
    go_ret
    exact ⟨rfl, rfl⟩
  · have h1 : (n : Int) ≤ p := by omega
    clear hp
    go_enter Try.func20, Try.ntmps20
    go_wp2_with (go_at_call 25; with_reducible refine (HL.out).mono ?_; rintro e w1 ⟨rfl, rfl⟩)
    go_ret
    exact ⟨rfl, rfl⟩
theorem line_in (w : World) (q r : Nat) (xs : List Ln) (h : QM w q r xs) (p : Int) (j : Nat) (hp : p = (j : Int)) (x : Ln) (hx : xs[j]? = some x) : Calls Try.prog 20 #[pB q, .int .i64 p] w fun e w' => e = .returned (pB x.b) ∧ w = w' := by
  subst hp
  obtain ⟨n, hn⟩ : ∃ n, xs.length = n := ⟨_, rfl⟩
  have hj := (List.getElem?_eq_some_iff.1 hx).1
  have HL := Lib.hid (qn_any w q r xs h n hn)
  have c0 := h.c0
  have c1 := h.at j x hx
  rw [hn] at c0 hj
  clear h hn hx
  go_enter Try.func20, Try.ntmps20
  go_wp2_with (go_at_call 25; with_reducible refine (HL.out).mono ?_; rintro e w1 ⟨rfl, rfl⟩)
  go_ret
  exact ⟨rfl, rfl⟩

/-- what is known of all -/
def frontN (xs : List Ln) : Nat := xs.foldl (fun m x => min m x.l.length) 1000
theorem frontN_snoc (xs : List Ln) (x : Ln) : frontN (xs ++ [x]) = min (frontN xs) x.l.length := by unfold frontN; rw [List.foldl_append]; rfl
theorem foldl_min (xs : List Ln) : ∀ m, xs.foldl (fun m x => min m x.l.length) m ≤ m ∧ ∀ x ∈ xs, xs.foldl (fun m x => min m x.l.length) m ≤ x.l.length := by
  induction xs with
  | nil => exact fun m => ⟨Nat.le_refl _, fun x hx => (by cases hx)⟩
  | cons y r ih =>
    intro m
    obtain ⟨h1, h2⟩ := ih (min m y.l.length)
    refine ⟨by rw [List.foldl_cons]; omega, fun x hx => ?_⟩
    rw [List.foldl_cons]
    rcases List.mem_cons.1 hx with rfl | hx
    · omega
    · exact h2 x hx
theorem frontN_le (xs : List Ln) : frontN xs ≤ 1000 := (foldl_min xs 1000).1
theorem frontN_mem (xs : List Ln) : ∀ x ∈ xs, frontN xs ≤ x.l.length := (foldl_min xs 1000).2
theorem take_next {α : Type} (xs : List α) (k : Nat) (x : α) (h : xs[k]? = some x) : xs.take (k + 1) = xs.take k ++ [x] := by
  rw [List.take_add_one, h]; rfl
theorem front_nil (w : World) : Calls Try.prog 18 #[.pointer none] w fun e w' => e = .returned (.int .i64 0) ∧ w = w' := by
  have HL := Lib.hid (qn_nil w)
  go_enter Try.func18, Try.ntmps18
  go_wp2_with (go_at_call 25; with_reducible refine (HL.out).mono ?_; rintro e w1 ⟨rfl, rfl⟩)
  go_ret
  exact ⟨rfl, rfl⟩
theorem front_any (w : World) (q r : Nat) (xs : List Ln) (h : QM w q r xs) (h0 : 0 < xs.length) (h8 : xs.length ≤ 8) (F : Nat) (hF : frontN xs = F) : Calls Try.prog 18 #[pB q] w fun e w' => e = .returned (.int .i64 F) ∧ w = w' := by
  obtain ⟨n, hn⟩ : ∃ n, xs.length = n := ⟨_, rfl⟩
  have HL := Lib.hid (qn_any w q r xs h n hn)
  have c0 := h.c0
  rw [hn] at c0 h0 h8
  have h0' : ((n : Int) == 0) = false := by simp; omega
  have H := Lib.hid h; have HN := Lib.hid hn; have HF := Lib.hid hF
  clear h hn hF
  go_enter Try.func18, Try.ntmps18
  go_wp2_with (go_at_call 25; with_reducible refine (HL.out).mono ?_; rintro e w1 ⟨rfl, rfl⟩)
  go_loopw [3, 5, 14] (fun a b i wr => ∃ (k m : Nat), i = .int .i64 (k : Int) ∧ a = .int .i64 (m : Int) ∧ k ≤ n ∧ Hid (frontN (xs.take k) = m) ∧ wr = w) (fun _ _ i _ => n - (intOf i).toNat)
  case atStart => exact ⟨0, 1000, rfl, rfl, by omega, rfl, rfl⟩
  case round =>
    obtain ⟨k, m, rfl, rfl, hk, hm, rfl⟩ := hrel
    by_cases hlt : k < n
    · obtain ⟨x, hx⟩ : ∃ x, xs[k]? = some x := ⟨_, List.getElem?_eq_getElem (by rw [HN.out]; exact hlt)⟩
      have c1 := H.out.at k x hx
      have hl := (H.out.line k x hx)
      obtain ⟨X, hX⟩ : ∃ X, x.l.length = X := ⟨_, rfl⟩
      rw [hX] at hl
      have HLen := Lib.hid (len_any wr x.b X x.l hl.1)
      obtain ⟨m2, hm2⟩ : ∃ m2 : Nat, min m X = m2 := ⟨_, rfl⟩
      have e1 : min (m : Int) (X : Int) = (m2 : Int) := by omega
      have hs : Hid (frontN (xs.take (k + 1)) = m2) := by show _ = _; rw [take_next xs k x hx, frontN_snoc, hm.out, hX, hm2]
      have hk2 : Hid (k + 1 ≤ n) := hlt
      have hms : Hid (n - (k + 1) < n - k) := by show _ < _; omega
      have hkn : (k : Int) < (n : Int) := by omega
      clear hx hl hX hm2
      go_wp2_with (go_at_call 35; with_reducible refine (HLen.out).mono ?_; rintro e w1 ⟨rfl, rfl⟩)
      go_roundw
      case rel => exact ⟨k + 1, m2, by go_num, rfl, hk2.out, hs, by trivial⟩
      case measure => simp [intOf]; have := hms.out; omega
    · obtain rfl : k = n := by omega
      rw [← HN.out, List.take_length, HF.out] at hm
      obtain rfl := hm.out
      go_wp2
      go_ret
      exact ⟨rfl, rfl⟩
end Go.Proofs.Ytomiligjcpmnjaa
