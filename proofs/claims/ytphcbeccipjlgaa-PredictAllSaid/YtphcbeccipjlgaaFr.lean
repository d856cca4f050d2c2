/- WALKS of the laws of layer 18: Of; PredictMay. -/
import Derived.Test.YtphcbeccipjlgaaFq
namespace Go.Proofs.Ytphcbeccipjlgaa
set_option maxRecDepth 100000
open Go.RowKit Go.Maps
set_option linter.unusedVariables false
set_option linter.unusedSimpArgs false

set_option maxHeartbeats 1000000 in
theorem of_any (z o : Int) (A : Option Addr) (n c : Nat) (w : World) :
    Calls Try.prog 15 #[.agg #[.int .i64 z, .int .i64 o, .slice A n c]] w fun e w' => e = .returned (.agg #[.int .i64 z, .int .i64 o, .slice A n c]) ∧ Below w.heap.size w w' := by
  go_enter Try.func15, Try.ntmps15
  go_wp2_with fail
  have hs : (Try.prog.info? 29).map (·.size) = some 3 := by kernel_rfl
  have hh : ((w.alloc (.cells #[.int .i64 z, .int .i64 o, .slice A n c] 24)).alloc (.cells #[.int .i64 z, .int .i64 o, .slice A n c] 29)).heap[w.heap.size + 1]? = some (.cells #[.int .i64 z, .int .i64 o, .slice A n c] 29 (0, 0)) := by
    have h0 := heap_alloc_last (w.alloc (.cells #[.int .i64 z, .int .i64 o, .slice A n c] 24)) (.cells #[.int .i64 z, .int .i64 o, .slice A n c] 29)
    simpa using h0
  exact bodyPost_ret (results_cell_row rfl _ _ (w.heap.size + 1) 29 #[.int .i64 z, .int .i64 o, .slice A n c] (0, 0) _ rfl hh Try.underlying29 rfl (by rw [hs]; rfl)) rfl
    ⟨rfl, ((Below.refl _ _).alloc (Nat.le_refl _) _).alloc (by simp) _⟩
/-- a kind's box, in each later world -/
def Box3 (w2 : World) (bx : Nat) (z o : Int) (A : Option Addr) (n c : Nat) : Prop := ∀ wx, Below (bx + 1) w2 wx → wx.cell? ⟨bx, 0, none⟩ = some (.int .i64 z) ∧ wx.cell? ⟨bx, 1, none⟩ = some (.int .i64 o) ∧ wx.cell? ⟨bx, 2, none⟩ = some (.slice A n c)
theorem box3 {w2 : World} {bx : Nat} {z o : Int} {A : Option Addr} {n c : Nat} {t : TypeId} (h : w2.heap[bx]? = some (.cells #[.int .i64 z, .int .i64 o, .slice A n c] t (0, 0))) : Box3 w2 bx z o A n c := fun wx hx =>
  ⟨(hx.cell (p := ⟨bx, 0, none⟩) (by show bx < _; omega)).trans (cell_of_row _ _ _ _ _ _ h), (hx.cell (p := ⟨bx, 1, none⟩) (by show bx < _; omega)).trans (cell_of_row _ _ _ _ _ _ h), (hx.cell (p := ⟨bx, 2, none⟩) (by show bx < _; omega)).trans (cell_of_row _ _ _ _ _ _ h)⟩
theorem mayBy_at (z o : Int) (A : Option Addr) (n c : Nat) (w : World) (hn : n ≤ maxLen) (r : Bool) (hr : mayB z o n = r) : Calls Try.prog 16 #[.agg #[.int .i64 z, .int .i64 o, .slice A n c]] w fun e w' => e = .returned (.bool r) ∧ Below w.heap.size w w' := by
  subst hr
  exact mayBy_any z o A n c w hn
/-- what Rank and Chain of one guess out of nothing answer: how many -/
theorem rank_one (z o : Int) (A : Option Addr) (n : Nat) (w : World) (hn : n ≤ 3000) (ht : RB w w.heap.size A (List.replicate n 0)) (r : Bool) (hr : mayB z o n = r) :
    Calls Try.prog 17 #[.agg #[.int .i64 z, .int .i64 o, .slice A n n], .slice none 0 0, .int .i64 1] w fun e w' => (∃ B c, e = .returned (.slice B (if r then 1 else 0) c)) ∧ Below w.heap.size w w' := by
  cases r with
  | false => exact (rank_none z o A n n none 0 0 1 w (by unfold maxLen; omega) hr).mono fun e w' ⟨he, hb⟩ => ⟨⟨none, 0, he⟩, hb⟩
  | true =>
    have h := of_decide_eq_true hr
    have hok : (Kd.mk z.toNat o.toNat (List.replicate n 0)).ok := by
      unfold Kd.ok
      simp only [List.length_replicate, List.replicate_eq_nil_iff]
      omega
    exact (rank_at ⟨z.toNat, o.toNat, List.replicate n 0⟩ z o (by simp only; omega) (by simp only; omega) A n n none [] 0 0 1 w ⟨hok, by simp, Nat.le_refl _, by unfold maxLen; omega, ht⟩ ⟨rfl, Nat.le_refl _, by unfold maxLen; omega, RB.nil _ _ _⟩ (by omega) 1 (by decide) _ rfl).mono
      fun e w' ⟨⟨g, he, _, _⟩, hb⟩ => ⟨⟨_, _, he⟩, hb⟩
theorem chain_one (z o : Int) (A : Option Addr) (n : Nat) (w : World) (hn : n ≤ 3000) (ht : RB w w.heap.size A (List.replicate n 0)) (r : Bool) (hr : mayB z o n = r) :
    Calls Try.prog 19 #[.agg #[.int .i64 z, .int .i64 o, .slice A n n], .slice none 0 0, .int .i64 1] w fun e w' => (∃ B c, e = .returned (.slice B (if r then 1 else 0) c)) ∧ Below w.heap.size w w' := by
  cases r with
  | false => exact (chain_none z o A n n none 0 0 1 w (by unfold maxLen; omega) hr).mono fun e w' ⟨he, hb⟩ => ⟨⟨none, 0, he⟩, hb⟩
  | true =>
    have h := of_decide_eq_true hr
    have hok : (Kd.mk z.toNat o.toNat (List.replicate n 0)).ok := by
      unfold Kd.ok
      simp only [List.length_replicate, List.replicate_eq_nil_iff]
      omega
    exact (chain_at ⟨z.toNat, o.toNat, List.replicate n 0⟩ z o (by simp only; omega) (by simp only; omega) A n n none [] 0 0 1 w ⟨hok, by simp, Nat.le_refl _, by unfold maxLen; omega, ht⟩ ⟨rfl, Nat.le_refl _, by unfold maxLen; omega, RB.nil _ _ _⟩ (by omega) 1 (by decide) _ rfl).mono
      fun e w' ⟨⟨B, c, he, _, _, _⟩, hb⟩ => ⟨⟨_, _, he⟩, hb⟩
set_option maxHeartbeats 4000000 in
theorem may_law (z o n : Int) (w : World) (z0 : -9223372036854775808 ≤ z) (z1 : z ≤ 9223372036854775807) (o0 : -9223372036854775808 ≤ o) (o1 : o ≤ 9223372036854775807) (n0 : -9223372036854775808 ≤ n) (n1 : n ≤ 9223372036854775807) :
    Calls Try.prog 10 #[.int .i64 z, .int .i64 o, .int .i64 n] w fun e w' => e = .returned (.bool true) ∧ Below w.heap.size w w' := by
  have HG := Lib.hid (begun18_any w)
  by_cases g1 : n < 0
  · go_enter Try.func10, Try.ntmps10
    go_wp2_with (go_at_call 11; with_reducible refine (HG.out).mono ?_; rintro e w3 ⟨rfl, hb⟩)
    go_ret
    exact ⟨rfl, hb⟩
  by_cases g2 : 1010 < n
  · go_enter Try.func10, Try.ntmps10
    go_wp2_with (go_at_call 11; with_reducible refine (HG.out).mono ?_; rintro e w3 ⟨rfl, hb⟩)
    go_ret
    exact ⟨rfl, hb⟩
  obtain ⟨N, rfl⟩ : ∃ N : Nat, n = N := ⟨n.toNat, by omega⟩
  have hN : N ≤ 3000 := by omega
  have hNm : N ≤ maxLen := by unfold maxLen; omega
  have hmk := make_b N hN
  obtain ⟨r, hr⟩ : ∃ r, mayB z o N = r := ⟨_, rfl⟩
  have HR := Lib.hid hr
  clear hr z0 z1 o0 o1 n0 n1
  go_enter Try.func10, Try.ntmps10
  go_wp2_with fail
  (with_reducible refine HG.out.mono ?_)
  rintro e w0 ⟨rfl, hb0⟩
  obtain ⟨w2, hw2⟩ : ∃ w2, (w0.alloc (madeB N)).alloc (.cells #[.int .i64 z, .int .i64 o, .slice (some ⟨w0.heap.size, 0, none⟩) N N] 24) = w2 := ⟨_, rfl⟩
  have b2 : Below w0.heap.size w0 w2 := by rw [← hw2]; exact ((Below.refl _ _).alloc (Nat.le_refl _) _).alloc (by simp) _
  have s2 : w2.heap.size = w0.heap.size + 2 := by rw [← hw2]; simp
  have hbox : w2.heap[w0.heap.size + 1]? = some (.cells #[.int .i64 z, .int .i64 o, .slice (some ⟨w0.heap.size, 0, none⟩) N N] 24 (0, 0)) := by
    rw [← hw2]
    have h0 := heap_alloc_last (w0.alloc (madeB N)) (.cells #[.int .i64 z, .int .i64 o, .slice (some ⟨w0.heap.size, 0, none⟩) N N] 24)
    simpa using h0
  have BX := Lib.hid (box3 hbox)
  have ht2 : RB w2 w2.heap.size (some ⟨w0.heap.size, 0, none⟩) (List.replicate N 0) := by
    have h := (ob_made w0 N hN).cells
    have h2 := RB.then_ h (Nat.le_refl _) ((Below.refl (w0.alloc (madeB N)).heap.size (w0.alloc (madeB N))).alloc (Nat.le_refl _) (.cells #[.int .i64 z, .int .i64 o, .slice (some ⟨w0.heap.size, 0, none⟩) N N] 24))
    rw [hw2] at h2
    exact h2
  have HT2 := Lib.hid ht2
  have H1 := Lib.hid (mayBy_at z o (some ⟨w0.heap.size, 0, none⟩) N N w2 hNm r HR.out)
  have HW := Lib.hid hw2
  rw [← HW.out] at H1
  have B0 := Lib.hid (hb0.trans (b2.mono hb0.size))
  have S2 := Lib.hid s2
  clear hb0 hw2 b2 s2 hbox ht2 HG
  go_wp2_with fail
  (with_reducible refine H1.out.mono ?_)
  rintro e w3 ⟨rfl, hb3⟩
  rw [HW.out] at hb3
  have HB3 := Lib.hid hb3
  have X3 : Below (w0.heap.size + 1 + 1) w2 w3 := hb3.mono (by rw [S2.out]; exact Nat.le_refl _)
  have c30 := (BX.out w3 X3).1
  have c31 := (BX.out w3 X3).2.1
  have c32 := (BX.out w3 X3).2.2
  have H2 := Lib.hid (of_any z o (some ⟨w0.heap.size, 0, none⟩) N N w3)
  clear hb3 X3 H1 HW
  go_wp2_with fail
  (with_reducible refine H2.out.mono ?_)
  rintro e w4 ⟨rfl, hb4⟩
  have HB4 := Lib.hid (HB3.out.trans (hb4.mono HB3.out.size))
  have H3 := Lib.hid (may_at z o (some ⟨w0.heap.size, 0, none⟩) N N w4 hNm r HR.out)
  clear hb4 H2 c30 c31 c32 HB3
  go_wp2_with fail
  (with_reducible refine H3.out.mono ?_)
  rintro e w5 ⟨rfl, hb5⟩
  have HB5 := Lib.hid (HB4.out.trans (hb5.mono HB4.out.size))
  have X5 : Below (w0.heap.size + 1 + 1) w2 w5 := HB5.out.mono (by rw [S2.out]; exact Nat.le_refl _)
  have c50 := (BX.out w5 X5).1
  have c51 := (BX.out w5 X5).2.1
  have c52 := (BX.out w5 X5).2.2
  have H4 := Lib.hid (of_any z o (some ⟨w0.heap.size, 0, none⟩) N N w5)
  clear hb5 X5 H3 HB4
  have hrr : (r == r) = true := by simp
  go_wp2_with fail
  (with_reducible refine H4.out.mono ?_)
  rintro e w6 ⟨rfl, hb6⟩
  have HB6 := Lib.hid (HB5.out.trans (hb6.mono HB5.out.size))
  have H5 := Lib.hid (rank_one z o (some ⟨w0.heap.size, 0, none⟩) N w6 hN (HT2.out.then_ (Nat.le_refl _) HB6.out) r HR.out)
  clear hb6 H4 HB5 c50 c51 c52
  go_wp2_with fail
  (with_reducible refine H5.out.mono ?_)
  rintro e w7 ⟨⟨B7, c7, rfl⟩, hb7⟩
  have HB7 := Lib.hid (HB6.out.trans (hb7.mono HB6.out.size))
  have X7 : Below (w0.heap.size + 1 + 1) w2 w7 := HB7.out.mono (by rw [S2.out]; exact Nat.le_refl _)
  have c70 := (BX.out w7 X7).1
  have c71 := (BX.out w7 X7).2.1
  have c72 := (BX.out w7 X7).2.2
  have H6 := Lib.hid (of_any z o (some ⟨w0.heap.size, 0, none⟩) N N w7)
  have H7 : Hid (∀ w8, Below w7.heap.size w7 w8 → Calls Try.prog 19 #[.agg #[.int .i64 z, .int .i64 o, .slice (some ⟨w0.heap.size, 0, none⟩) N N], .slice none 0 0, .int .i64 1] w8 fun e w' => (∃ B c, e = .returned (.slice B (if r then 1 else 0) c)) ∧ Below w8.heap.size w8 w') := fun w8 h8 =>
    chain_one z o (some ⟨w0.heap.size, 0, none⟩) N w8 hN (HT2.out.then_ (Nat.le_refl _) (HB7.out.trans (h8.mono HB7.out.size))) r HR.out
  clear hb7 H5 HB6 X7
  cases r with
  | true =>
    go_wp2_with fail
    (with_reducible refine H6.out.mono ?_)
    rintro e w8 ⟨rfl, hb8⟩
    have HB8 := Lib.hid (HB7.out.trans (hb8.mono HB7.out.size))
    have H8 := Lib.hid (H7.out w8 hb8)
    clear hb8 H7 H6 HB7 c70 c71 c72
    go_wp2_with fail
    (with_reducible refine H8.out.mono ?_)
    rintro e w9 ⟨⟨B9, c9, rfl⟩, hb9⟩
    have HB9 := Lib.hid (B0.out.trans ((HB8.out.trans (hb9.mono HB8.out.size)).mono B0.out.size))
    clear hb9 H8
    go_wp2_with fail
    go_ret
    exact ⟨rfl, HB9.out⟩
  | false =>
    go_wp2_with fail
    (with_reducible refine H6.out.mono ?_)
    rintro e w8 ⟨rfl, hb8⟩
    have HB8 := Lib.hid (HB7.out.trans (hb8.mono HB7.out.size))
    have H8 := Lib.hid (H7.out w8 hb8)
    clear hb8 H7 H6 HB7 c70 c71 c72
    go_wp2_with fail
    (with_reducible refine H8.out.mono ?_)
    rintro e w9 ⟨⟨B9, c9, rfl⟩, hb9⟩
    have HB9 := Lib.hid (B0.out.trans ((HB8.out.trans (hb9.mono HB8.out.size)).mono B0.out.size))
    clear hb9 H8
    go_wp2_with fail
    go_ret
    exact ⟨rfl, HB9.out⟩
end Go.Proofs.Ytphcbeccipjlgaa
