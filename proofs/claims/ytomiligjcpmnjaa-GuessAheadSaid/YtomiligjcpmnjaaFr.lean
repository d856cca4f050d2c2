/- WALKS of the laws of layer 18: Of; PredictMay. -/
import Derived.Test.YtomiligjcpmnjaaFq
namespace Go.Proofs.Ytomiligjcpmnjaa
set_option maxRecDepth 100000
open Go.RowKit Go.Maps
set_option linter.unusedVariables false
set_option linter.unusedSimpArgs false

set_option maxHeartbeats 1000000 in
theorem of_any (z o : Int) (A : Option Addr) (n c : Nat) (w : World) :
    Calls Try.prog 14 #[.agg #[.int .i64 z, .int .i64 o, .slice A n c]] w fun e w' => e = .returned (.agg #[.int .i64 z, .int .i64 o, .slice A n c]) ∧ Below w.heap.size w w' := by
  go_enter Try.func14, Try.ntmps14
  go_wp2_with fail
  have hs : (Try.prog.info? 39).map (·.size) = some 3 := by kernel_rfl
  have hh : ((w.alloc (.cells #[.int .i64 z, .int .i64 o, .slice A n c] 25)).alloc (.cells #[.int .i64 z, .int .i64 o, .slice A n c] 39)).heap[w.heap.size + 1]? = some (.cells #[.int .i64 z, .int .i64 o, .slice A n c] 39 (0, 0)) := by
    have h0 := heap_alloc_last (w.alloc (.cells #[.int .i64 z, .int .i64 o, .slice A n c] 25)) (.cells #[.int .i64 z, .int .i64 o, .slice A n c] 39)
    simpa using h0
  exact bodyPost_ret (results_cell_row rfl _ _ (w.heap.size + 1) 39 #[.int .i64 z, .int .i64 o, .slice A n c] (0, 0) _ rfl hh Try.underlying39 rfl (by rw [hs]; rfl)) rfl
    ⟨rfl, ((Below.refl _ _).alloc (Nat.le_refl _) _).alloc (by simp) _⟩
/-- a kind's box, in each later world -/
def Box3 (w2 : World) (bx : Nat) (z o : Int) (A : Option Addr) (n c : Nat) : Prop := ∀ wx, Below (bx + 1) w2 wx → wx.cell? ⟨bx, 0, none⟩ = some (.int .i64 z) ∧ wx.cell? ⟨bx, 1, none⟩ = some (.int .i64 o) ∧ wx.cell? ⟨bx, 2, none⟩ = some (.slice A n c)
theorem box3 {w2 : World} {bx : Nat} {z o : Int} {A : Option Addr} {n c : Nat} {t : TypeId} (h : w2.heap[bx]? = some (.cells #[.int .i64 z, .int .i64 o, .slice A n c] t (0, 0))) : Box3 w2 bx z o A n c := fun wx hx =>
  ⟨(hx.cell (p := ⟨bx, 0, none⟩) (by show bx < _; omega)).trans (cell_of_row _ _ _ _ _ _ h), (hx.cell (p := ⟨bx, 1, none⟩) (by show bx < _; omega)).trans (cell_of_row _ _ _ _ _ _ h), (hx.cell (p := ⟨bx, 2, none⟩) (by show bx < _; omega)).trans (cell_of_row _ _ _ _ _ _ h)⟩
theorem mayBy_at (z o : Int) (A : Option Addr) (n c : Nat) (w : World) (hn : n ≤ maxLen) (r : Bool) (hr : mayB z o n = r) : Calls Try.prog 32 #[.agg #[.int .i64 z, .int .i64 o, .slice A n c]] w fun e w' => e = .returned (.bool r) ∧ Below w.heap.size w w' := by
  subst hr
  exact mayBy_any z o A n c w hn
/-- what Rank and Chain of one guess out of nothing answer: how many -/
theorem rank_one (z o : Int) (A : Option Addr) (n : Nat) (w : World) (hn : n ≤ 3000) (ht : RB w w.heap.size A (List.replicate n 0)) (r : Bool) (hr : mayB z o n = r) :
    Calls Try.prog 22 #[.agg #[.int .i64 z, .int .i64 o, .slice A n n], .slice none 0 0, .int .i64 1] w fun e w' => (∃ B c, e = .returned (.slice B (if r then 1 else 0) c)) ∧ Below w.heap.size w w' := by
  cases r with
  | false => exact (rank_none z o A n n none 0 0 1 w (by unfold maxLen; omega) hr).mono fun e w' ⟨he, hb⟩ => ⟨⟨none, 0, he⟩, hb⟩
  | true =>
    have h := of_decide_eq_true hr
    have hok : (Kd.mk z.toNat o.toNat (List.replicate n 0)).ok := by
      unfold Kd.ok
      simp only [List.length_replicate, List.replicate_eq_nil_iff]
      omega
    exact (rank_at ⟨z.toNat, o.toNat, List.replicate n 0⟩ z o (by simp only; omega) (by simp only; omega) A n n none [] 0 0 1 w ⟨hok, by simp, Nat.le_refl _, by unfold maxLen; omega, ht⟩ ⟨rfl, Nat.le_refl _, by unfold maxLen; omega, RB.nil _ _ _⟩ (by omega) 1 (by decide) _ rfl).mono
      fun e w' ⟨⟨g, he, _, _⟩, hb⟩ => ⟨⟨_, _, he⟩, hb⟩
theorem chain_one (z o : Int) (A : Option Addr) (n : Nat) (w : World) (hn : n ≤ 3000) (ht : RB w w.heap.size A (List.replicate n 0)) (r : Bool) (hr : mayB z o n = r) :
    Calls Try.prog 31 #[.agg #[.int .i64 z, .int .i64 o, .slice A n n], .slice none 0 0, .int .i64 1] w fun e w' => (∃ B c, e = .returned (.slice B (if r then 1 else 0) c)) ∧ Below w.heap.size w w' := by
  cases r with
  | false => exact (chain_none z o A n n none 0 0 1 w (by unfold maxLen; omega) hr).mono fun e w' ⟨he, hb⟩ => ⟨⟨none, 0, he⟩, hb⟩
  | true =>
    have h := of_decide_eq_true hr
    have hok : (Kd.mk z.toNat o.toNat (List.replicate n 0)).ok := by
      unfold Kd.ok
      simp only [List.length_replicate, List.replicate_eq_nil_iff]
      omega
    exact (chain_at ⟨z.toNat, o.toNat, List.replicate n 0⟩ z o (by simp only; omega) (by simp only; omega) A n n none [] 0 0 1 w ⟨hok, by simp, Nat.le_refl _, by unfold maxLen; omega, ht⟩ ⟨rfl, Nat.le_refl _, by unfold maxLen; omega, RB.nil _ _ _⟩ (by omega) 1 (by decide) _ rfl).mono
      fun e w' ⟨⟨B, c, he, _, _, _⟩, hb⟩ => ⟨⟨_, _, he⟩, hb⟩
end Go.Proofs.Ytomiligjcpmnjaa
