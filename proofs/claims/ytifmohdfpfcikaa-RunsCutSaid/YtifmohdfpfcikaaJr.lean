/- PLAIN: runs of at most 63: two bytes each; cut off between two, and within one; the ends of runs. -/
import Derived.Test.YtifmohdfpfcikaaJj
namespace Go.Proofs.Ytifmohdfpfcikaa

def Sm (gs : List Gr) : Prop := ∀ g ∈ gs, g.1 ≤ 60
theorem Sm.tail {g : Gr} {r : List Gr} (h : Sm (g :: r)) : Sm r := fun x hx => h x (by simp [hx])
theorem encG_two (a : UInt8) (g : Gr) (r : List Gr) (h : g.1 ≤ 60) : encG a (g :: r) = UInt8.ofNat (2 * g.1) :: (g.2 ^^^ a) :: encG g.2 r := by
  rw [encG, putN_small g.1 (by omega)]; rfl
theorem encG_len2 (gs : List Gr) (h : Sm gs) : ∀ a, (encG a gs).length = 2 * gs.length := by
  induction gs with
  | nil => intro a; rfl
  | cons g r ih =>
    intro a
    rw [encG_two a g r (h g (by simp)), List.length_cons, List.length_cons, ih h.tail, List.length_cons]
    omega
theorem encG_take (gs : List Gr) (h : Sm gs) : ∀ a j, (encG a gs).take (2 * j) = encG a (gs.take j) := by
  induction gs with
  | nil => intro a j; rw [List.take_nil]; show ([] : List UInt8).take _ = []; rw [List.take_nil]
  | cons g r ih =>
    intro a j
    cases j with
    | zero => rfl
    | succ j =>
      rw [encG_two a g r (h g (by simp)), List.take_succ_cons, show 2 * (j + 1) = 2 * j + 1 + 1 by omega, List.take_succ_cons, List.take_succ_cons, ih h.tail, encG_two a g (r.take j) (h g (by simp))]
theorem encG_take1 (gs : List Gr) (h : Sm gs) : ∀ a j, j < gs.length → ∃ n, n ≤ 60 ∧ (encG a gs).take (2 * j + 1) = encG a (gs.take j) ++ [UInt8.ofNat (2 * n)] := by
  induction gs with
  | nil => intro a j hj; cases hj
  | cons g r ih =>
    intro a j hj
    rw [encG_two a g r (h g (by simp))]
    cases j with
    | zero => exact ⟨g.1, h g (by simp), rfl⟩
    | succ j =>
      obtain ⟨n, h1, h2⟩ := ih h.tail g.2 j (by rw [List.length_cons] at hj; omega)
      refine ⟨n, h1, ?_⟩
      rw [show 2 * (j + 1) + 1 = 2 * j + 1 + 1 + 1 by omega, List.take_succ_cons, List.take_succ_cons, h2, List.take_succ_cons, encG_two a g (r.take j) (h g (by simp))]
      rfl
theorem items_half (gs : List Gr) (n : Nat) (h60 : n ≤ 60) : ∀ first a, Gd gs → Sm gs → (first = true ∨ ∀ g r, gs = g :: r → g.2 ≠ a) → items first (encG a gs ++ [UInt8.ofNat (2 * n)]) = chg a gs ++ [(0, 0, false)] := by
  induction gs with
  | nil =>
    intro first a _ _ _
    have hc := ofNat_nat (2 * n) (by omega)
    have hg : getN [UInt8.ofNat (2 * n)] = .ok (0 + (2 * n) * 128 ^ 0) (0 + 1) := by
      have h1 := gLoop_end 0 0 (UInt8.ofNat (2 * n)) [] (by omega) (by rw [hc]; omega)
      rw [hc] at h1
      exact h1
    show items first [UInt8.ofNat (2 * n)] = [(0, 0, false)]
    exact items_bad (by simp) (stepR_stop first hg (by simp))
  | cons g r ih =>
    intro first a hg hs hf
    obtain ⟨m, x⟩ := g
    have h1 : 1 ≤ m := hg.head
    have h2 : m ≤ 60 := hs (m, x) (by simp)
    have hst := step_put first m (x ^^^ a) (encG x r ++ [UInt8.ofNat (2 * n)]) h1 (by omega) (by
      rcases hf with h | h
      · exact .inl h
      · exact .inr (xor_ne a x (h _ _ rfl)))
    have e : encG a ((m, x) :: r) ++ [UInt8.ofNat (2 * n)] = putN (m : Int) ++ (x ^^^ a) :: (encG x r ++ [UInt8.ofNat (2 * n)]) := by
      show (putN (m : Int) ++ (x ^^^ a) :: encG x r) ++ [UInt8.ofNat (2 * n)] = _
      rw [List.append_assoc]; rfl
    rw [e, items_ok hst, drop_put, ih false x hg.tail hs.tail (.inr (fun g' r' e => by subst e; intro e; exact hg.2.1 e.symm))]
    rfl
theorem gd_take (gs : List Gr) : ∀ j, Gd gs → Gd (gs.take j) := by
  induction gs with
  | nil => intro j _; rw [List.take_nil]; trivial
  | cons g r ih =>
    intro j h
    cases j with
    | zero => trivial
    | succ j =>
      rw [List.take_succ_cons]
      have h2 := ih j h.tail
      cases r with
      | nil => rw [List.take_nil]; exact h
      | cons g2 r2 =>
        cases j with
        | zero => exact h.1
        | succ j => rw [List.take_succ_cons] at h2 ⊢; exact ⟨h.1, h.2.1, h2⟩
theorem flat_app (a b : List Gr) : flat (a ++ b) = flat a ++ flat b := by
  induction a with
  | nil => rfl
  | cons g r ih => rw [List.cons_append, flat, flat, ih, List.append_assoc]
theorem flat_60 (gs : List Gr) (h : Sm gs) : (flat gs).length ≤ 60 * gs.length := by
  induction gs with
  | nil => exact Nat.le_refl 0
  | cons g r ih =>
    have := ih h.tail
    have := h g (by simp)
    show (List.replicate g.1 g.2 ++ flat r).length ≤ _
    rw [List.length_append, List.length_replicate, List.length_cons]
    omega
/-- one run more -/
theorem gd_snoc (gs : List Gr) (g : Gr) (h : Gd gs) (h1 : 1 ≤ g.1) (h2 : ∀ p q, gs = p ++ [q] → q.2 ≠ g.2) : Gd (gs ++ [g]) := by
  induction gs with
  | nil => exact h1
  | cons x r ih =>
    cases r with
    | nil => exact ⟨h, h2 [] x rfl, h1⟩
    | cons y s =>
      refine ⟨h.1, h.2.1, ih h.tail (fun p q e => h2 (x :: p) q (by rw [e]; rfl))⟩
/-- the ends of the runs -/
def endsOf (gs : List Gr) (es : List Int) : Prop := es.length = gs.length ∧ ∀ j (h : j < es.length), es[j] = ((flat (gs.take (j + 1))).length : Int)
theorem endsOf_snoc {gs : List Gr} {es : List Int} (h : endsOf gs es) (g : Gr) : endsOf (gs ++ [g]) (es ++ [((flat (gs ++ [g])).length : Int)]) := by
  obtain ⟨h1, h2⟩ := h
  refine ⟨by simp [h1], fun j hj => ?_⟩
  rw [List.length_append, List.length_singleton] at hj
  by_cases h3 : j < es.length
  · rw [List.getElem_append_left h3, h2 j h3, List.take_append_of_le_length (by omega)]
  · have e : j = es.length := by omega
    subst e
    rw [List.getElem_append_right (Nat.le_refl _), List.take_of_length_le (by rw [List.length_append, List.length_singleton]; omega)]
    simp
/-- a cut between two runs -/
theorem cut_even (gs : List Gr) (hg : Gd gs) (hs : Sm gs) (hl : gs.length ≤ 8) (j : Nat) (hj : j ≤ gs.length) :
    cnt 1000 0 (items true ((encG 0 gs).take (2 * j))) = .ok ((flat (gs.take j)).length : Int) ∧ expand 0 (items true ((encG 0 gs).take (2 * j))) = (flat gs).take (flat (gs.take j)).length := by
  have hs2 : Sm (gs.take j) := fun x hx => hs x (List.mem_of_mem_take hx)
  have h60 := flat_60 _ hs2
  have hl2 : (gs.take j).length ≤ 8 := by rw [List.length_take]; omega
  rw [encG_take gs hs 0 j, items_enc (gs.take j) true 0 (gd_take gs j hg) (fun g h => by have := hs2 g h; omega) (.inl rfl)]
  refine ⟨?_, ?_⟩
  · rw [cnt_chg _ _ _ _ (by omega), if_neg (by omega)]; simp
  · rw [expand_chg]
    have e := flat_app (gs.take j) (gs.drop j)
    rw [List.take_append_drop] at e
    rw [e, List.take_left]
/-- a cut within a run -/
theorem cut_odd (gs : List Gr) (hg : Gd gs) (hs : Sm gs) (hl : gs.length ≤ 8) (j : Nat) (hj : j < gs.length) : cnt 1000 0 (items true ((encG 0 gs).take (2 * j + 1))) = .form := by
  have hs2 : Sm (gs.take j) := fun x hx => hs x (List.mem_of_mem_take hx)
  have h60 := flat_60 _ hs2
  have hl2 : (gs.take j).length ≤ 8 := by rw [List.length_take]; omega
  obtain ⟨n, h1, h2⟩ := encG_take1 gs hs 0 j hj
  rw [h2, items_half (gs.take j) n h1 true 0 (gd_take gs j hg) hs2 (.inl rfl), cnt_app, cnt_chg _ _ _ _ (by omega), if_neg (by omega)]
  exact cnt_form _ _ _ _ rfl
end Go.Proofs.Ytifmohdfpfcikaa
