/- PLAIN: what all will press, frame by frame. -/
import Derived.Test.YtomiligjcpmnjaaFb
namespace Go.Proofs.Ytomiligjcpmnjaa
set_option maxRecDepth 100000
set_option linter.unusedVariables false
set_option linter.unusedSimpArgs false

/-- the r-th of the order -/
def rkA (b : Kd) (r : Nat) (l : List UInt8) : UInt8 := (rk (sc b l)).getD (r % 256) 0
/-- a line, and the odd press behind it -/
def begP (b : Kd) (r : Nat) (o : Bool) (l : List UInt8) : List UInt8 := if o then l ++ [rkA b r l] else l
/-- a line guessed on up to frame t - 1 -/
def fullP (b : Kd) (r t : Nat) (o : Bool) (l : List UInt8) : List UInt8 := begP b r o l ++ chN b (t - (begP b r o l).length) (begP b r o l)
theorem begP_f (b : Kd) (r : Nat) (l : List UInt8) : begP b r false l = l := rfl
theorem begP_t (b : Kd) (r : Nat) (l : List UInt8) : begP b r true l = l ++ [rkA b r l] := rfl
theorem begP_len (b : Kd) (r : Nat) (o : Bool) (l : List UInt8) : (begP b r o l).length = l.length + (if o then 1 else 0) := by cases o <;> simp [begP]
theorem fullP_len (b : Kd) (r t : Nat) (o : Bool) (l : List UInt8) : (fullP b r t o l).length = max t (begP b r o l).length := by
  unfold fullP; rw [List.length_append, chN_len]; omega
theorem rkA_zero (b : Kd) (l : List UInt8) : rkA b 0 l = nxt b l := by
  unfold rkA nxt
  obtain ⟨t, ht⟩ := rk_cons (sc b l)
  rw [ht, Nat.zero_mod, List.getD_cons_zero]
/-- the first of all is what the chain begins with -/
theorem fullP_zero (b : Kd) (r t : Nat) (hr : r % 256 = 0) (l : List UInt8) (h : l.length < t) : fullP b r t true l = fullP b r t false l := by
  have e0 : rkA b r l = nxt b l := by rw [← rkA_zero]; unfold rkA; rw [hr]
  unfold fullP
  rw [begP_t, begP_f, e0, List.length_append, List.length_singleton]
  obtain ⟨k, hk⟩ : ∃ k, t - l.length = k + 1 := ⟨t - l.length - 1, by omega⟩
  rw [hk, show t - (l.length + 1) = k by omega, chN]
  simp
/-- what is known stays -/
theorem fullP_known (b : Kd) (r t : Nat) (o : Bool) (l : List UInt8) (j : Nat) (h : j < l.length) : (fullP b r t o l).getD j 0 = l.getD j 0 := by
  unfold fullP
  cases o with
  | false => rw [begP_f]; simp only [List.getD, List.getElem?_append_left h]
  | true => rw [begP_t, List.append_assoc]; simp only [List.getD, List.getElem?_append_left h]
/-- a guess for fewer frames is the beginning of one for more -/
theorem fullP_less (b : Kd) (r t t2 : Nat) (o : Bool) (l : List UInt8) (h : t ≤ t2) (j : Nat) (hj : j < t) : (fullP b r t o l).getD j 0 = (fullP b r t2 o l).getD j 0 := by
  unfold fullP
  generalize begP b r o l = x
  obtain ⟨d, hd⟩ : ∃ d, t2 - x.length = (t - x.length) + d := ⟨(t2 - x.length) - (t - x.length), by omega⟩
  rw [hd, chN_add, ← List.append_assoc]
  simp only [List.getD]
  rw [List.getElem?_append_left (l₂ := chN b d _) (by rw [List.length_append, chN_len]; omega)]
/-- the player whose frame f is not known, the least -/
def First (ls : List (List UInt8)) (f p0 : Nat) : Prop := p0 < ls.length ∧ (ls.getD p0 []).length = f ∧ ∀ p, p < p0 → (ls.getD p []).length ≠ f
/-- what player p will press in frame f + i -/
def celP (b : Kd) (r t : Nat) (ls : List (List UInt8)) (f p0 i p : Nat) : UInt8 := (fullP b r t (decide (p = p0)) (ls.getD p [])).getD (f + i) 0
def rowP (b : Kd) (r t : Nat) (ls : List (List UInt8)) (f p0 i : Nat) : List UInt8 := (List.range ls.length).map (celP b r t ls f p0 i)
def rowsP (b : Kd) (r t : Nat) (ls : List (List UInt8)) (f p0 : Nat) : List (List UInt8) := (List.range (t - f)).map (rowP b r t ls f p0)
theorem rowP_len (b : Kd) (r t : Nat) (ls : List (List UInt8)) (f p0 i : Nat) : (rowP b r t ls f p0 i).length = ls.length := by unfold rowP; simp
theorem rowsP_len (b : Kd) (r t : Nat) (ls : List (List UInt8)) (f p0 : Nat) : (rowsP b r t ls f p0).length = t - f := by unfold rowsP; simp
theorem rowsP_get (b : Kd) (r t : Nat) (ls : List (List UInt8)) (f p0 i : Nat) (h : i < t - f) : (rowsP b r t ls f p0)[i]? = some (rowP b r t ls f p0 i) := by unfold rowsP; simp [h]
theorem rowP_get (b : Kd) (r t : Nat) (ls : List (List UInt8)) (f p0 i p : Nat) (h : p < ls.length) : (rowP b r t ls f p0 i)[p]? = some (celP b r t ls f p0 i p) := by unfold rowP; simp [h]
theorem rowP_less (b : Kd) (r t t2 : Nat) (ls : List (List UInt8)) (f p0 i : Nat) (h : t ≤ t2) (hi : i < t - f) : rowP b r t ls f p0 i = rowP b r t2 ls f p0 i := by
  unfold rowP
  refine List.map_congr_left fun p _ => ?_
  exact fullP_less b r t t2 _ _ h (f + i) (by omega)
/-- each of rank nought is the chain -/
theorem celP_zero (b : Kd) (r t : Nat) (hr : r % 256 = 0) (ls : List (List UInt8)) (f p0 i p : Nat) (h : First ls f p0) (hf : f < t) : celP b r t ls f p0 i p = (fullP b r t false (ls.getD p [])).getD (f + i) 0 := by
  unfold celP
  by_cases e : p = p0
  · subst e
    rw [decide_eq_true rfl, fullP_zero b r t hr _ (by rw [h.2.1]; exact hf)]
  · rw [decide_eq_false e]
/-- the least of the lengths -/
def frP (ls : List (List UInt8)) : Nat := ls.foldl (fun m l => min m l.length) 1000
theorem frP_snoc (ls : List (List UInt8)) (l : List UInt8) : frP (ls ++ [l]) = min (frP ls) l.length := by unfold frP; rw [List.foldl_append]; rfl
theorem foldl_at (ls : List (List UInt8)) : ∀ m, ls.foldl (fun m l => min m l.length) m < m → ∃ p, p < ls.length ∧ (ls.getD p []).length = ls.foldl (fun m l => min m l.length) m := by
  induction ls with
  | nil => intro m h; simp at h
  | cons x t ih =>
    intro m h
    rw [List.foldl_cons] at h ⊢
    by_cases c : t.foldl (fun m l => min m l.length) (min m x.length) < min m x.length
    · obtain ⟨p, hp, e⟩ := ih _ c
      exact ⟨p + 1, by simpa using hp, by simpa using e⟩
    · have hle : ∀ (u : List (List UInt8)) m, u.foldl (fun m l => min m l.length) m ≤ m := by
        intro u
        induction u with
        | nil => intro m; simp
        | cons y v ih2 => intro m; rw [List.foldl_cons]; have := ih2 (min m y.length); omega
      have h2 := hle t (min m x.length)
      exact ⟨0, by simp, by simp; omega⟩
theorem first_of {ls : List (List UInt8)} {f : Nat} (n : Nat) : (∃ p, p < n ∧ p < ls.length ∧ (ls.getD p []).length = f) → ∃ p0, First ls f p0 := by
  induction n with
  | zero => rintro ⟨p, h, _⟩; omega
  | succ n ih =>
    rintro ⟨p, h1, h2, h3⟩
    by_cases c : ∃ q, q < n ∧ q < ls.length ∧ (ls.getD q []).length = f
    · exact ih c
    · refine ⟨p, h2, h3, fun q hq e => c ⟨q, by omega, by omega, e⟩⟩
theorem first_ex (ls : List (List UInt8)) (h : frP ls < 1000) : ∃ p0, First ls (frP ls) p0 := by
  obtain ⟨p, hp, e⟩ := foldl_at ls 1000 h
  exact first_of (p + 1) ⟨p, by omega, hp, e⟩
/-- one alone -/
theorem First.uniq {ls : List (List UInt8)} {f p q : Nat} (h : First ls f p) (h2 : First ls f q) : p = q := by
  rcases Nat.lt_trichotomy p q with e | e | e
  · exact absurd h.2.1 (h2.2.2 p e)
  · exact e
  · exact absurd h2.2.1 (h.2.2 q e)
/-- what is known is guessed so -/
theorem celP_known (b : Kd) (r t : Nat) (ls : List (List UInt8)) (f p0 i p : Nat) (h : f + i < (ls.getD p []).length) : celP b r t ls f p0 i p = (ls.getD p []).getD (f + i) 0 := fullP_known _ _ _ _ _ _ h
end Go.Proofs.Ytomiligjcpmnjaa
