/- PLAIN: presses in runs: the runs of a list, their bytes; bytes read as runs, one behind the other. -/
import Derived.Test.YtclgcfofgiejgaaDoorNa
namespace Go.Proofs.YtclgcfofgiejgaaDoor

/-- what is read: a length, a change, and whether it was well formed -/
abbrev It := Int × UInt8 × Bool

/-- the run that begins in l: its length, its change, what stands behind -/
def stepR (first : Bool) (l : List UInt8) : Option (Int × UInt8 × Nat) :=
  match getN l with
  | .ok u k => if h : k < l.length then (if zag u < 1 ∨ (first = false ∧ l[k] = 0) then none else some (zag u, l[k], k)) else none
  | _ => none
theorem stepR_lt {first : Bool} {l : List UInt8} {n : Int} {c : UInt8} {k : Nat} (h : stepR first l = some (n, c, k)) : k < l.length ∧ 0 < k ∧ 1 ≤ n ∧ in64 n := by
  unfold stepR at h
  split at h
  · rename_i u k' hg
    obtain ⟨h1, _, _, h2, h3⟩ := getN_got l u k' hg
    split at h
    · split at h
      · cases h
      · simp only [Option.some.injEq, Prod.mk.injEq] at h
        obtain ⟨rfl, _, rfl⟩ := h
        exact ⟨by assumption, h3, by omega, zag_in _ h1⟩
    · cases h
  · cases h

theorem stepR_small {l : List UInt8} {u k : Nat} (f : Bool) (hg : getN l = .ok u k) (h : zag u < 1) : stepR f l = none := by
  unfold stepR; rw [hg]; simp only; split
  · rw [if_pos (.inl h)]
  · rfl
theorem stepR_stop {l : List UInt8} {u k : Nat} (f : Bool) (hg : getN l = .ok u k) (h : l.length ≤ k) : stepR f l = none := by
  unfold stepR; rw [hg]; simp only; rw [dif_neg (by omega)]
theorem stepR_zero {l : List UInt8} {u k : Nat} (hg : getN l = .ok u k) (hk : k < l.length) (h : l[k] = 0) : stepR false l = none := by
  unfold stepR; rw [hg]; simp only; rw [dif_pos hk, if_pos (Or.inr ⟨by trivial, h⟩)]
theorem stepR_good {l : List UInt8} {u k : Nat} (f : Bool) (hg : getN l = .ok u k) (hk : k < l.length) (h1 : 1 ≤ zag u) (h2 : f = true ∨ l[k] ≠ 0) : stepR f l = some (zag u, l[k], k) := by
  unfold stepR; rw [hg]; simp only; rw [dif_pos hk, if_neg]
  rintro (h | ⟨h, h'⟩)
  · omega
  · rcases h2 with h2 | h2
    · rw [h] at h2; cases h2
    · exact h2 h'

/-- all that is read of l, in its order; a bad one is the last -/
def items (first : Bool) (l : List UInt8) : List It :=
  if l.length = 0 then [] else
  match h : stepR first l with
  | none => [(0, 0, false)]
  | some (n, c, k) => (n, c, true) :: items false (l.drop (k + 1))
termination_by l.length
decreasing_by
  have := (stepR_lt h).1
  rw [List.length_drop]; omega
theorem items_nil (first : Bool) : items first [] = [] := by rw [items]; simp
theorem items_bad {first : Bool} {l : List UInt8} (h0 : 0 < l.length) (h : stepR first l = none) : items first l = [(0, 0, false)] := by
  rw [items, if_neg (by omega)]
  split
  · rfl
  · rename_i h2; rw [h] at h2; cases h2
theorem items_ok {first : Bool} {l : List UInt8} {n : Int} {c : UInt8} {k : Nat} (h : stepR first l = some (n, c, k)) : items first l = (n, c, true) :: items false (l.drop (k + 1)) := by
  have h0 := (stepR_lt h).1
  rw [items, if_neg (by omega)]
  split
  · rename_i h2; rw [h] at h2; cases h2
  · rename_i h2
    rw [h] at h2
    simp only [Option.some.injEq, Prod.mk.injEq] at h2
    obtain ⟨rfl, rfl, rfl⟩ := h2
    rfl
theorem items_len (l : List UInt8) : ∀ first, (items first l).length ≤ l.length := by
  induction hn : l.length using Nat.strongRecOn generalizing l with
  | _ m ih =>
    intro first
    rcases Nat.eq_zero_or_pos l.length with h0 | h0
    · rw [List.eq_nil_of_length_eq_zero h0, items_nil]; simp
    cases hs : stepR first l with
    | none => rw [items_bad h0 hs]; simp; omega
    | some x =>
      obtain ⟨n, c, k⟩ := x
      rw [items_ok hs, List.length_cons]
      have h1 := stepR_lt hs
      have := ih (l.drop (k + 1)).length (by rw [List.length_drop]; omega) (l.drop (k + 1)) rfl false
      rw [List.length_drop] at this
      omega
/-- lengths are numbers of 64 bits -/
theorem items_in (l : List UInt8) : ∀ first, ∀ x ∈ items first l, 0 ≤ x.1 ∧ x.1 ≤ 9223372036854775807 := by
  induction hn : l.length using Nat.strongRecOn generalizing l with
  | _ m ih =>
    intro first x hx
    rcases Nat.eq_zero_or_pos l.length with h0 | h0
    · rw [List.eq_nil_of_length_eq_zero h0, items_nil] at hx; cases hx
    cases hs : stepR first l with
    | none =>
      rw [items_bad h0 hs] at hx
      simp only [List.mem_singleton] at hx
      subst hx; simp
    | some y =>
      obtain ⟨n, c, k⟩ := y
      rw [items_ok hs, List.mem_cons] at hx
      have h1 := stepR_lt hs
      rcases hx with rfl | hx
      · obtain ⟨_, _, h2, h3, h4⟩ := h1
        exact ⟨by show (0 : Int) ≤ n; omega, h4⟩
      · exact ih (l.drop (k + 1)).length (by rw [List.length_drop]; omega) (l.drop (k + 1)) rfl false x hx

inductive Cnt where
  | form
  | full
  | ok (t : Int)
/-- how many presses, t of them counted, most at the most -/
def cnt (most t : Int) : List It → Cnt
  | [] => .ok t
  | x :: r => if x.2.2 = false then .form else if most - t < x.1 then .full else cnt most (t + x.1) r
theorem cnt_nil (most t : Int) : cnt most t [] = .ok t := by rw [cnt]
theorem cnt_form (most t : Int) (x : It) (r : List It) (h : x.2.2 = false) : cnt most t (x :: r) = .form := by rw [cnt, if_pos h]
theorem cnt_full (most t : Int) (x : It) (r : List It) (h : x.2.2 = true) (h1 : most - t < x.1) : cnt most t (x :: r) = .full := by rw [cnt, if_neg (by rw [h]; simp), if_pos h1]
theorem cnt_on (most t : Int) (x : It) (r : List It) (h : x.2.2 = true) (h1 : ¬ most - t < x.1) : cnt most t (x :: r) = cnt most (t + x.1) r := by rw [cnt, if_neg (by rw [h]; simp), if_neg h1]
def Cnt.on (c : Cnt) (f : Int → Cnt) : Cnt := match c with | .ok t => f t | .form => .form | .full => .full
theorem cnt_app (most : Int) (a b : List It) : ∀ t, cnt most t (a ++ b) = (cnt most t a).on fun u => cnt most u b := by
  induction a with
  | nil => intro t; rw [cnt_nil]; rfl
  | cons x r ih =>
    intro t
    by_cases h : x.2.2 = true
    · by_cases h1 : most - t < x.1
      · rw [List.cons_append, cnt_full _ _ _ _ h h1, cnt_full _ _ _ _ h h1]; rfl
      · rw [List.cons_append, cnt_on _ _ _ _ h h1, cnt_on _ _ _ _ h h1]; exact ih _
    · have h : x.2.2 = false := by simpa using h
      rw [List.cons_append, cnt_form _ _ _ _ h, cnt_form _ _ _ _ h]; rfl
theorem cnt_le (most : Int) (l : List It) : ∀ t u, t ≤ most → (∀ x ∈ l, 0 ≤ x.1) → cnt most t l = .ok u → t ≤ u ∧ u ≤ most := by
  induction l with
  | nil => intro t u h _ e; rw [cnt_nil] at e; injection e with e; omega
  | cons x r ih =>
    intro t u h hp e
    have h0 := hp x (by simp)
    by_cases hk : x.2.2 = true
    · by_cases h1 : most - t < x.1
      · rw [cnt_full _ _ _ _ hk h1] at e; cases e
      · rw [cnt_on _ _ _ _ hk h1] at e
        have := ih _ _ (by omega) (fun y hy => hp y (by simp [hy])) e
        omega
    · rw [cnt_form _ _ _ _ (by simpa using hk)] at e; cases e
theorem cnt_each (most : Int) (l : List It) : ∀ t u, (∀ x ∈ l, 0 ≤ x.1) → cnt most t l = .ok u → ∀ x ∈ l, x.1 ≤ u - t ∧ x.2.2 = true := by
  induction l with
  | nil => intro t u _ _ x hx; cases hx
  | cons x r ih =>
    intro t u hp e y hy
    have h0 := hp x (by simp)
    by_cases hk : x.2.2 = true
    · by_cases h1 : most - t < x.1
      · rw [cnt_full _ _ _ _ hk h1] at e; cases e
      · rw [cnt_on _ _ _ _ hk h1] at e
        have hle := cnt_le most r _ _ (by omega) (fun z hz => hp z (by simp [hz])) e
        rcases List.mem_cons.1 hy with rfl | hy
        · exact ⟨by omega, hk⟩
        · have := ih _ _ (fun z hz => hp z (by simp [hz])) e y hy
          exact ⟨by omega, this.2⟩
    · rw [cnt_form _ _ _ _ (by simpa using hk)] at e; cases e

/-- the presses of what was read; the value ahead: a -/
def expand (a : UInt8) : List It → List UInt8
  | [] => []
  | x :: r => List.replicate x.1.toNat (a ^^^ x.2.1) ++ expand (a ^^^ x.2.1) r
/-- the value behind what was read -/
def lastV (a : UInt8) : List It → UInt8
  | [] => a
  | x :: r => lastV (a ^^^ x.2.1) r
theorem expand_app (l r : List It) : ∀ a, expand a (l ++ r) = expand a l ++ expand (lastV a l) r := by
  induction l with
  | nil => intro a; rfl
  | cons x t ih => intro a; rw [List.cons_append, expand, expand, lastV, ih, List.append_assoc]
theorem lastV_app (l r : List It) : ∀ a, lastV a (l ++ r) = lastV (lastV a l) r := by
  induction l with
  | nil => intro a; rfl
  | cons x t ih => intro a; rw [List.cons_append, lastV, lastV, ih]
theorem expand_one (a : UInt8) (x : It) : expand a [x] = List.replicate x.1.toNat (a ^^^ x.2.1) := by rw [expand, expand, List.append_nil]
theorem expand_len (most : Int) (l : List It) : ∀ t u a, (∀ x ∈ l, 0 ≤ x.1) → cnt most t l = .ok u → (expand a l).length = (u - t).toNat := by
  induction l with
  | nil => intro t u a _ e; rw [cnt_nil] at e; injection e with e; subst e; simp [expand]
  | cons x r ih =>
    intro t u a hp e
    have h0 := hp x (by simp)
    by_cases hk : x.2.2 = true
    · by_cases h1 : most - t < x.1
      · rw [cnt_full _ _ _ _ hk h1] at e; cases e
      · rw [cnt_on _ _ _ _ hk h1] at e
        have hle := cnt_le most r _ _ (by omega) (fun z hz => hp z (by simp [hz])) e
        rw [expand, List.length_append, List.length_replicate, ih _ _ _ (fun z hz => hp z (by simp [hz])) e]
        omega
    · rw [cnt_form _ _ _ _ (by simpa using hk)] at e; cases e

/-- what Decode answers, most held at 0 from below -/
def decP (l : List UInt8) (m : Int) : Cnt := cnt m 0 (items true l)
end Go.Proofs.YtclgcfofgiejgaaDoor
