/- PLAIN: the longest runs of a list; their bytes; what is read of them. -/
import Derived.Test.YtclgcfofgiejgaaDoorJa
namespace Go.Proofs.YtclgcfofgiejgaaDoor

abbrev Gr := Nat × UInt8
def groups : List UInt8 → List Gr
  | [] => []
  | x :: r => match groups r with
    | [] => [(1, x)]
    | (n, y) :: g => if x = y then (n + 1, y) :: g else (1, x) :: (n, y) :: g
def flat : List Gr → List UInt8
  | [] => []
  | g :: r => List.replicate g.1 g.2 ++ flat r
/-- the bytes of runs behind the value a -/
def encG (a : UInt8) : List Gr → List UInt8
  | [] => []
  | g :: r => putN g.1 ++ (g.2 ^^^ a) :: encG g.2 r
/-- no two neighbours have one value, none is empty -/
def Gd : List Gr → Prop
  | [] => True
  | [g] => 1 ≤ g.1
  | g :: h :: r => 1 ≤ g.1 ∧ g.2 ≠ h.2 ∧ Gd (h :: r)
theorem Gd.head {g : Gr} {r : List Gr} (h : Gd (g :: r)) : 1 ≤ g.1 := by
  cases r with
  | nil => exact h
  | cons _ _ => exact h.1
theorem Gd.tail {g : Gr} {r : List Gr} (h : Gd (g :: r)) : Gd r := by
  cases r with
  | nil => trivial
  | cons _ _ => exact h.2.2
theorem flat_groups (l : List UInt8) : flat (groups l) = l := by
  induction l with
  | nil => rfl
  | cons x r ih =>
    unfold groups
    split
    · rename_i h; rw [h] at ih; rw [← ih]; rfl
    · rename_i n y g h
      rw [h] at ih
      split
      · rename_i e; subst e; rw [← ih]; rfl
      · rw [← ih]; rfl
theorem groups_gd (l : List UInt8) : Gd (groups l) := by
  induction l with
  | nil => trivial
  | cons x r ih =>
    unfold groups
    split
    · exact Nat.le_refl 1
    · rename_i n y g h
      rw [h] at ih
      split
      · cases g with
        | nil => exact Nat.le_add_left _ _
        | cons g2 g3 => exact ⟨Nat.le_add_left _ _, ih.2.1, ih.2.2⟩
      · rename_i e
        exact ⟨Nat.le_refl 1, e, ih⟩
/-- a run of one value ahead of runs that begin otherwise -/
theorem groups_run (k : Nat) (x : UInt8) (l : List UInt8) (h : ∀ g r, groups l = g :: r → g.2 ≠ x) : groups (List.replicate (k + 1) x ++ l) = (k + 1, x) :: groups l := by
  induction k with
  | zero =>
    show groups (x :: l) = _
    rw [groups]
    cases hg : groups l with
    | nil => rfl
    | cons g r =>
      obtain ⟨n, y⟩ := g
      have := h _ _ hg
      exact if_neg (fun e => this e.symm)
  | succ k ih =>
    rw [List.replicate_succ, List.cons_append, groups, ih]
    exact if_pos rfl
theorem groups_flat (gs : List Gr) (h : Gd gs) : groups (flat gs) = gs := by
  induction gs with
  | nil => rfl
  | cons g r ih =>
    obtain ⟨n, x⟩ := g
    have h1 := h.head
    have ih := ih h.tail
    obtain ⟨k, rfl⟩ : ∃ k, n = k + 1 := ⟨n - 1, by have : 1 ≤ n := h1; omega⟩
    show groups (List.replicate (k + 1) x ++ flat r) = _
    rw [groups_run k x (flat r), ih]
    intro g r' e
    rw [ih] at e
    subst e
    intro e
    exact h.2.1 e.symm
theorem groups_head (l : List UInt8) (g : Gr) (r : List Gr) (h : groups l = g :: r) : ∃ t, l = g.2 :: t := by
  have e := flat_groups l
  rw [h] at e
  have h1 := groups_gd l
  rw [h] at h1
  have h2 := h1.head
  obtain ⟨n, x⟩ := g
  obtain ⟨k, rfl⟩ : ∃ k, n = k + 1 := ⟨n - 1, by have : 1 ≤ n := h2; omega⟩
  exact ⟨_, e.symm⟩
/-- the first run, as a loop finds it -/
theorem groups_at (l : List UInt8) (i : Nat) (x : UInt8) (h0 : 0 < i) (hi : i ≤ l.length) (hx : ∀ j (h : j < l.length), j < i → l[j] = x) (he : ∀ h : i < l.length, l[i] ≠ x) : groups l = (i, x) :: groups (l.drop i) := by
  have e : l = List.replicate i x ++ l.drop i := by
    have h1 : l.take i = List.replicate i x := by
      apply List.ext_getElem
      · rw [List.length_take, List.length_replicate]; omega
      · intro j h1 h2
        rw [List.length_take] at h1
        rw [List.getElem_take, List.getElem_replicate]
        exact hx j (by omega) (by omega)
    rw [← h1, List.take_append_drop]
  obtain ⟨k, rfl⟩ : ∃ k, i = k + 1 := ⟨i - 1, by omega⟩
  have h2 := groups_run k x (l.drop (k + 1)) (fun g r hg => by
    obtain ⟨t, ht⟩ := groups_head _ _ _ hg
    have hl : k + 1 < l.length := by
      have := congrArg List.length ht
      rw [List.length_drop, List.length_cons] at this
      omega
    have h3 := List.drop_eq_getElem_cons hl
    rw [h3] at ht
    injection ht with h4 h5
    rw [← h4]
    exact he hl)
  rw [← e] at h2
  exact h2
theorem flat_len (gs : List Gr) (h : Gd gs) : gs.length ≤ (flat gs).length := by
  induction gs with
  | nil => exact Nat.le_refl 0
  | cons g r ih =>
    have := ih h.tail
    have := h.head
    show r.length + 1 ≤ (List.replicate g.1 g.2 ++ flat r).length
    rw [List.length_append, List.length_replicate]
    omega
theorem encG_len (gs : List Gr) (h : ∀ g ∈ gs, g.1 ≤ 4611686018427387903) : ∀ a, (encG a gs).length ≤ 11 * gs.length := by
  induction gs with
  | nil => intro a; exact Nat.le_refl 0
  | cons g r ih =>
    intro a
    have h1 := ih (fun x hx => h x (by simp [hx])) g.2
    have h2 := h g (by simp)
    have h3 := putN_len (g.1 : Int) (by unfold in64; omega)
    rw [encG, List.length_append, List.length_cons, List.length_cons]
    omega
theorem group_le (l : List UInt8) : ∀ g ∈ groups l, g.1 ≤ l.length := by
  have e := flat_groups l
  intro g hg
  have h : ∀ gs : List Gr, g ∈ gs → g.1 ≤ (flat gs).length := by
    intro gs
    induction gs with
    | nil => intro h; cases h
    | cons x r ih =>
      intro h
      show _ ≤ (List.replicate x.1 x.2 ++ flat r).length
      rw [List.length_append, List.length_replicate]
      rcases List.mem_cons.1 h with rfl | h
      · omega
      · have := ih h; omega
  have h1 := h _ hg
  rw [e] at h1
  exact h1
theorem encG_groups_len (l : List UInt8) (hl : l.length ≤ 8192) (a : UInt8) : (encG a (groups l)).length ≤ 90112 := by
  have h1 := encG_len (groups l) (fun g hg => by have := group_le l g hg; omega) a
  have h2 := flat_len _ (groups_gd l)
  rw [flat_groups] at h2
  omega

/-- what is read of runs: their changes -/
def chg (a : UInt8) : List Gr → List It
  | [] => []
  | g :: r => ((g.1 : Int), g.2 ^^^ a, true) :: chg g.2 r
theorem xor_back (a x : UInt8) : a ^^^ (x ^^^ a) = x := by
  rw [UInt8.xor_comm x a, ← UInt8.xor_assoc, UInt8.xor_self, UInt8.zero_xor]
theorem xor_ne (a x : UInt8) (h : x ≠ a) : x ^^^ a ≠ 0 := fun e => h (by
  have := xor_back a x
  rw [e, UInt8.xor_zero] at this
  exact this.symm)
theorem step_put (first : Bool) (n : Nat) (c : UInt8) (r : List UInt8) (h1 : 1 ≤ n) (h2 : n ≤ 4611686018427387903) (hc : first = true ∨ c ≠ 0) :
    stepR first (putN n ++ c :: r) = some ((n : Int), c, (putN n).length) := by
  have hg := getN_put (n : Int) (c :: r) (by unfold in64; omega)
  have hlt : (putN (n : Int)).length < (putN (n : Int) ++ c :: r).length := by simp
  have he : (putN (n : Int) ++ c :: r)[(putN (n : Int)).length] = c := by
    rw [List.getElem_append_right (Nat.le_refl _)]; simp
  rw [stepR_good first hg hlt (by rw [zag_zig]; omega) (by rw [he]; exact hc), zag_zig, he]
theorem drop_put (p : List UInt8) (c : UInt8) (r : List UInt8) : (p ++ c :: r).drop (p.length + 1) = r := by
  rw [List.drop_append]
  simp
theorem items_enc (gs : List Gr) : ∀ first a, Gd gs → (∀ g ∈ gs, g.1 ≤ 4611686018427387903) → (first = true ∨ ∀ g r, gs = g :: r → g.2 ≠ a) → items first (encG a gs) = chg a gs := by
  induction gs with
  | nil => intro first a _ _ _; exact items_nil first
  | cons g r ih =>
    intro first a hg hn hf
    obtain ⟨n, x⟩ := g
    have h1 : 1 ≤ n := hg.head
    have h2 : n ≤ 4611686018427387903 := hn (n, x) (by simp)
    have hs := step_put first n (x ^^^ a) (encG x r) h1 h2 (by
      rcases hf with h | h
      · exact .inl h
      · exact .inr (xor_ne a x (h _ _ rfl)))
    show items first (putN n ++ (x ^^^ a) :: encG x r) = _
    rw [items_ok hs, drop_put, ih false x hg.tail (fun g hg => hn g (by simp [hg])) (.inr (fun g' r' e => by subst e; intro e; exact hg.2.1 e.symm))]
    rfl
theorem chg_ok (gs : List Gr) : ∀ a t most, (∀ x, cnt most t (chg a gs) = x → x = .full ∨ x = .ok (t + ((flat gs).length : Int))) := by
  induction gs with
  | nil => intro a t most x h; rw [chg, cnt_nil] at h; subst h; right; simp [flat]
  | cons g r ih =>
    intro a t most x h
    rw [chg] at h
    by_cases h1 : most - t < (g.1 : Int)
    · rw [cnt_full _ _ _ _ rfl h1] at h; exact .inl h.symm
    · rw [cnt_on _ _ _ _ rfl h1] at h
      rcases ih _ _ _ _ h with h | h
      · exact .inl h
      · right; rw [h]; show Cnt.ok _ = .ok _; congr 1
        show _ = t + ((List.replicate g.1 g.2 ++ flat r).length : Int)
        rw [List.length_append, List.length_replicate]
        show t + (g.1 : Int) + _ = _
        omega
theorem cnt_chg (gs : List Gr) : ∀ a t most, t ≤ most → cnt most t (chg a gs) = if most - t < ((flat gs).length : Int) then .full else .ok (t + ((flat gs).length : Int)) := by
  induction gs with
  | nil => intro a t most h; rw [chg, cnt_nil, if_neg (by simp [flat]; omega)]; simp [flat]
  | cons g r ih =>
    intro a t most h
    have hl : (flat (g :: r)).length = g.1 + (flat r).length := by
      show (List.replicate g.1 g.2 ++ flat r).length = _
      rw [List.length_append, List.length_replicate]
    rw [chg, hl]
    by_cases h1 : most - t < (g.1 : Int)
    · rw [cnt_full _ _ _ _ rfl h1, if_pos (by omega)]
    · rw [cnt_on _ _ _ _ rfl h1, ih _ _ _ (by show t + (g.1 : Int) ≤ _; omega)]
      show (if most - (t + (g.1 : Int)) < _ then _ else Cnt.ok (t + (g.1 : Int) + _)) = _
      by_cases h2 : most - t < ((g.1 + (flat r).length : Nat) : Int)
      · rw [if_pos (by omega), if_pos h2]
      · rw [if_neg (by omega), if_neg h2]; congr 1; omega
theorem expand_chg (gs : List Gr) : ∀ a, expand a (chg a gs) = flat gs := by
  induction gs with
  | nil => intro a; rfl
  | cons g r ih =>
    intro a
    rw [chg, expand]
    show List.replicate (g.1 : Int).toNat (a ^^^ (g.2 ^^^ a)) ++ expand (a ^^^ (g.2 ^^^ a)) (chg g.2 r) = List.replicate g.1 g.2 ++ flat r
    rw [xor_back, ih, Int.toNat_natCast]
end Go.Proofs.YtclgcfofgiejgaaDoor
