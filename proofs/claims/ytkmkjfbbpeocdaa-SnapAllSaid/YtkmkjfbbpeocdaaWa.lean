/- PICTURES, plain: pictures that share pages, how many have a page, what they show. -/
import Derived.Test.YtkmkjfbbpeocdaaBd
namespace Go.Proofs.Ytkmkjfbbpeocdaa
set_option maxRecDepth 100000
open Go.RowKit
set_option linter.unusedVariables false
set_option linter.unusedSimpArgs false

/-- a picture: its block, how often it is held, its four pages -/
structure Pc where
  b : Nat
  r : Int
  on : Nat → Int
def hasN (f : Nat → Int) (p : Int) : Nat → Int
  | 0 => 0
  | i + 1 => hasN f p i + (if f i = p then 1 else 0)
def pcN (c : Pc) (p : Int) : Int := if 0 < c.r then hasN c.on p 4 else 0
/-- how often live pictures have a page -/
def cnt : List Pc → Int → Int
  | [], _ => 0
  | c :: t, p => pcN c p + cnt t p
theorem hasN_nn (f : Nat → Int) (p : Int) : ∀ i, 0 ≤ hasN f p i ∧ hasN f p i ≤ i
  | 0 => by simp [hasN]
  | i + 1 => by
    have := hasN_nn f p i
    unfold hasN; split <;> omega
theorem hasN_pos (f : Nat → Int) (p : Int) : ∀ i, 0 < hasN f p i ↔ ∃ j, j < i ∧ f j = p
  | 0 => by simp [hasN]
  | i + 1 => by
    have h := hasN_pos f p i
    have n := hasN_nn f p i
    unfold hasN
    by_cases e : f i = p
    · rw [if_pos e]
      exact ⟨fun _ => ⟨i, by omega, e⟩, fun _ => by omega⟩
    · rw [if_neg e, Int.add_zero, h]
      exact ⟨fun ⟨j, a, b⟩ => ⟨j, by omega, b⟩, fun ⟨j, a, b⟩ => ⟨j, by have : j ≠ i := fun x => e (x ▸ b); omega, b⟩⟩
theorem hasN_zero (f : Nat → Int) (p : Int) (i : Nat) (h : ∀ j, j < i → f j ≠ p) : hasN f p i = 0 := by
  have n := hasN_nn f p i
  have : ¬ 0 < hasN f p i := fun x => by obtain ⟨j, a, b⟩ := (hasN_pos f p i).1 x; exact h j a b
  omega
theorem hasN_one (f : Nat → Int) : ∀ i, (∀ a b, a < i → b < i → f a = f b → a = b) → ∀ j, j < i → hasN f (f j) i = 1
  | 0, _, j, hj => by omega
  | i + 1, hd, j, hj => by
    unfold hasN
    by_cases e : j = i
    · subst e
      rw [if_pos rfl, hasN_zero f _ j (fun a ha x => by have := hd a j (by omega) (by omega) x; omega)]; rfl
    · rw [if_neg (fun x => e (hd i j (by omega) (by omega) x).symm), hasN_one f i (fun a b ha hb => hd a b (by omega) (by omega)) j (by omega)]; rfl
theorem pcN_nn (c : Pc) (p : Int) : 0 ≤ pcN c p ∧ pcN c p ≤ 4 := by
  unfold pcN; split
  · have := hasN_nn c.on p 4; omega
  · omega
theorem cnt_nn (L : List Pc) (p : Int) : 0 ≤ cnt L p ∧ cnt L p ≤ 4 * (L.length : Int) := by
  induction L with
  | nil => simp [cnt]
  | cons c t ih => have := pcN_nn c p; unfold cnt; simp; omega
theorem cnt_append (L : List Pc) (c : Pc) (p : Int) : cnt (L ++ [c]) p = cnt L p + pcN c p := by
  induction L with
  | nil => simp [cnt]
  | cons d t ih => simp only [List.cons_append, cnt, ih]; omega
theorem cnt_set : ∀ (L : List Pc) (k : Nat) (c d : Pc) (p : Int), L[k]? = some c → cnt (L.set k d) p = cnt L p - pcN c p + pcN d p
  | [], k, c, d, p, h => by simp at h
  | e :: t, 0, c, d, p, h => by simp at h; subst h; simp only [List.set_cons_zero, cnt]; omega
  | e :: t, k + 1, c, d, p, h => by
    have := cnt_set t k c d p (by simpa using h)
    simp only [List.set_cons_succ, cnt, this]; omega
theorem cnt_ge : ∀ (L : List Pc) (k : Nat) (c : Pc) (p : Int), L[k]? = some c → pcN c p ≤ cnt L p
  | [], k, c, p, h => by simp at h
  | e :: t, 0, c, p, h => by simp at h; subst h; have := cnt_nn t p; unfold cnt; omega
  | e :: t, k + 1, c, p, h => by have := cnt_ge t k c p (by simpa using h); have := pcN_nn e p; unfold cnt; omega
theorem cnt_ge2 : ∀ (L : List Pc) (j k : Nat) (c d : Pc) (p : Int), L[j]? = some c → L[k]? = some d → j ≠ k → pcN c p + pcN d p ≤ cnt L p
  | [], j, k, c, d, p, h, _, _ => by simp at h
  | e :: t, 0, 0, c, d, p, h, h2, hn => absurd rfl hn
  | e :: t, 0, k + 1, c, d, p, h, h2, hn => by simp at h; subst h; have := cnt_ge t k d p (by simpa using h2); unfold cnt; omega
  | e :: t, j + 1, 0, c, d, p, h, h2, hn => by simp at h2; subst h2; have := cnt_ge t j c p (by simpa using h); unfold cnt; omega
  | e :: t, j + 1, k + 1, c, d, p, h, h2, hn => by have := cnt_ge2 t j k c d p (by simpa using h) (by simpa using h2) (by omega); have := pcN_nn e p; unfold cnt; omega
theorem cnt_pos : ∀ (L : List Pc) (p : Int), 0 < cnt L p → ∃ (k : Nat) (c : Pc), L[k]? = some c ∧ 0 < c.r ∧ ∃ i, i < 4 ∧ c.on i = p
  | [], p, h => by simp [cnt] at h
  | c :: t, p, h => by
    by_cases e : 0 < pcN c p
    · unfold pcN at e
      by_cases hr : 0 < c.r
      · rw [if_pos hr] at e
        exact ⟨0, c, rfl, hr, (hasN_pos c.on p 4).1 e⟩
      · rw [if_neg hr] at e; omega
    · have := pcN_nn c p
      unfold cnt at h
      obtain ⟨k, d, h1, h2⟩ := cnt_pos t p (by omega)
      exact ⟨k + 1, d, by simpa using h1, h2⟩

/-- pages and pictures fit together -/
structure INV (l : List Sh) (L : List Pc) : Prop where
  cnt : ∀ p, (pg l p).r = cnt L p
  dist : ∀ (k : Nat) (c : Pc), L[k]? = some c → 0 < c.r → ∀ i j, i < 4 → j < 4 → c.on i = c.on j → i = j
  nn : ∀ (k : Nat) (c : Pc), L[k]? = some c → 0 ≤ c.r
theorem INV.has {l : List Sh} {L : List Pc} (I : INV l L) {k : Nat} {c : Pc} (h : L[k]? = some c) (hr : 0 < c.r) {i : Nat} (hi : i < 4) : 1 ≤ (pg l (c.on i)).r := by
  have h1 := cnt_ge L k c (c.on i) h
  have h2 : pcN c (c.on i) = hasN c.on (c.on i) 4 := if_pos hr
  have h3 := (hasN_pos c.on (c.on i) 4).2 ⟨i, hi, rfl⟩
  rw [I.cnt]; omega
theorem INV.at {l : List Sh} {L : List Pc} (I : INV l L) {k : Nat} {c : Pc} (h : L[k]? = some c) (hr : 0 < c.r) {i : Nat} (hi : i < 4) : ∃ q : Nat, c.on i = q + 1 ∧ q < l.length ∧ pg l (c.on i) = shAt l q := by
  have := I.has h hr hi
  obtain ⟨q, h1, h2⟩ := pg_in (l := l) (p := c.on i) (by omega)
  exact ⟨q, h1, h2, pg_at l _ q h1⟩
theorem INV.nnr {l : List Sh} {L : List Pc} (I : INV l L) (p : Int) : 0 ≤ (pg l p).r := by rw [I.cnt]; exact (cnt_nn L p).1
theorem INV.le {l : List Sh} {L : List Pc} (I : INV l L) (p : Int) : (pg l p).r ≤ 4 * (L.length : Int) := by rw [I.cnt]; exact (cnt_nn L p).2

/-! ### pages set -/
theorem pg_set {l : List Sh} {k : Nat} (hk : k < l.length) (s : Sh) (p : Int) (hp : p = k + 1) (q : Int) : pg (l.set k s) q = if q = p then s else pg l q := by
  unfold pg
  by_cases h1 : 1 ≤ q
  · rw [if_pos h1, if_pos h1, shAt_set hk]
    by_cases e : q = p
    · rw [if_pos e, if_pos (by omega)]
    · rw [if_neg e, if_neg (by omega)]
  · rw [if_neg h1, if_neg h1, if_neg (by omega)]
def usedP (l : List Sh) : List Int := ((List.range l.length).filter fun k => decide (0 < (shAt l k).r)).map fun k : Nat => (k : Int) + 1
theorem l_range (l : List Sh) : (List.range l.length).map (shAt l) = l := by
  apply List.ext_getElem
  · simp
  · intro i h1 h2
    simp [shAt, h2]
theorem usedP_len (l : List Sh) : usedN l = (usedP l).length := by
  unfold usedN usedP
  rw [List.length_map]
  conv => lhs; rw [← l_range l]
  rw [List.filter_map, List.length_map]
  rfl
theorem usedP_mem (l : List Sh) (p : Int) : p ∈ usedP l ↔ 0 < (pg l p).r := by
  unfold usedP
  rw [List.mem_map]
  constructor
  · rintro ⟨k, hk, rfl⟩
    rw [List.mem_filter, List.mem_range] at hk
    rw [pg_at l _ k rfl]; simpa using hk.2
  · intro h
    obtain ⟨k, hk, hl⟩ := pg_in (l := l) (p := p) (by omega)
    refine ⟨k, ?_, hk.symm⟩
    rw [List.mem_filter, List.mem_range]
    rw [pg_at l p k hk] at h
    exact ⟨hl, by simpa using h⟩
theorem usedP_nodup (l : List Sh) : (usedP l).Nodup := by
  unfold usedP
  refine List.pairwise_map.2 (((List.nodup_range).filter _).imp ?_)
  intro a b hne e
  exact hne (by omega)
theorem used_eq (l : List Sh) (X : List Int) (hX : X.Nodup) (h : ∀ p, p ∈ X ↔ 0 < (pg l p).r) : usedN l = X.length := by
  rw [usedP_len]
  exact ((List.perm_ext_iff_of_nodup (usedP_nodup l) hX).2 fun p => by rw [usedP_mem, h]).length_eq
theorem nodup_le : ∀ (a b : List Int), a.Nodup → (∀ x ∈ a, x ∈ b) → a.length ≤ b.length
  | [], b, _, _ => Nat.zero_le _
  | x :: t, b, hn, hs => by
    have hx := hs x (by simp)
    have hn2 := List.nodup_cons.1 hn
    have := nodup_le t (b.erase x) hn2.2 (fun y hy => (List.mem_erase_of_ne (fun e => hn2.1 (by rw [← e]; exact hy))).2 (hs y (by simp [hy])))
    have h0 := List.length_pos_of_mem hx
    rw [List.length_erase_of_mem hx] at this
    simp only [List.length_cons]; omega
def allP : List Pc → List Int
  | [] => []
  | c :: t => [c.on 0, c.on 1, c.on 2, c.on 3] ++ allP t
theorem allP_len (L : List Pc) : (allP L).length = 4 * L.length := by
  induction L with
  | nil => rfl
  | cons c t ih => simp [allP, ih]; omega
theorem allP_mem : ∀ (L : List Pc) (k : Nat) (c : Pc), L[k]? = some c → ∀ i, i < 4 → c.on i ∈ allP L
  | [], k, c, h, i, hi => by simp at h
  | e :: t, 0, c, h, i, hi => by
    simp at h; subst h
    obtain rfl | rfl | rfl | rfl : i = 0 ∨ i = 1 ∨ i = 2 ∨ i = 3 := by omega
    all_goals simp [allP]
  | e :: t, k + 1, c, h, i, hi => by
    have := allP_mem t k c (by simpa using h) i hi
    simp [allP, this]
theorem INV.used_le {l : List Sh} {L : List Pc} (I : INV l L) : usedN l ≤ 4 * L.length := by
  rw [usedP_len, ← allP_len]
  refine nodup_le _ _ (usedP_nodup l) (fun p hp => ?_)
  rw [usedP_mem, I.cnt] at hp
  obtain ⟨k, c, h, _, i, hi, rfl⟩ := cnt_pos L p hp
  exact allP_mem L k c h i hi
/-- one live picture alone has four pages -/
theorem INV.used4 {l : List Sh} {L : List Pc} (I : INV l L) (k : Nat) (c : Pc) (h : L[k]? = some c) (hr : 0 < c.r) (hone : ∀ (j : Nat) (d : Pc), L[j]? = some d → 0 < d.r → j = k) : usedN l = 4 := by
  have hd := I.dist k c h hr
  refine used_eq l [c.on 0, c.on 1, c.on 2, c.on 3] ?_ (fun p => ?_)
  · have h01 := hd 0 1; have h02 := hd 0 2; have h03 := hd 0 3; have h12 := hd 1 2; have h13 := hd 1 3; have h23 := hd 2 3
    simp only [List.nodup_cons, List.mem_cons, List.not_mem_nil, or_false, not_or, not_false_eq_true, List.nodup_nil, and_true]
    refine ⟨⟨fun e => ?_, fun e => ?_, fun e => ?_⟩, ⟨fun e => ?_, fun e => ?_⟩, fun e => ?_⟩
    · have := h01 (by omega) (by omega) e; omega
    · have := h02 (by omega) (by omega) e; omega
    · have := h03 (by omega) (by omega) e; omega
    · have := h12 (by omega) (by omega) e; omega
    · have := h13 (by omega) (by omega) e; omega
    · have := h23 (by omega) (by omega) e; omega
  · constructor
    · intro hp
      have : ∃ i, i < 4 ∧ c.on i = p := by
        simp only [List.mem_cons, List.not_mem_nil, or_false] at hp
        rcases hp with e | e | e | e
        · exact ⟨0, by omega, e.symm⟩
        · exact ⟨1, by omega, e.symm⟩
        · exact ⟨2, by omega, e.symm⟩
        · exact ⟨3, by omega, e.symm⟩
      obtain ⟨i, hi, rfl⟩ := this
      have := I.has h hr hi
      omega
    · intro hp
      rw [I.cnt] at hp
      obtain ⟨j, d, h1, h2, i, hi, rfl⟩ := cnt_pos L p hp
      obtain rfl := hone j d h1 h2
      rw [h] at h1; obtain rfl := Option.some.inj h1
      obtain rfl | rfl | rfl | rfl : i = 0 ∨ i = 1 ∨ i = 2 ∨ i = 3 := by omega
      all_goals simp
/-- none is live: no page is used -/
theorem INV.used0 {l : List Sh} {L : List Pc} (I : INV l L) (hone : ∀ (j : Nat) (d : Pc), L[j]? = some d → ¬ 0 < d.r) : usedN l = 0 := by
  refine used_eq l [] List.nodup_nil (fun p => ?_)
  simp only [List.not_mem_nil, false_iff]
  intro hp
  rw [I.cnt] at hp
  obtain ⟨j, d, h1, h2, _⟩ := cnt_pos L p hp
  exact hone j d h1 h2
theorem usedN_set (l : List Sh) (k : Nat) (hk : k < l.length) (s : Sh) : usedN (l.set k s) + (if 0 < (shAt l k).r then 1 else 0) = usedN l + (if 0 < s.r then 1 else 0) := by
  unfold usedN
  induction l generalizing k with
  | nil => simp at hk
  | cons a t ih =>
    cases k with
    | zero =>
      have e : shAt (a :: t) 0 = a := rfl
      rw [e]
      simp only [List.set_cons_zero, List.filter_cons]
      by_cases h1 : 0 < a.r <;> by_cases h2 : 0 < s.r <;> simp [h1, h2]
    | succ k =>
      have e : shAt (a :: t) (k + 1) = shAt t k := rfl
      have := ih k (by simpa using hk)
      rw [e]
      simp only [List.set_cons_succ, List.filter_cons]
      by_cases h1 : 0 < a.r <;> simp [h1] <;> omega
theorem full_all (l : List Sh) (h : usedN l = l.length) (j : Nat) (hj : j < l.length) : (shAt l j).r ≠ 0 := by
  unfold usedN at h
  have h2 := List.length_filter_eq_length_iff.1 h
  have e := shAt_lt hj
  have := h2 (shAt l j) (List.mem_of_getElem? e)
  simp at this; omega
theorem free_one (l : List Sh) (hn : ∀ j, j < l.length → 0 ≤ (shAt l j).r) (h : usedN l < l.length) : ∃ k, k < l.length ∧ (shAt l k).r = 0 ∧ ∀ j, j < k → (shAt l j).r ≠ 0 := by
  by_cases hx : ∃ k, k < l.length ∧ (shAt l k).r = 0
  · obtain ⟨k, hk, h0⟩ := hx
    induction k using Nat.strongRecOn with
    | ind k ih =>
      by_cases hy : ∃ j, j < k ∧ (shAt l j).r = 0
      · obtain ⟨j, hj, hj0⟩ := hy
        exact ih j hj (by omega) hj0
      · exact ⟨k, hk, h0, fun j hj e => hy ⟨j, hj, e⟩⟩
  · exfalso
    have : (l.filter fun s => decide (0 < s.r)) = l := List.filter_eq_self.2 (fun s hs => by
      obtain ⟨j, hj, rfl⟩ := List.mem_iff_getElem.1 hs
      have e := shAt_lt hj
      rw [List.getElem?_eq_getElem hj] at e
      rw [Option.some.inj e]
      have h1 := hn j hj
      have h2 : (shAt l j).r ≠ 0 := fun x => hx ⟨j, hj, x⟩
      simp; omega)
    unfold usedN at h
    rw [this] at h; omega
theorem pg_nn (l : List Sh) (h : ∀ p, 0 ≤ (pg l p).r) (j : Nat) (hj : j < l.length) : 0 ≤ (shAt l j).r := by
  have := h (j + 1)
  rwa [pg_at l _ j rfl] at this

/-! ### what a picture shows -/
def gmL (l : List Sh) (f : Nat → Int) : List Int := (List.range 32).map fun j => (pg l (f (j / 8))).on (j % 8)
theorem gmL_len (l : List Sh) (f : Nat → Int) : (gmL l f).length = 32 := by unfold gmL; simp
theorem gmL_at (l : List Sh) (f : Nat → Int) (j : Nat) (h : j < 32) : (gmL l f)[j]? = some ((pg l (f (j / 8))).on (j % 8)) := by
  unfold gmL; simp [h]
theorem gmL_congr (l l' : List Sh) (f f' : Nat → Int) (h : ∀ i, i < 4 → ∀ j, j < 8 → (pg l' (f' i)).on j = (pg l (f i)).on j) : gmL l' f' = gmL l f := by
  unfold gmL
  refine List.map_congr_left (fun j hj => ?_)
  rw [List.mem_range] at hj
  exact h _ (by omega) _ (by omega)
theorem gmL_set (l l' : List Sh) (f f' : Nat → Int) (c : Nat) (hc : c < 32) (v : Int)
    (h : ∀ i, i < 4 → ∀ j, j < 8 → (pg l' (f' i)).on j = if i = c / 8 ∧ j = c % 8 then v else (pg l (f i)).on j) : gmL l' f' = (gmL l f).set c v := by
  apply List.ext_getElem?
  intro k
  by_cases hk : k < 32
  · rw [gmL_at _ _ _ hk, h _ (by omega) _ (by omega)]
    by_cases e : k = c
    · subst e
      rw [if_pos ⟨rfl, rfl⟩, List.getElem?_set_self (by rw [gmL_len]; exact hk)]
    · rw [if_neg (by omega), List.getElem?_set_ne (by omega), gmL_at _ _ _ hk]
  · rw [List.getElem?_eq_none (by rw [gmL_len]; omega), List.getElem?_eq_none (by rw [List.length_set, gmL_len]; omega)]
theorem gmL_of (l : List Sh) (f : Nat → Int) (g : List Int) (hg : g.length = 32) (h : ∀ i, i < 4 → ∀ j, j < 8 → g[8 * i + j]? = some ((pg l (f i)).on j)) : gmL l f = g := by
  apply List.ext_getElem?
  intro k
  by_cases hk : k < 32
  · rw [gmL_at _ _ _ hk, ← h (k / 8) (by omega) (k % 8) (by omega), show 8 * (k / 8) + k % 8 = k by omega]
  · rw [List.getElem?_eq_none (by rw [gmL_len]; omega), List.getElem?_eq_none (by omega)]
end Go.Proofs.Ytkmkjfbbpeocdaa
