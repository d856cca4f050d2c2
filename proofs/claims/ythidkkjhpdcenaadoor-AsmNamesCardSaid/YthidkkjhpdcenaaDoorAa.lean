/- PLAIN: programs as text: lines, names, the states that a reading goes through. -/
import Derived.Test.YthidkkjhpdcenaaDoorRv
import Derived.Test.YthidkkjhpdcenaaDoorKc
import Derived.Test.YthidkkjhpdcenaaDoorOc
import Derived.Lib.SlTrimSet
namespace Go.Proofs.YthidkkjhpdcenaaDoor
open Go.RowKit
set_option linter.unusedVariables false

/-! ### lines -/
def noHash (l : List UInt8) : List UInt8 := l.takeWhile (fun c => c != 35)
def trimL (l : List UInt8) : List UInt8 := l.dropWhile blk
def trimR (l : List UInt8) : List UInt8 := (l.reverse.dropWhile blk).reverse
def bareL (l : List UInt8) : List UInt8 := trimL (trimR (noHash l))

theorem trimR_snoc_blk (l : List UInt8) (c : UInt8) (h : blk c = true) : trimR (l ++ [c]) = trimR l := by
  unfold trimR; rw [List.reverse_append]; simp [h]
theorem trimR_snoc (l : List UInt8) (c : UInt8) (h : blk c = false) : trimR (l ++ [c]) = l ++ [c] := by
  unfold trimR; rw [List.reverse_append]; simp [h]
theorem trimR_nil : trimR [] = [] := rfl
theorem trimL_nil : trimL [] = [] := rfl
theorem trimL_blk (c : UInt8) (l : List UInt8) (h : blk c = true) : trimL (c :: l) = trimL l := by
  unfold trimL; rw [List.dropWhile_cons, if_pos h]
theorem trimL_cons (c : UInt8) (l : List UInt8) (h : blk c = false) : trimL (c :: l) = c :: l := by
  unfold trimL; rw [List.dropWhile_cons, if_neg (by simp [h])]
theorem trimR_cons (c : UInt8) (l : List UInt8) : trimR (c :: l) = if trimR l = [] then (if blk c = true then [] else [c]) else c :: trimR l := by
  unfold trimR
  rw [List.reverse_cons, List.dropWhile_append]
  by_cases h : l.reverse.dropWhile blk = []
  · rw [h]
    by_cases hc : blk c = true
    · simp [List.dropWhile, hc]
    · simp [List.dropWhile, hc]
  · rw [if_neg (by simpa using h), if_neg (by simpa using h)]
    simp
theorem trim_comm (l : List UInt8) : trimL (trimR l) = trimR (trimL l) := by
  induction l with
  | nil => rfl
  | cons c l ih =>
    by_cases hc : blk c = true
    · rw [trimL_blk c l hc, ← ih, trimR_cons]
      by_cases h : trimR l = []
      · rw [if_pos h, if_pos hc, h]
      · rw [if_neg h, trimL_blk c _ hc]
    · have hf : blk c = false := by simpa using hc
      rw [trimL_cons c l hf, trimR_cons]
      by_cases h : trimR l = []
      · rw [if_pos h, if_neg hc, trimL_cons c _ hf]
      · rw [if_neg h, trimL_cons c _ hf]
theorem bareL_two (l : List UInt8) : bareL l = trimR (trimL (noHash l)) := trim_comm _
theorem trimR_len (l : List UInt8) : (trimR l).length ≤ l.length := by
  induction l with
  | nil => exact Nat.le_refl _
  | cons c l ih =>
    rw [trimR_cons]
    split
    · split <;> simp
    · simp; omega
theorem trimL_len (l : List UInt8) : (trimL l).length ≤ l.length := by
  unfold trimL
  exact (List.dropWhile_suffix _).sublist.length_le
theorem noHash_len (l : List UInt8) : (noHash l).length ≤ l.length := by
  unfold noHash
  exact (List.takeWhile_prefix _).sublist.length_le
theorem bareL_len (l : List UInt8) : (bareL l).length ≤ l.length := by
  have h1 := noHash_len l
  have h2 := trimR_len (noHash l)
  have h3 := trimL_len (trimR (noHash l))
  unfold bareL; omega
/-- in a text that ends in no blank each end of it does -/
theorem trimR_end (a b : List UInt8) (h : trimR (a ++ b) = a ++ b) : trimR b = b := by
  rcases List.eq_nil_or_concat b with rfl | ⟨q, d, rfl⟩
  · rfl
  · by_cases hd : blk d = true
    · rw [List.concat_eq_append, ← List.append_assoc, trimR_snoc_blk _ _ hd] at h
      have := trimR_len (a ++ q)
      rw [h] at this
      simp at this
      omega
    · rw [List.concat_eq_append]
      exact trimR_snoc _ _ (by simpa using hd)
theorem trimR_idem (l : List UInt8) : trimR (trimR l) = trimR l := by
  rcases List.eq_nil_or_concat (trimR l) with h | ⟨q, d, h⟩
  · rw [h]; rfl
  · have key : ∀ l : List UInt8, ∀ q d, trimR l = q ++ [d] → blk d = false := by
      intro l
      induction l with
      | nil => intro q d h; rw [trimR_nil] at h; simp at h
      | cons c l ih =>
        intro q d h
        rw [trimR_cons] at h
        by_cases hl : trimR l = []
        · rw [if_pos hl] at h
          by_cases hc : blk c = true
          · rw [if_pos hc] at h; simp at h
          · rw [if_neg hc] at h
            have e : [] ++ [c] = q ++ [d] := h
            have := (List.append_inj' e rfl).2
            simp at this
            rw [← this]; simpa using hc
        · rw [if_neg hl] at h
          rcases List.eq_nil_or_concat (trimR l) with h0 | ⟨q2, d2, h2⟩
          · exact absurd h0 hl
          · rw [List.concat_eq_append] at h2
            have hd := ih q2 d2 h2
            rw [h2, ← List.cons_append] at h
            have := (List.append_inj' h rfl).2
            simp at this
            rw [← this]; exact hd
    rw [List.concat_eq_append] at h
    rw [h]
    exact trimR_snoc _ _ (key l q d h)
theorem trimL_suffix (l : List UInt8) : ∃ a, l = a ++ trimL l := by
  obtain ⟨a, ha⟩ := List.dropWhile_suffix (l := l) blk
  exact ⟨a, ha.symm⟩
theorem bareL_right (l : List UInt8) : trimR (bareL l) = bareL l := by
  unfold bareL
  obtain ⟨a, ha⟩ := trimL_suffix (trimR (noHash l))
  refine trimR_end a _ ?_
  rw [← ha]
  exact trimR_idem _
theorem trimL_mem {l : List UInt8} {c : UInt8} (h : c ∈ trimL l) : c ∈ l := (List.dropWhile_suffix _).sublist.subset h
theorem trimR_mem {l : List UInt8} {c : UInt8} (h : c ∈ trimR l) : c ∈ l := by
  unfold trimR at h
  rw [List.mem_reverse] at h
  exact List.mem_reverse.1 ((List.dropWhile_suffix _).sublist.subset h)
theorem noHash_mem {l : List UInt8} {c : UInt8} (h : c ∈ noHash l) : c ≠ 35 := by
  have := List.all_takeWhile (l := l) (p := fun c => c != 35)
  rw [List.all_eq_true] at this
  simpa using this c h
theorem noHash_sub {l : List UInt8} {c : UInt8} (h : c ∈ noHash l) : c ∈ l := (List.takeWhile_prefix _).sublist.subset h
theorem bareL_mem {l : List UInt8} {c : UInt8} (h : c ∈ bareL l) : c ≠ 35 := noHash_mem (trimR_mem (trimL_mem h))
theorem bareL_sub {l : List UInt8} {c : UInt8} (h : c ∈ bareL l) : c ∈ l := noHash_sub (trimR_mem (trimL_mem h))
theorem takeSelf {p : UInt8 → Bool} : ∀ {l : List UInt8}, (∀ c ∈ l, p c = true) → l.takeWhile p = l
  | [], _ => rfl
  | c :: l, h => by rw [List.takeWhile_cons, if_pos (h c (by simp)), takeSelf (fun x hx => h x (by simp [hx]))]
theorem noHash_of {l : List UInt8} (h : ∀ c ∈ l, c ≠ 35) : noHash l = l := by
  unfold noHash
  exact takeSelf fun c hc => by simpa using h c hc
theorem noHash_at {a b : List UInt8} (h : ∀ c ∈ a, c ≠ 35) : noHash (a ++ 35 :: b) = a := by
  unfold noHash
  rw [List.takeWhile_append, takeSelf (l := a) (fun c hc => by simpa using h c hc)]
  simp
theorem bareL_nil : bareL [] = [] := rfl
/-- a line that is its own words: no remark, no blank at its ends -/
def clean (l : List UInt8) : Prop := (∀ c ∈ l, c ≠ 35) ∧ trimL l = l ∧ trimR l = l
theorem clean.bare {l : List UInt8} (h : clean l) : bareL l = l := by
  unfold bareL; rw [noHash_of h.1, h.2.2, h.2.1]
theorem bareL_clean (l : List UInt8) (h : bareL l = l) : clean l := by
  have h1 : ∀ c ∈ l, c ≠ 35 := fun c hc => bareL_mem (l := l) (by rw [h]; exact hc)
  have h2 : trimR l = l := by rw [← h]; exact bareL_right l
  refine ⟨h1, ?_, h2⟩
  unfold bareL at h
  rw [noHash_of h1, h2] at h
  exact h
theorem clean.ends {l : List UInt8} (h1 : ∀ c ∈ l, c ≠ 35) (h2 : ∀ c r, l = c :: r → blk c = false) (h3 : ∀ q d, l = q ++ [d] → blk d = false) : clean l := by
  refine ⟨h1, ?_, ?_⟩
  · cases l with
    | nil => rfl
    | cons c r => exact trimL_cons c r (h2 c r rfl)
  · rcases List.eq_nil_or_concat l with rfl | ⟨q, d, rfl⟩
    · rfl
    · rw [List.concat_eq_append] at h3 ⊢
      exact trimR_snoc _ _ (h3 q d rfl)
theorem trimL_head {l r : List UInt8} {c : UInt8} (h : trimL l = l) (e : l = c :: r) : blk c = false := by
  subst e
  by_cases hc : blk c = true
  · rw [trimL_blk c r hc] at h
    have := trimL_len r
    rw [h] at this
    simp at this
    omega
  · simpa using hc
theorem trimR_last {l q : List UInt8} {d : UInt8} (h : trimR l = l) (e : l = q ++ [d]) : blk d = false := by
  subst e
  by_cases hc : blk d = true
  · rw [trimR_snoc_blk q d hc] at h
    have := trimR_len q
    rw [h] at this
    simp at this
    omega
  · simpa using hc
/-- what follows a clean line on its own line is nothing -/
theorem bareL_tail (x rem : List UInt8) (h : clean x) : bareL (x ++ (9 :: 32 :: 35 :: rem)) = x := by
  have e : x ++ (9 :: 32 :: 35 :: rem) = (x ++ [9] ++ [32]) ++ 35 :: rem := by simp
  have hb9 : blk 9 = true := by decide
  have hb32 : blk 32 = true := by decide
  unfold bareL
  rw [e, noHash_at, trimR_snoc_blk _ _ hb32, trimR_snoc_blk _ _ hb9, h.2.2, h.2.1]
  intro c hc
  simp at hc
  rcases hc with hc | rfl | rfl
  · exact h.1 c hc
  · decide
  · decide
theorem bareL_tail2 (x rem : List UInt8) (h : clean x) : bareL (x ++ (9 :: 35 :: rem)) = x := by
  have e : x ++ (9 :: 35 :: rem) = (x ++ [9]) ++ 35 :: rem := by simp
  have hb9 : blk 9 = true := by decide
  unfold bareL
  rw [e, noHash_at, trimR_snoc_blk _ _ hb9, h.2.2, h.2.1]
  intro c hc
  simp at hc
  rcases hc with hc | rfl
  · exact h.1 c hc
  · decide

/-! ### the title's line -/
def titleP : List UInt8 := [116, 105, 116, 108, 101]
def titleL (x : List UInt8) : Option (List UInt8) :=
  if x.take 5 = titleP ∧ trimL (x.drop 5) ≠ x.drop 5 ∧ titB (str (trimL (x.drop 5))) = true then some (trimL (x.drop 5)) else none

/-! ### the operations' lines -/
def names : List (List UInt8) := [[104, 97, 108, 116], [115, 101, 116], [109, 111, 118], [97, 100, 100], [115, 117, 98], [109, 117, 108], [100, 105, 118], [108, 101, 115, 115],
  [115, 97, 109, 101], [106, 117, 109, 112], [122, 101, 114, 111], [105, 110], [108, 111, 97, 100], [107, 101, 101, 112], [114, 117, 110, 101], [116, 105, 109, 101]]
def takesN : List Nat := [0, 2, 2, 3, 3, 3, 3, 3, 3, 1, 2, 2, 2, 2, 2, 1]
def nameL (k : Nat) : List UInt8 := names.getD k []
def takesL (k : Nat) : Nat := takesN.getD k 0
theorem takesL_le (k : Nat) : takesL k ≤ 3 := by
  by_cases h : k < 16
  · have : ∀ j : Fin 16, takesL j.1 ≤ 3 := by decide
    exact this ⟨k, h⟩
  · unfold takesL
    rw [List.getD, List.getElem?_eq_none (by show 16 ≤ k; omega)]
    exact Nat.zero_le _
def idx (w : List UInt8) : Nat := names.idxOf w
theorem idx_name (k : Nat) (h : k < 16) : idx (nameL k) = k := by
  have : ∀ j : Fin 16, idx (nameL j.1) = j.1 := by decide
  exact this ⟨k, h⟩
theorem idx_at (w : List UInt8) (k : Nat) (h : k < 16) (e : nameL k = w) : idx w = k := by rw [← e]; exact idx_name k h
theorem idx_le (w : List UInt8) : idx w ≤ 16 := List.idxOf_le_length (l := names)
theorem idx_none (w : List UInt8) (h : ∀ k, k < 16 → nameL k ≠ w) : idx w = 16 := by
  have hl := idx_le w
  by_cases hk : idx w < 16
  · exfalso
    refine h _ hk ?_
    unfold nameL
    rw [List.getD, List.getElem?_eq_getElem (by show idx w < 16; exact hk)]
    exact List.getElem_idxOf (by show idx w < 16; exact hk)
  · omega
/-- all of them as numbers -/
def numsL : List (List UInt8) → Option (List Int)
  | [] => some []
  | w :: r => match numT (str w) with
    | none => none
    | some n => match numsL r with
      | none => none
      | some l => some (n :: l)
theorem numsL_len : ∀ {ws : List (List UInt8)} {l : List Int}, numsL ws = some l → l.length = ws.length
  | [], l, h => by simp [numsL] at h; subst h; rfl
  | w :: r, l, h => by
    simp only [numsL] at h
    cases h1 : numT (str w) with
    | none => rw [h1] at h; cases h
    | some n =>
      rw [h1] at h; simp only at h
      cases h2 : numsL r with
      | none => rw [h2] at h; cases h
      | some l2 =>
        rw [h2] at h
        simp only [Option.some.injEq] at h
        subst h
        simp [numsL_len h2]
def opOf (k : Nat) (l : List Int) : O4 := ⟨k, l.getD 0 0, l.getD 1 0, l.getD 2 0⟩
def readW : List (List UInt8) → Option O4
  | [] => none
  | w :: r => if idx w < 16 ∧ r.length = takesL (idx w) then (numsL r).map (opOf (idx w)) else none

/-! ### a line behind what was read -/
def addL (t : List UInt8) (os : List O4) (x : List UInt8) : Option (List UInt8 × List O4) :=
  if x = [] then some (t, os)
  else if t = [] then (titleL x).map fun t' => (t', os)
  else if os.length < 64 then (readW (wordsL [] x)).map fun o => (t, os ++ [o]) else none

inductive PR where
  | bad (n : Nat) : PR
  | ok (t : List UInt8) (os : List O4) : PR
def finL (t : List UInt8) (os : List O4) : PR := if os = [] then .bad 0 else .ok t os
def pgo : List UInt8 → List O4 → Nat → List UInt8 → List UInt8 → PR
  | t, os, n, cur, [] => match addL t os (bareL cur) with
    | none => .bad n
    | some (t', os') => finL t' os'
  | t, os, n, cur, c :: r => if c = 10 then match addL t os (bareL cur) with
      | none => .bad n
      | some (t', os') => pgo t' os' (n + 1) [] r
    else pgo t os n (cur ++ [c]) r
def parseL (s : List UInt8) : PR := pgo [] [] 1 [] s

theorem pgo_skip : ∀ (seg : List UInt8) (t : List UInt8) (os : List O4) (n : Nat) (cur r : List UInt8), (∀ c ∈ seg, c ≠ 10) → pgo t os n cur (seg ++ r) = pgo t os n (cur ++ seg) r
  | [], t, os, n, cur, r, _ => by simp
  | c :: seg, t, os, n, cur, r, h => by
    rw [List.cons_append, pgo, if_neg (h c (by simp)), pgo_skip seg t os n _ r (fun x hx => h x (by simp [hx]))]
    simp
theorem pgo_bad (t : List UInt8) (os : List O4) (n : Nat) (cur r : List UInt8) (h : addL t os (bareL cur) = none) : pgo t os n cur (10 :: r) = .bad n := by
  rw [pgo, if_pos rfl, h]
theorem pgo_nl (t t' : List UInt8) (os os' : List O4) (n : Nat) (cur r : List UInt8) (h : addL t os (bareL cur) = some (t', os')) : pgo t os n cur (10 :: r) = pgo t' os' (n + 1) [] r := by
  rw [pgo, if_pos rfl, h]
theorem pgo_bad_end (t : List UInt8) (os : List O4) (n : Nat) (cur : List UInt8) (h : addL t os (bareL cur) = none) : pgo t os n cur [] = .bad n := by
  rw [pgo, h]
theorem pgo_end (t t' : List UInt8) (os os' : List O4) (n : Nat) (cur : List UInt8) (h : addL t os (bareL cur) = some (t', os')) : pgo t os n cur [] = finL t' os' := by
  rw [pgo, h]
theorem pgo_line (t t' : List UInt8) (os os' : List O4) (n : Nat) (seg r : List UInt8) (h0 : ∀ c ∈ seg, c ≠ 10) (h : addL t os (bareL seg) = some (t', os')) : pgo t os n [] (seg ++ 10 :: r) = pgo t' os' (n + 1) [] r := by
  rw [pgo_skip _ _ _ _ _ _ h0, List.nil_append]
  exact pgo_nl _ _ _ _ _ _ _ h
theorem pgo_line_bad (t : List UInt8) (os : List O4) (n : Nat) (seg r : List UInt8) (h0 : ∀ c ∈ seg, c ≠ 10) (h : addL t os (bareL seg) = none) : pgo t os n [] (seg ++ 10 :: r) = .bad n := by
  rw [pgo_skip _ _ _ _ _ _ h0, List.nil_append]
  exact pgo_bad _ _ _ _ _ h
theorem pgo_last_bad (t : List UInt8) (os : List O4) (n : Nat) (seg : List UInt8) (h0 : ∀ c ∈ seg, c ≠ 10) (h : addL t os (bareL seg) = none) : pgo t os n [] seg = .bad n := by
  have := pgo_skip seg t os n [] [] h0
  rw [List.append_nil, List.nil_append] at this
  rw [this]
  exact pgo_bad_end _ _ _ _ h
theorem pgo_last (t t' : List UInt8) (os os' : List O4) (n : Nat) (seg : List UInt8) (h0 : ∀ c ∈ seg, c ≠ 10) (h : addL t os (bareL seg) = some (t', os')) : pgo t os n [] seg = finL t' os' := by
  have := pgo_skip seg t os n [] [] h0
  rw [List.append_nil, List.nil_append] at this
  rw [this]
  exact pgo_end _ _ _ _ _ _ h
theorem addL_nil (t : List UInt8) (os : List O4) : addL t os [] = some (t, os) := by unfold addL; rw [if_pos rfl]
theorem pgo_done (t : List UInt8) (os : List O4) (n : Nat) : pgo t os n [] [] = finL t os := pgo_end _ _ _ _ _ _ (addL_nil t os)
/-- no title: no operation -/
theorem addL_title {t t' : List UInt8} {os os' : List O4} {x : List UInt8} (h : addL t os x = some (t', os')) (h0 : t = [] → os = []) : t' = [] → os' = [] := by
  unfold addL at h
  split at h
  · simp only [Option.some.injEq, Prod.mk.injEq] at h
    obtain ⟨rfl, rfl⟩ := h
    exact h0
  · split at h
    · rename_i ht
      have := h0 ht
      subst this
      cases hx : titleL x with
      | none => rw [hx] at h; cases h
      | some t2 =>
        rw [hx] at h
        simp only [Option.map_some, Option.some.injEq, Prod.mk.injEq] at h
        obtain ⟨_, rfl⟩ := h
        exact fun _ => rfl
    · rename_i ht
      split at h
      · cases hx : readW (wordsL [] x) with
        | none => rw [hx] at h; cases h
        | some o =>
          rw [hx] at h
          simp only [Option.map_some, Option.some.injEq, Prod.mk.injEq] at h
          obtain ⟨rfl, _⟩ := h
          exact fun e => absurd e ht
      · cases h
theorem addL_len {t t' : List UInt8} {os os' : List O4} {x : List UInt8} (h : addL t os x = some (t', os')) (h0 : os.length ≤ 64) : os'.length ≤ 64 := by
  unfold addL at h
  split at h
  · simp only [Option.some.injEq, Prod.mk.injEq] at h
    obtain ⟨_, rfl⟩ := h
    exact h0
  · split at h
    · cases hx : titleL x with
      | none => rw [hx] at h; cases h
      | some t2 =>
        rw [hx] at h
        simp only [Option.map_some, Option.some.injEq, Prod.mk.injEq] at h
        obtain ⟨_, rfl⟩ := h
        exact h0
    · split at h
      · cases hx : readW (wordsL [] x) with
        | none => rw [hx] at h; cases h
        | some o =>
          rw [hx] at h
          simp only [Option.map_some, Option.some.injEq, Prod.mk.injEq] at h
          obtain ⟨_, rfl⟩ := h
          simp; omega
      · cases h
end Go.Proofs.YthidkkjhpdcenaaDoor
