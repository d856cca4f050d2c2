/- PLAIN: programs read out of bytes. -/
import Derived.Test.YtbmhdinaofepdaaNe
namespace Go.Proofs.Ytbmhdinaofepdaa

def numN (l : List UInt8) : Option (Int × List UInt8) := match getN l with
  | .ok u k => some (zag u, l.drop k)
  | _ => none
theorem numN_put (n : Int) (r : List UInt8) (h : in64 n) : numN (putN n ++ r) = some (n, r) := by
  unfold numN
  rw [getN_put n r h]
  simp [zag_zig]
theorem numN_got {l r : List UInt8} {n : Int} (h : numN l = some (n, r)) : l = putN n ++ r ∧ in64 n := by
  unfold numN at h
  split at h
  · rename_i u k hg
    simp only [Option.some.injEq, Prod.mk.injEq] at h
    obtain ⟨rfl, rfl⟩ := h
    exact ⟨getN_split l u k hg, zag_in u (getN_got l u k hg).1⟩
  · cases h
/-- the rest of an operation of which 3, 2, 1, no numbers were read -/
def opK3 (x y z : Int) (l : List UInt8) : Option (O4 × List UInt8) := match numN l with
  | some (n, r) => some (⟨x, y, z, n⟩, r)
  | none => none
def opK2 (x y : Int) (l : List UInt8) : Option (O4 × List UInt8) := match numN l with
  | some (n, r) => opK3 x y n r
  | none => none
def opK1 (x : Int) (l : List UInt8) : Option (O4 × List UInt8) := match numN l with
  | some (n, r) => opK2 x n r
  | none => none
def opN (l : List UInt8) : Option (O4 × List UInt8) := match numN l with
  | some (n, r) => opK1 n r
  | none => none
theorem opN_put (o : O4) (r : List UInt8) (h1 : in64 o.k) (h2 : in64 o.a) (h3 : in64 o.b) (h4 : in64 o.c) : opN (encO o ++ r) = some (o, r) := by
  unfold opN encO
  simp only [List.append_assoc]
  simp only [opK1, opK2, opK3, numN_put _ _ h1, numN_put _ _ h2, numN_put _ _ h3, numN_put _ _ h4]
theorem opN_got {l r : List UInt8} {o : O4} (h : opN l = some (o, r)) : l = encO o ++ r ∧ in64 o.k ∧ in64 o.a ∧ in64 o.b ∧ in64 o.c := by
  simp only [opN, opK1, opK2, opK3] at h
  cases h1 : numN l with
  | none => rw [h1] at h; cases h
  | some x1 =>
    obtain ⟨n1, r1⟩ := x1
    rw [h1] at h; simp only at h
    cases h2 : numN r1 with
    | none => rw [h2] at h; cases h
    | some x2 =>
      obtain ⟨n2, r2⟩ := x2
      rw [h2] at h; simp only at h
      cases h3 : numN r2 with
      | none => rw [h3] at h; cases h
      | some x3 =>
        obtain ⟨n3, r3⟩ := x3
        rw [h3] at h; simp only at h
        cases h4 : numN r3 with
        | none => rw [h4] at h; cases h
        | some x4 =>
          obtain ⟨n4, r4⟩ := x4
          rw [h4] at h
          simp only [Option.some.injEq, Prod.mk.injEq] at h
          obtain ⟨rfl, rfl⟩ := h
          obtain ⟨e1, i1⟩ := numN_got h1
          obtain ⟨e2, i2⟩ := numN_got h2
          obtain ⟨e3, i3⟩ := numN_got h3
          obtain ⟨e4, i4⟩ := numN_got h4
          refine ⟨?_, i1, i2, i3, i4⟩
          unfold encO
          rw [e1, e2, e3, e4]
          simp only [List.append_assoc]
/-- n operations -/
def opsN : Nat → List UInt8 → Option (List O4 × List UInt8)
  | 0, l => some ([], l)
  | n + 1, l => match opN l with
    | some (o, r) => match opsN n r with
      | some (os, r') => some (o :: os, r')
      | none => none
    | none => none
theorem opsN_put (os : List O4) (r : List UInt8) (h : ∀ o ∈ os, smlO o) : opsN os.length (encOs os ++ r) = some (os, r) := by
  induction os with
  | nil => rw [encOs_nil]; rfl
  | cons o os ih =>
    have ho := h o (by simp)
    rw [encOs_cons, List.append_assoc, List.length_cons, opsN, opN_put o _ (sml_in ho.1) (sml_in ho.2.1) (sml_in ho.2.2.1) (sml_in ho.2.2.2)]
    simp only
    rw [ih (fun x hx => h x (by simp [hx]))]
theorem opsN_got : ∀ {n : Nat} {l r : List UInt8} {os : List O4}, opsN n l = some (os, r) → l = encOs os ++ r ∧ os.length = n
  | 0, l, r, os, h => by
    simp only [opsN, Option.some.injEq, Prod.mk.injEq] at h
    obtain ⟨rfl, rfl⟩ := h
    rw [encOs_nil]
    exact ⟨rfl, rfl⟩
  | n + 1, l, r, os, h => by
    simp only [opsN] at h
    cases h1 : opN l with
    | none => rw [h1] at h; cases h
    | some x =>
      obtain ⟨o, r1⟩ := x
      rw [h1] at h; simp only at h
      cases h2 : opsN n r1 with
      | none => rw [h2] at h; cases h
      | some y =>
        obtain ⟨os', r2⟩ := y
        rw [h2] at h
        simp only [Option.some.injEq, Prod.mk.injEq] at h
        obtain ⟨rfl, rfl⟩ := h
        obtain ⟨e1, _⟩ := opN_got h1
        obtain ⟨e2, e3⟩ := opsN_got h2
        rw [e1, e2, encOs_cons, List.append_assoc]
        exact ⟨rfl, by rw [List.length_cons, e3]⟩
/-- the same from the other end: k were read, and r is left -/
theorem opsN_step {n : Nat} : ∀ {k : Nat} {l r : List UInt8} {os : List O4}, opsN k l = some (os, r) → k < n → opsN n l = match opN r with
    | some (o, r') => match opsN (n - k - 1) r' with
      | some (os', r'') => some (os ++ o :: os', r'')
      | none => none
    | none => none
  | 0, l, r, os, h, hk => by
    simp only [opsN, Option.some.injEq, Prod.mk.injEq] at h
    obtain ⟨rfl, rfl⟩ := h
    obtain ⟨m, rfl⟩ : ∃ m, n = m + 1 := ⟨n - 1, by omega⟩
    rw [opsN, show m + 1 - 0 - 1 = m by omega]
    rfl
  | k + 1, l, r, os, h, hk => by
    obtain ⟨m, rfl⟩ : ∃ m, n = m + 1 := ⟨n - 1, by omega⟩
    simp only [opsN] at h ⊢
    cases h1 : opN l with
    | none => rw [h1] at h; cases h
    | some x =>
      obtain ⟨o, r1⟩ := x
      rw [h1] at h; simp only at h ⊢
      cases h2 : opsN k r1 with
      | none => rw [h2] at h; cases h
      | some y =>
        obtain ⟨os', r2⟩ := y
        rw [h2] at h
        simp only [Option.some.injEq, Prod.mk.injEq] at h
        obtain ⟨rfl, rfl⟩ := h
        rw [opsN_step (n := m) h2 (by omega), show m + 1 - (k + 1) - 1 = m - k - 1 by omega]
        cases opN r2 with
        | none => rfl
        | some z =>
          obtain ⟨o2, r3⟩ := z
          simp only
          cases opsN (m - k - 1) r3 with
          | none => rfl
          | some q => rfl
theorem opsN_snoc {k : Nat} {l r r' : List UInt8} {os : List O4} {o : O4} (h : opsN k l = some (os, r)) (ho : opN r = some (o, r')) : opsN (k + 1) l = some (os ++ [o], r') := by
  rw [opsN_step h (by omega), ho, show k + 1 - k - 1 = 0 by omega]
  rfl
theorem opsN_stop {k n : Nat} {l r : List UInt8} {os : List O4} (h : opsN k l = some (os, r)) (hk : k < n) (ho : opN r = none) : opsN n l = none := by
  rw [opsN_step h hk, ho]

def smlB (n : Int) : Bool := decide (-2147483648 ≤ n) && decide (n ≤ 2147483647)
theorem smlB_iff (n : Int) : smlB n = true ↔ sml n := by unfold smlB sml; simp
def smlOB (o : O4) : Bool := smlB o.k && smlB o.a && smlB o.b && smlB o.c
theorem smlOB_iff (o : O4) : smlOB o = true ↔ smlO o := by unfold smlOB smlO; simp [smlB_iff, and_assoc]
def smlOs (os : List O4) : Bool := os.all smlOB
theorem smlOs_iff (os : List O4) : smlOs os = true ↔ ∀ o ∈ os, smlO o := by unfold smlOs; simp [smlOB_iff]
/-- may it be written? -/
def fitsB (tb : Bool) (os : List O4) : Bool := tb && decide (1 ≤ os.length) && decide (os.length ≤ 64) && smlOs os
theorem fitsB_iff (tb : Bool) (os : List O4) : fitsB tb os = true ↔ tb = true ∧ 1 ≤ os.length ∧ os.length ≤ 64 ∧ ∀ o ∈ os, smlO o := by
  unfold fitsB; simp [smlOs_iff, and_assoc]
/-- readOps -/
def rowsN (l : List UInt8) : Option (List O4) := match numN l with
  | some (m, r) => if m < 1 ∨ 64 < m then none else match opsN m.toNat r with
    | some (os, []) => some os
    | _ => none
  | none => none
theorem rowsN_put (os : List O4) (h1 : 1 ≤ os.length) (h2 : os.length ≤ 64) (h : ∀ o ∈ os, smlO o) : rowsN (putN os.length ++ encOs os) = some os := by
  unfold rowsN
  rw [numN_put _ _ (len_in os (by omega))]
  simp only
  rw [if_neg (by omega), Int.toNat_natCast]
  have := opsN_put os [] h
  rw [List.append_nil] at this
  rw [this]
theorem rowsN_got {l : List UInt8} {os : List O4} (h : rowsN l = some os) : l = putN os.length ++ encOs os ∧ 1 ≤ os.length ∧ os.length ≤ 64 := by
  unfold rowsN at h
  cases h1 : numN l with
  | none => rw [h1] at h; cases h
  | some x =>
    obtain ⟨m, r⟩ := x
    rw [h1] at h; simp only at h
    split at h
    · cases h
    · rename_i hm
      cases h2 : opsN m.toNat r with
      | none => rw [h2] at h; cases h
      | some y =>
        obtain ⟨os', r'⟩ := y
        rw [h2] at h
        cases r' with
        | cons _ _ => cases h
        | nil =>
          simp only [Option.some.injEq] at h
          subst h
          obtain ⟨e1, _⟩ := numN_got h1
          obtain ⟨e2, e3⟩ := opsN_got h2
          rw [List.append_nil] at e2
          have hmm : (os'.length : Int) = m := by omega
          rw [e1, e2, hmm]
          exact ⟨rfl, by omega, by omega⟩
/-- is a text a title -/
def progN (tit : List UInt8 → Bool) (l : List UInt8) : Option (List UInt8 × List O4) := match textN l with
  | .ok t k => match rowsN (l.drop k) with
    | some os => if fitsB (tit t) os then some (t, os) else none
    | none => none
  | _ => none
theorem textN_put (t r : List UInt8) (h : t.length ≤ 65536) : textN (putT t ++ r) = .ok t ((putN t.length).length + t.length) := by
  unfold putT
  have hg := getN_put (t.length : Int) (t ++ r) (len_in t (by omega))
  rw [List.append_assoc, textN_ok hg, zag_zig, if_neg (by omega), Int.toNat_natCast]
  rw [if_neg (by simp only [List.length_append]; omega)]
  congr 1
  rw [List.drop_append_of_le_length (Nat.le_refl _), List.drop_length, List.nil_append, List.take_append_of_le_length (Nat.le_refl _), List.take_length]
theorem textN_got {l t : List UInt8} {k : Nat} (h : textN l = .ok t k) : l = putT t ++ l.drop k ∧ t.length ≤ 65536 ∧ k ≤ l.length := by
  unfold textN at h
  split at h
  · cases h
  · cases h
  · rename_i u j hg
    obtain ⟨g1, g2, g3, g4, g5⟩ := getN_got l u j hg
    have hs := getN_split l u j hg
    split at h
    · cases h
    · split at h
      · cases h
      · rename_i h1 h2
        injection h with h3 h4
        have hl : t.length = (zag u).toNat := by rw [← h3, List.length_take, List.length_drop]; omega
        have hz : (t.length : Int) = zag u := by omega
        refine ⟨?_, by omega, by omega⟩
        unfold putT
        rw [hz, List.append_assoc]
        have e : l.drop j = t ++ l.drop k := by
          rw [← h3, ← h4, ← List.drop_drop, List.take_append_drop]
        rw [← e]
        exact hs
theorem progN_put (tit : List UInt8 → Bool) (t : List UInt8) (os : List O4) (ht : t.length ≤ 65536) (h : fitsB (tit t) os = true) : progN tit (encP t os) = some (t, os) := by
  obtain ⟨_, h1, h2, h3⟩ := (fitsB_iff _ _).1 h
  unfold progN encP
  rw [textN_put t _ ht]
  simp only
  have e : (putT t ++ (putN os.length ++ encOs os)).drop ((putN t.length).length + t.length) = putN os.length ++ encOs os := by
    have : (putT t).length = (putN t.length).length + t.length := by unfold putT; rw [List.length_append]
    rw [← this, List.drop_append_of_le_length (Nat.le_refl _), List.drop_length, List.nil_append]
  rw [e, rowsN_put os h1 h2 h3]
  simp only
  rw [if_pos h]
theorem progN_got {tit : List UInt8 → Bool} {l t : List UInt8} {os : List O4} (h : progN tit l = some (t, os)) : l = encP t os ∧ fitsB (tit t) os = true ∧ t.length ≤ 65536 := by
  unfold progN at h
  split at h
  · rename_i t' k ht
    obtain ⟨e1, e2, _⟩ := textN_got ht
    split at h
    · rename_i os' hr
      obtain ⟨e3, _, _⟩ := rowsN_got hr
      split at h
      · rename_i hf
        simp only [Option.some.injEq, Prod.mk.injEq] at h
        obtain ⟨rfl, rfl⟩ := h
        refine ⟨?_, hf, e2⟩
        unfold encP
        rw [← e3]
        exact e1
      · cases h
    · cases h
  · cases h
end Go.Proofs.Ytbmhdinaofepdaa
