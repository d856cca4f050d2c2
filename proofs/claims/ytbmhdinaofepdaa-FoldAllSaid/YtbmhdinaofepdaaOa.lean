/- PLAIN: programs as bytes. -/
import Derived.Test.YtbmhdinaofepdaaNa
namespace Go.Proofs.Ytbmhdinaofepdaa

/-- an operation: its code, its three numbers -/
structure O4 where
  k : Int
  a : Int
  b : Int
  c : Int
def sml (n : Int) : Prop := -2147483648 ≤ n ∧ n ≤ 2147483647
theorem sml_in {n : Int} (h : sml n) : in64 n := by unfold sml at h; unfold in64; omega
def smlO (o : O4) : Prop := sml o.k ∧ sml o.a ∧ sml o.b ∧ sml o.c
def encO (o : O4) : List UInt8 := putN o.k ++ (putN o.a ++ (putN o.b ++ putN o.c))
def encOs : List O4 → List UInt8
  | [] => []
  | o :: r => encO o ++ encOs r
theorem encOs_nil : encOs [] = [] := by rw [encOs]
theorem encOs_cons (o : O4) (r : List O4) : encOs (o :: r) = encO o ++ encOs r := by rw [encOs]
theorem encOs_append (x y : List O4) : encOs (x ++ y) = encOs x ++ encOs y := by
  induction x with
  | nil => rw [encOs_nil]; rfl
  | cons o r ih => rw [List.cons_append, encOs_cons, encOs_cons, ih, List.append_assoc]
theorem encOs_snoc (x : List O4) (o : O4) : encOs (x ++ [o]) = encOs x ++ encO o := by rw [encOs_append, encOs_cons, encOs_nil, List.append_nil]
/-- a text with its length ahead -/
def putT (t : List UInt8) : List UInt8 := putN t.length ++ t
def encP (t : List UInt8) (os : List O4) : List UInt8 := putT t ++ (putN os.length ++ encOs os)
theorem encO_len (o : O4) (h : smlO o) : (encO o).length ≤ 40 := by
  unfold encO
  have h1 := putN_len _ (sml_in h.1)
  have h2 := putN_len _ (sml_in h.2.1)
  have h3 := putN_len _ (sml_in h.2.2.1)
  have h4 := putN_len _ (sml_in h.2.2.2)
  simp only [List.length_append]
  omega
theorem encOs_len (os : List O4) (h : ∀ o ∈ os, smlO o) : (encOs os).length ≤ 40 * os.length := by
  induction os with
  | nil => rw [encOs_nil]; simp
  | cons o r ih =>
    have h1 := encO_len o (h o (by simp))
    have h2 := ih (fun x hx => h x (by simp [hx]))
    rw [encOs_cons, List.length_append, List.length_cons]; omega
theorem len_in {α : Type} (t : List α) (h : t.length ≤ 9223372036854775807) : in64 t.length := by unfold in64; omega
theorem encP_len (t : List UInt8) (os : List O4) (ht : t.length ≤ 9223372036854775807) (ho : os.length ≤ 9223372036854775807) (h : ∀ o ∈ os, smlO o) : (encP t os).length ≤ 20 + t.length + 40 * os.length := by
  unfold encP putT
  have h1 := putN_len _ (len_in t ht)
  have h2 := putN_len _ (len_in os ho)
  have h3 := encOs_len os h
  simp only [List.length_append]
  omega
theorem encO_pos (o : O4) : 0 < (encO o).length := by
  unfold encO
  have := putN_pos o.k
  simp only [List.length_append]; omega
theorem encP_pos (t : List UInt8) (os : List O4) : 0 < (encP t os).length := by
  unfold encP putT
  have := putN_pos t.length
  simp only [List.length_append]; omega

/-! ### no program's bytes begin another's -/
theorem encO_apart (o p : O4) (r s : List UInt8) (ho : smlO o) (hp : smlO p) (h : encO o ++ r = encO p ++ s) : o = p ∧ r = s := by
  unfold encO at h
  simp only [List.append_assoc] at h
  obtain ⟨h1, g1⟩ := putN_apart _ _ _ _ (sml_in ho.1) (sml_in hp.1) h
  obtain ⟨h2, g2⟩ := putN_apart _ _ _ _ (sml_in ho.2.1) (sml_in hp.2.1) g1
  obtain ⟨h3, g3⟩ := putN_apart _ _ _ _ (sml_in ho.2.2.1) (sml_in hp.2.2.1) g2
  obtain ⟨h4, g4⟩ := putN_apart _ _ _ _ (sml_in ho.2.2.2) (sml_in hp.2.2.2) g3
  cases o; cases p
  simp only at h1 h2 h3 h4
  subst h1 h2 h3 h4
  exact ⟨rfl, g4⟩
theorem encOs_apart : ∀ (x y : List O4) (r s : List UInt8), x.length = y.length → (∀ o ∈ x, smlO o) → (∀ o ∈ y, smlO o) → encOs x ++ r = encOs y ++ s → x = y ∧ r = s
  | [], [], r, s, _, _, _, h => by rw [encOs_nil] at h; exact ⟨rfl, h⟩
  | o :: x, p :: y, r, s, hl, hx, hy, h => by
    rw [encOs_cons, encOs_cons, List.append_assoc, List.append_assoc] at h
    obtain ⟨e1, g1⟩ := encO_apart o p _ _ (hx o (by simp)) (hy p (by simp)) h
    obtain ⟨e2, g2⟩ := encOs_apart x y r s (by simpa using hl) (fun q hq => hx q (by simp [hq])) (fun q hq => hy q (by simp [hq])) g1
    exact ⟨by rw [e1, e2], g2⟩
theorem putT_apart (t u : List UInt8) (r s : List UInt8) (ht : t.length ≤ 9223372036854775807) (hu : u.length ≤ 9223372036854775807) (h : putT t ++ r = putT u ++ s) : t = u ∧ r = s := by
  unfold putT at h
  rw [List.append_assoc, List.append_assoc] at h
  obtain ⟨h1, h⟩ := putN_apart _ _ _ _ (len_in t ht) (len_in u hu) h
  exact List.append_inj h (by omega)
theorem encP_apart (t u : List UInt8) (x y : List O4) (r s : List UInt8) (ht : t.length ≤ 9223372036854775807) (hu : u.length ≤ 9223372036854775807) (hx : x.length ≤ 9223372036854775807) (hy : y.length ≤ 9223372036854775807)
    (kx : ∀ o ∈ x, smlO o) (ky : ∀ o ∈ y, smlO o) (h : encP t x ++ r = encP u y ++ s) : t = u ∧ x = y ∧ r = s := by
  unfold encP at h
  rw [List.append_assoc, List.append_assoc, List.append_assoc, List.append_assoc] at h
  obtain ⟨e1, g1⟩ := putT_apart t u _ _ ht hu h
  obtain ⟨e2, g2⟩ := putN_apart _ _ _ _ (len_in x hx) (len_in y hy) g1
  obtain ⟨e3, g3⟩ := encOs_apart x y r s (by omega) kx ky g2
  exact ⟨e1, e3, g3⟩
theorem encP_inj (t u : List UInt8) (x y : List O4) (ht : t.length ≤ 9223372036854775807) (hu : u.length ≤ 9223372036854775807) (hx : x.length ≤ 9223372036854775807) (hy : y.length ≤ 9223372036854775807)
    (kx : ∀ o ∈ x, smlO o) (ky : ∀ o ∈ y, smlO o) (h : encP t x = encP u y) : t = u ∧ x = y := by
  obtain ⟨h1, h2, _⟩ := encP_apart t u x y [] [] ht hu hx hy kx ky (by rw [List.append_nil, List.append_nil]; exact h)
  exact ⟨h1, h2⟩
end Go.Proofs.Ytbmhdinaofepdaa
