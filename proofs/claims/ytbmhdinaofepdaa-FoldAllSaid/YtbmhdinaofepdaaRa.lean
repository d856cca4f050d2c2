/- PLAIN FACTS ON RUNES OF A TEXT: no program here. 'rns s': the runes of s and their widths, by the model's own decoder, one behind the other. -/
import Derived.Laws.RangeAny
import Derived.Lib.DecodeN
namespace Go.Proofs.Ytbmhdinaofepdaa

/-! ### the decoder at a place -/
theorem dec_pos (s : ByteArray) (p : Nat) : 1 ≤ (Utf8.decode s p).2 := by
  rw [Lib.decode_at]; unfold Lib.decodeN
  repeat' split
  all_goals simp

theorem dec_fits (s : ByteArray) (p : Nat) (h : p < s.size) : p + (Utf8.decode s p).2 ≤ s.size := by
  rw [Lib.decode_at]; unfold Lib.decodeN
  repeat' split
  all_goals simp only
  all_goals omega

theorem get!_eq (s : ByteArray) (i : Nat) : s.get! i = (s.data.toList[i]?).getD 0 := by
  show s.data[i]! = _
  rw [getElem!_def]
  simp [Array.getElem?_toList]
  rcases s.data[i]? with _ | x <;> rfl

theorem data_extract (s : ByteArray) (a b : Nat) : (s.extract a b).data.toList = (s.data.toList.take b).drop a := by
  simp [ByteArray.data_extract, Array.toList_extract, List.drop_take]

theorem size_len (s : ByteArray) : s.size = s.data.toList.length := (Array.length_toList).symm

theorem get!_tail (s : ByteArray) (p q : Nat) : (s.extract p s.size).get! q = s.get! (p + q) := by
  rw [get!_eq, get!_eq, data_extract]
  rw [List.getElem?_drop, List.getElem?_take]
  by_cases h : p + q < s.size
  · rw [if_pos h]
  · rw [if_neg h, List.getElem?_eq_none (by rw [← size_len]; omega)]

theorem size_tail (s : ByteArray) (p : Nat) : (s.extract p s.size).size = s.size - p := by
  simp [ByteArray.size_extract]

theorem dec_tail (s : ByteArray) (p q : Nat) : Utf8.decode (s.extract p s.size) q = Utf8.decode s (p + q) := by
  simp only [Lib.decode_at, get!_tail, size_tail, Nat.add_assoc, Nat.sub_sub]

/-! ### the runes of a text -/
def scan (s : ByteArray) : Nat → Nat → List (Nat × Nat)
  | 0, _ => []
  | f + 1, p => if p < s.size then Utf8.decode s p :: scan s f (p + (Utf8.decode s p).2) else []

/-- The runes from place p on. -/
def rnsAt (s : ByteArray) (p : Nat) : List (Nat × Nat) := scan s (s.size - p) p
def rns (s : ByteArray) : List (Nat × Nat) := rnsAt s 0

theorem scan_more (s : ByteArray) : ∀ (f g p : Nat), s.size - p ≤ f → s.size - p ≤ g → scan s f p = scan s g p := by
  intro f
  induction f with
  | zero =>
    intro g p hf _
    cases g with
    | zero => rfl
    | succ g => simp only [scan]; rw [if_neg (by omega)]
  | succ f ih =>
    intro g p hf hg
    cases g with
    | zero => simp only [scan]; rw [if_neg (by omega)]
    | succ g =>
      simp only [scan]
      split
      · have := dec_pos s p
        rw [ih g _ (by omega) (by omega)]
      · rfl

theorem rnsAt_end {s : ByteArray} {p : Nat} (h : ¬ p < s.size) : rnsAt s p = [] := by
  unfold rnsAt
  rw [show s.size - p = 0 by omega]
  rfl

theorem rnsAt_step {s : ByteArray} {p : Nat} (h : p < s.size) : rnsAt s p = Utf8.decode s p :: rnsAt s (p + (Utf8.decode s p).2) := by
  unfold rnsAt
  have := dec_pos s p
  obtain ⟨f, hf⟩ : ∃ f, s.size - p = f + 1 := ⟨s.size - p - 1, by omega⟩
  rw [hf]
  simp only [scan]
  rw [if_pos h, scan_more s f (s.size - (p + (Utf8.decode s p).2)) _ (by omega) (by omega)]

theorem scan_tail (s : ByteArray) (p : Nat) : ∀ (f q : Nat), scan (s.extract p s.size) f q = scan s f (p + q) := by
  intro f
  induction f with
  | zero => intro q; rfl
  | succ f ih =>
    intro q
    simp only [scan, size_tail, dec_tail, ih]
    by_cases h : p + q < s.size
    · rw [if_pos h, if_pos (by omega), Nat.add_assoc]
    · rw [if_neg h, if_neg (by omega)]

theorem rnsAt_tail (s : ByteArray) (p q : Nat) : rnsAt (s.extract p s.size) q = rnsAt s (p + q) := by
  unfold rnsAt
  rw [size_tail, scan_tail, Nat.sub_sub]

theorem rns_step {s : ByteArray} (h : 0 < s.size) : rns s = Utf8.decode s 0 :: rns (s.extract (Utf8.decode s 0).2 s.size) := by
  unfold rns
  rw [rnsAt_step h, rnsAt_tail]
  simp

theorem rns_nil {s : ByteArray} (h : s.size = 0) : rns s = [] := rnsAt_end (by omega)

theorem rnsAt_len (s : ByteArray) : ∀ (n p : Nat), s.size - p ≤ n → p ≤ s.size → p + (rnsAt s p).length ≤ s.size := by
  intro n
  induction n with
  | zero => intro p h1 h2; rw [rnsAt_end (by omega)]; simpa using h2
  | succ n ih =>
    intro p h1 h2
    by_cases h : p < s.size
    · rw [rnsAt_step h, List.length_cons]
      have h3 := dec_fits s p h
      have h4 := dec_pos s p
      have := ih (p + (Utf8.decode s p).2) (by omega) h3
      omega
    · rw [rnsAt_end h]; simpa using h2

theorem rns_len (s : ByteArray) : (rns s).length ≤ s.size := by
  have := rnsAt_len s s.size 0 (by omega) (by omega)
  unfold rns; omega

/-- One rune stands as it is: no byte that is no UTF-8. -/
def okR (x : Nat × Nat) : Bool := x.1 != 65533 || x.2 == 3
def good (l : List (Nat × Nat)) : Bool := l.all okR
def plainR (l : List (Nat × Nat)) : Bool := l.all fun x => !(decide (x.1 < 32) || x.1 == 127)
def titB (s : ByteArray) : Bool := good (rns s) && (decide (1 ≤ (rns s).length) && decide ((rns s).length ≤ 20)) && plainR (rns s)
/-- The n-th rune; 0: there is none. -/
def atR (s : ByteArray) (n : Int) : Int := if 0 ≤ n then (((rns s)[n.toNat]?).map fun x => (x.1 : Int)).getD 0 else 0

end Go.Proofs.Ytbmhdinaofepdaa
