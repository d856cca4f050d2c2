/- PLAIN: texts put together; a rune's bytes. THE WALK OF THE LAW RunesAt. -/
import Derived.Test.YtmmppglkdakdoaaRp
namespace Go.Proofs.Ytmmppglkdakdoaa
open Go.RowKit

/-! ### plain -/
set_option maxRecDepth 100000 in
set_option maxHeartbeats 2000000 in
theorem decodeN_more (n n' c0 c1 c2 c3 d1 d2 d3 : Nat) (hn : n ≤ n') (h1 : 1 < n → d1 = c1) (h2 : 2 < n → d2 = c2) (h3 : 3 < n → d3 = c3)
    (hok : (Lib.decodeN n c0 c1 c2 c3).1 ≠ 65533 ∨ (Lib.decodeN n c0 c1 c2 c3).2 = 3) : Lib.decodeN n' c0 d1 d2 d3 = Lib.decodeN n c0 c1 c2 c3 := by
  have key : ∀ m, 4 ≤ m → ∀ m', 4 ≤ m' → ∀ a b c, Lib.decodeN m c0 a b c = Lib.decodeN m' c0 a b c := by
    intro m hm m' hm' a b c
    have e1 : (1 < m) = True := by simp; omega
    have e2 : (2 < m) = True := by simp; omega
    have e3 : (3 < m) = True := by simp; omega
    have f1 : (1 < m') = True := by simp; omega
    have f2 : (2 < m') = True := by simp; omega
    have f3 : (3 < m') = True := by simp; omega
    simp only [Lib.decodeN, e1, e2, e3, f1, f2, f3]
  by_cases h4 : 4 ≤ n
  · rw [h1 (by omega), h2 (by omega), h3 (by omega)]
    exact key _ (by omega) _ h4 _ _ _
  · by_cases hx : 3 ≤ n
    · rw [h1 (by omega), h2 (by omega)]
      obtain rfl : n = 3 := by omega
      clear h1 h2 h3 key h4 hx
      unfold Lib.decodeN at hok ⊢
      repeat' split at hok
      all_goals repeat' split
      all_goals first | rfl | (exfalso; omega) | (simp at hok) | (apply Prod.ext <;> simp only <;> omega)
    · by_cases hy : 2 ≤ n
      · rw [h1 (by omega)]
        obtain rfl : n = 2 := by omega
        clear h1 h2 h3 key h4 hx hy
        unfold Lib.decodeN at hok ⊢
        repeat' split at hok
        all_goals repeat' split
        all_goals first | rfl | (exfalso; omega) | (simp at hok) | (apply Prod.ext <;> simp only <;> omega)
      · clear h1 h2 h3 key h4 hx
        unfold Lib.decodeN at hok ⊢
        repeat' split at hok
        all_goals repeat' split
        all_goals first | rfl | (exfalso; omega) | (simp at hok) | (apply Prod.ext <;> simp only <;> omega)

theorem get!_left (a b : ByteArray) (i : Nat) (h : i < a.size) : (a ++ b).get! i = a.get! i := by
  rw [get!_eq, get!_eq]
  have e : (a ++ b).data.toList = a.data.toList ++ b.data.toList := lst_append a b
  rw [e, List.getElem?_append_left (by rw [← size_len]; exact h)]

theorem dec_append (a b : ByteArray) (p : Nat) (h : p < a.size) (hok : okR (Utf8.decode a p) = true) : Utf8.decode (a ++ b) p = Utf8.decode a p := by
  rw [okR, Bool.or_eq_true, bne_iff_ne, beq_iff_eq] at hok
  rw [Lib.decode_at] at hok ⊢
  rw [Lib.decode_at a p, get!_left a b p h]
  refine decodeN_more _ _ _ _ _ _ _ _ _ (by rw [ByteArray.size_append]; omega) ?_ ?_ ?_ hok
  all_goals
    intro hn
    rw [get!_left a b _ (by omega)]

theorem extract_right (a b : ByteArray) : (a ++ b).extract a.size (a ++ b).size = b := by
  have e : lst ((a ++ b).extract a.size (a ++ b).size) = lst b := by
    rw [lst_extract, lst_append, List.take_of_length_le (by rw [List.length_append, lst_len, lst_len, ByteArray.size_append]; exact Nat.le_refl _), ← lst_len a]
    exact List.drop_left
  rw [of_lst ((a ++ b).extract a.size (a ++ b).size), e, ← of_lst]

theorem rnsAt_append (a b : ByteArray) : ∀ (n p : Nat), a.size - p ≤ n → p ≤ a.size → good (rnsAt a p) = true → rnsAt (a ++ b) p = rnsAt a p ++ rns b := by
  intro n
  induction n with
  | zero =>
    intro p h1 h2 _
    obtain rfl : p = a.size := by omega
    rw [rnsAt_end (s := a) (by omega), List.nil_append]
    have := rnsAt_tail (a ++ b) a.size 0
    rw [extract_right] at this
    exact this.symm
  | succ n ih =>
    intro p h1 h2 hg
    by_cases h : p < a.size
    · rw [rnsAt_step h] at hg ⊢
      rw [good, List.all_cons, Bool.and_eq_true] at hg
      have hd := dec_append a b p h hg.1
      have h3 := dec_fits a p h
      have h4 := dec_pos a p
      rw [rnsAt_step (by rw [ByteArray.size_append]; omega), hd, ih _ (by omega) h3 hg.2]
      rfl
    · obtain rfl : p = a.size := by omega
      rw [rnsAt_end (s := a) (by omega), List.nil_append]
      have := rnsAt_tail (a ++ b) a.size 0
      rw [extract_right] at this
      exact this.symm
/-- A text put together of two, the first of them valid, has their runes in order. -/
theorem rns_append (a b : ByteArray) (hg : good (rns a) = true) : rns (a ++ b) = rns a ++ rns b := rnsAt_append a b a.size 0 (by omega) (by omega) hg

theorem dec1 (x : UInt8) : Utf8.decode (⟨#[x]⟩ : ByteArray) 0 = Lib.decodeN 1 x.toNat 0 0 0 := decode0 _
theorem dec2 (x y : UInt8) : Utf8.decode (⟨#[x, y]⟩ : ByteArray) 0 = Lib.decodeN 2 x.toNat y.toNat 0 0 := decode0 _
theorem dec3 (x y z : UInt8) : Utf8.decode (⟨#[x, y, z]⟩ : ByteArray) 0 = Lib.decodeN 3 x.toNat y.toNat z.toNat 0 := decode0 _
theorem dec4 (x y z u : UInt8) : Utf8.decode (⟨#[x, y, z, u]⟩ : ByteArray) 0 = Lib.decodeN 4 x.toNat y.toNat z.toNat u.toNat := decode0 _
theorem u8_nat (n : Nat) (h : n < 256) : (UInt8.ofNat n).toNat = n := by simp; omega

/-- A rune's bytes are that rune's. -/
theorem dec_encode (r : Nat) (h : r ≤ 1114111 ∧ ¬ (55296 ≤ r ∧ r < 57344)) : Utf8.decode (Utf8.encode r) 0 = (r, (Utf8.encode r).size) := by
  have hv : Utf8.valid (r : Int) = true := by simp [Utf8.valid]; omega
  unfold Utf8.encode
  simp only [hv, if_true, Int.toNat_natCast]
  by_cases h1 : r < 128
  · rw [if_pos h1, dec1, u8_nat _ (by omega), Lib.decodeN, if_pos h1]; rfl
  · by_cases h2 : r < 2048
    · rw [if_neg h1, if_pos h2, dec2, u8_nat _ (by omega), u8_nat _ (by omega), Lib.decodeN, if_neg (by omega), if_pos (by omega), if_pos (by omega)]
      apply Prod.ext
      · simp only; omega
      · rfl
    · by_cases h3 : r < 65536
      · rw [if_neg h1, if_neg h2, if_pos h3, dec3, u8_nat _ (by omega), u8_nat _ (by omega), u8_nat _ (by omega), Lib.decodeN, if_neg (by omega), if_neg (by omega), if_pos (by omega), if_pos (by omega)]
        apply Prod.ext
        · simp only; omega
        · rfl
      · rw [if_neg h1, if_neg h2, if_neg h3, dec4, u8_nat _ (by omega), u8_nat _ (by omega), u8_nat _ (by omega), u8_nat _ (by omega), Lib.decodeN, if_neg (by omega), if_neg (by omega), if_neg (by omega), if_pos (by omega), if_pos (by omega)]
        apply Prod.ext
        · simp only; omega
        · rfl
theorem enc_size (r : Int) : 1 ≤ (Utf8.encode r).size ∧ (Utf8.encode r).size ≤ 4 := by
  unfold Utf8.encode
  simp only
  repeat' split
  all_goals simp [ByteArray.size_mk']
theorem rns_encode (r : Nat) (h : r ≤ 1114111 ∧ ¬ (55296 ≤ r ∧ r < 57344)) : rns (Utf8.encode r) = [(r, (Utf8.encode r).size)] := by
  have hs := enc_size r
  unfold rns
  rw [rnsAt_step (by omega), dec_encode r h, rnsAt_end (by omega)]
theorem enc_ok (r : Nat) (h : r ≤ 1114111 ∧ ¬ (55296 ≤ r ∧ r < 57344)) : okR (r, (Utf8.encode r).size) = true := by
  rw [okR, Bool.or_eq_true, bne_iff_ne, beq_iff_eq]
  by_cases hr : r = 65533
  · right; subst hr; decide
  · exact .inl hr
end Go.Proofs.Ytmmppglkdakdoaa
