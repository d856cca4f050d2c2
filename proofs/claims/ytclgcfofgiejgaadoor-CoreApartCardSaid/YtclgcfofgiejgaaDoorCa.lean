/- PLAIN: sums: CRC-32 bit by bit, by half bytes; that it is linear; that up to four changed bytes change it. -/
namespace Go.Proofs.YtclgcfofgiejgaaDoor

abbrev W32 := BitVec 32
def poly : W32 := 0xedb88320#32
/-- one bit of the division -/
def bit1 (c : W32) : W32 := if c.toNat % 2 = 1 then (c >>> 1) ^^^ poly else c >>> 1
def bits4 (c : W32) : W32 := bit1 (bit1 (bit1 (bit1 c)))
def byte8 (c : W32) : W32 := bits4 (bits4 c)
def ofB (b : UInt8) : W32 := BitVec.ofNat 32 b.toNat
/-- the rest behind some bytes -/
def crcL (c : W32) (l : List UInt8) : W32 := l.foldl (fun c b => byte8 (c ^^^ ofB b)) c
def sumL (l : List UInt8) : W32 := ~~~ (crcL (BitVec.allOnes 32) l)

theorem crcL_nil (c : W32) : crcL c [] = c := by unfold crcL; rw [List.foldl_nil]
theorem crcL_cons (c : W32) (b : UInt8) (l : List UInt8) : crcL c (b :: l) = crcL (byte8 (c ^^^ ofB b)) l := by unfold crcL; rw [List.foldl_cons]
theorem crcL_append (c : W32) (a b : List UInt8) : crcL c (a ++ b) = crcL (crcL c a) b := by unfold crcL; rw [List.foldl_append]
theorem crcL_snoc (c : W32) (a : List UInt8) (b : UInt8) : crcL c (a ++ [b]) = byte8 (crcL c a ^^^ ofB b) := by rw [crcL_append, crcL_cons, crcL_nil]
theorem sumL_append (a b : List UInt8) : ~~~ (crcL (~~~ (sumL a)) b) = sumL (a ++ b) := by
  unfold sumL; rw [BitVec.not_not, crcL_append]

/-! ### linear -/
theorem xor_parity (a b : W32) : (a ^^^ b).toNat % 2 = (a.toNat % 2 + b.toNat % 2) % 2 := by
  rw [BitVec.toNat_xor]
  have h := Nat.xor_mod_two_pow (a := a.toNat) (b := b.toNat) (n := 1)
  simp only [Nat.pow_one] at h
  rw [h]
  have ha : a.toNat % 2 = 0 ∨ a.toNat % 2 = 1 := by omega
  have hb : b.toNat % 2 = 0 ∨ b.toNat % 2 = 1 := by omega
  rcases ha with ha | ha <;> rcases hb with hb | hb <;> rw [ha, hb] <;> rfl
theorem bit1_xor (a b : W32) : bit1 (a ^^^ b) = bit1 a ^^^ bit1 b := by
  unfold bit1
  have hp := xor_parity a b
  have hs : (a ^^^ b) >>> 1 = (a >>> 1) ^^^ (b >>> 1) := by
    apply BitVec.eq_of_getLsbD_eq; intro i hi; simp
  rw [hp, hs]
  have ha : a.toNat % 2 = 0 ∨ a.toNat % 2 = 1 := by omega
  have hb : b.toNat % 2 = 0 ∨ b.toNat % 2 = 1 := by omega
  rcases ha with ha | ha <;> rcases hb with hb | hb <;> rw [ha, hb] <;> simp
  · rw [BitVec.xor_assoc]
  · rw [BitVec.xor_assoc, BitVec.xor_assoc, BitVec.xor_comm poly (b >>> 1)]
  · have : a >>> 1 ^^^ poly ^^^ (b >>> 1 ^^^ poly) = a >>> 1 ^^^ b >>> 1 ^^^ (poly ^^^ poly) := by ac_rfl
    rw [this]; simp
theorem bits4_xor (a b : W32) : bits4 (a ^^^ b) = bits4 a ^^^ bits4 b := by unfold bits4; rw [bit1_xor, bit1_xor, bit1_xor, bit1_xor]
theorem byte8_xor (a b : W32) : byte8 (a ^^^ b) = byte8 a ^^^ byte8 b := by unfold byte8; rw [bits4_xor, bits4_xor]
theorem ofB_xor (a b : UInt8) : ofB (a ^^^ b) = ofB a ^^^ ofB b := by
  unfold ofB
  apply BitVec.eq_of_toNat_eq
  have ha := a.toNat_lt; have hb := b.toNat_lt
  have hx : a.toNat ^^^ b.toNat < 2 ^ 8 := Nat.xor_lt_two_pow (by omega) (by omega)
  simp only [UInt8.toNat_xor, BitVec.toNat_xor, BitVec.toNat_ofNat]
  rw [Nat.mod_eq_of_lt (by omega), Nat.mod_eq_of_lt (by omega), Nat.mod_eq_of_lt (by omega)]
def zipX : List UInt8 → List UInt8 → List UInt8
  | a :: x, b :: y => (a ^^^ b) :: zipX x y
  | _, _ => []
theorem zipX_length : ∀ (a b : List UInt8), a.length = b.length → (zipX a b).length = a.length
  | [], [], _ => rfl
  | _ :: x, _ :: y, h => by simp only [zipX, List.length_cons]; rw [zipX_length x y (by simpa using h)]
theorem crcL_xor : ∀ (a b : List UInt8) (c d : W32), a.length = b.length → crcL (c ^^^ d) (zipX a b) = crcL c a ^^^ crcL d b
  | [], [], _, _, _ => by simp only [zipX, crcL_nil]
  | x :: a, y :: b, c, d, h => by
    simp only [zipX, crcL_cons]
    rw [ofB_xor, ← crcL_xor a b _ _ (by simpa using h), ← byte8_xor]
    congr 2
    ac_rfl
theorem sumL_three (a b c : List UInt8) (h1 : a.length = b.length) (h2 : a.length = c.length) : sumL (zipX (zipX a b) c) = sumL a ^^^ sumL b ^^^ sumL c := by
  unfold sumL
  have h : crcL (BitVec.allOnes 32) (zipX (zipX a b) c) = crcL (BitVec.allOnes 32) a ^^^ crcL (BitVec.allOnes 32) b ^^^ crcL (BitVec.allOnes 32) c := by
    rw [← crcL_xor a b _ _ h1, ← crcL_xor _ _ _ _ (by rw [zipX_length a b h1]; exact h2)]
    simp
  rw [h]
  apply BitVec.eq_of_getLsbD_eq
  intro i hi
  simp [hi]

/-! ### no rest is lost -/
theorem bit1_zero (c : W32) (h : bit1 c = 0#32) : c = 0#32 := by
  unfold bit1 at h
  by_cases hc : c.toNat % 2 = 1
  · rw [if_pos hc] at h
    have e : c >>> 1 = poly := by
      have := congrArg (· ^^^ poly) h
      simpa [BitVec.xor_assoc] using this
    have e2 := congrArg BitVec.toNat e
    have hl := c.isLt
    simp [poly, Nat.shiftRight_eq_div_pow] at e2
    omega
  · rw [if_neg hc] at h
    have e2 := congrArg BitVec.toNat h
    simp [Nat.shiftRight_eq_div_pow] at e2
    apply BitVec.eq_of_toNat_eq
    simp
    omega
theorem byte8_zero (c : W32) (h : byte8 c = 0#32) : c = 0#32 := by
  unfold byte8 bits4 at h
  exact bit1_zero _ (bit1_zero _ (bit1_zero _ (bit1_zero _ (bit1_zero _ (bit1_zero _ (bit1_zero _ (bit1_zero _ h)))))))
theorem xor_eq_zero {a b : W32} (h : a ^^^ b = 0#32) : a = b := by
  have := congrArg (· ^^^ b) h
  simpa [BitVec.xor_assoc] using this
theorem byte8_inj {a b : W32} (h : byte8 a = byte8 b) : a = b := by
  apply xor_eq_zero
  apply byte8_zero
  rw [byte8_xor, h, BitVec.xor_self]
theorem crcL_inj : ∀ (l : List UInt8) {a b : W32}, crcL a l = crcL b l → a = b
  | [], _, _, h => by rw [crcL_nil, crcL_nil] at h; exact h
  | x :: l, a, b, h => by
    rw [crcL_cons, crcL_cons] at h
    have := byte8_inj (crcL_inj l h)
    have h2 := congrArg (· ^^^ ofB x) this
    simpa [BitVec.xor_assoc] using h2

/-! ### up to four bytes -/
theorem bit1_shl (d : W32) (h : d.toNat < 2 ^ 31) : bit1 (d <<< 1) = d := by
  unfold bit1
  have e : (d <<< 1).toNat = 2 * d.toNat := by
    simp only [BitVec.toNat_shiftLeft, Nat.shiftLeft_eq]; omega
  rw [if_neg (by omega)]
  apply BitVec.eq_of_toNat_eq
  rw [BitVec.toNat_ushiftRight, e, Nat.shiftRight_eq_div_pow]; omega
theorem shl_toNat (d : W32) (k : Nat) (h : d.toNat * 2 ^ k < 2 ^ 32) : (d <<< k).toNat = d.toNat * 2 ^ k := by
  simp only [BitVec.toNat_shiftLeft, Nat.shiftLeft_eq]; exact Nat.mod_eq_of_lt h
theorem bits4_shl (d : W32) (h : d.toNat < 2 ^ 28) : bits4 (d <<< 4) = d := by
  have e1 : d <<< 4 = (d <<< 3) <<< 1 := by rw [← BitVec.shiftLeft_add]
  have e2 : d <<< 3 = (d <<< 2) <<< 1 := by rw [← BitVec.shiftLeft_add]
  have e3 : d <<< 2 = (d <<< 1) <<< 1 := by rw [← BitVec.shiftLeft_add]
  unfold bits4
  rw [e1, bit1_shl _ (by rw [shl_toNat] <;> omega), e2, bit1_shl _ (by rw [shl_toNat] <;> omega), e3, bit1_shl _ (by rw [shl_toNat] <;> omega), bit1_shl _ (by omega)]
theorem byte8_shl (d : W32) (h : d.toNat < 2 ^ 24) : byte8 (d <<< 8) = d := by
  have e1 : d <<< 8 = (d <<< 4) <<< 4 := by rw [← BitVec.shiftLeft_add]
  unfold byte8
  rw [e1, bits4_shl _ (by rw [shl_toNat] <;> omega), bits4_shl _ (by omega)]
/-- some bytes as a number, the first one the least -/
def wordL : List UInt8 → Nat
  | [] => 0
  | b :: l => b.toNat + 256 * wordL l
theorem wordL_lt : ∀ l : List UInt8, wordL l < 256 ^ l.length
  | [] => by simp [wordL]
  | b :: l => by
    have := wordL_lt l
    have hb := b.toNat_lt
    simp only [wordL, List.length_cons, Nat.pow_succ]
    omega
theorem wordL_zero : ∀ l : List UInt8, wordL l = 0 → ∀ b ∈ l, b = 0
  | [], _, _, h => by cases h
  | x :: l, h, b, hb => by
    simp only [wordL] at h
    rcases List.mem_cons.1 hb with rfl | hb
    · exact UInt8.toNat_inj.1 (by simp; omega)
    · exact wordL_zero l (by omega) b hb
theorem byte8_split (b : UInt8) (d : Nat) (h : d < 2 ^ 24) : byte8 (BitVec.ofNat 32 (b.toNat + 256 * d)) = byte8 (ofB b) ^^^ BitVec.ofNat 32 d := by
  have hb := b.toNat_lt
  have e : BitVec.ofNat 32 (b.toNat + 256 * d) = ofB b ^^^ (BitVec.ofNat 32 d <<< 8) := by
    apply BitVec.eq_of_toNat_eq
    rw [BitVec.toNat_xor, shl_toNat _ _ (by simp; omega)]
    simp only [BitVec.toNat_ofNat, ofB]
    rw [Nat.mod_eq_of_lt (show b.toNat + 256 * d < 2 ^ 32 by omega), Nat.mod_eq_of_lt (show b.toNat < 2 ^ 32 by omega), Nat.mod_eq_of_lt (show d < 2 ^ 32 by omega)]
    apply Nat.eq_of_testBit_eq
    intro i
    rw [Nat.testBit_xor, show b.toNat + 256 * d = 2 ^ 8 * d + b.toNat by omega, Nat.testBit_two_pow_mul_add _ (by omega), Nat.mul_comm d, Nat.testBit_two_pow_mul]
    by_cases hi : i < 8
    · simp [hi, Nat.not_le.2 hi]
    · have : b.toNat.testBit i = false := Nat.testBit_lt_two_pow (Nat.lt_of_lt_of_le (show b.toNat < 2 ^ 8 by omega) (Nat.pow_le_pow_right (by omega) (by omega)))
      simp [hi, this, show 8 ≤ i by omega]
  rw [e, byte8_xor, byte8_shl _ (by simp; omega)]
def byteN : Nat → W32 → W32
  | 0, c => c
  | n + 1, c => byteN n (byte8 c)
theorem byteN_zero : ∀ (n : Nat) (c : W32), byteN n c = 0#32 → c = 0#32
  | 0, _, h => h
  | n + 1, c, h => byte8_zero c (byteN_zero n _ h)
theorem byteN_xor : ∀ (n : Nat) (a b : W32), byteN n (a ^^^ b) = byteN n a ^^^ byteN n b
  | 0, _, _ => rfl
  | n + 1, a, b => by simp only [byteN]; rw [byte8_xor, byteN_xor n]
theorem crcL_word : ∀ (l : List UInt8) (c : W32), l.length ≤ 4 → crcL c l = byteN l.length (c ^^^ BitVec.ofNat 32 (wordL l))
  | [], c, _ => by simp [crcL_nil, byteN, wordL]
  | b :: l, c, h => by
    have hl : l.length ≤ 3 := by simpa using h
    have hw := wordL_lt l
    have hw2 : wordL l < 2 ^ 24 := Nat.lt_of_lt_of_le hw (by
      have : 256 ^ l.length ≤ 256 ^ 3 := Nat.pow_le_pow_right (by omega) hl
      simpa using this)
    rw [crcL_cons, crcL_word l _ (by omega)]
    simp only [List.length_cons, byteN, wordL]
    congr 1
    rw [byte8_xor c, byte8_xor c, byte8_split b _ hw2, BitVec.xor_assoc]
theorem crcL_burst (x : List UInt8) (h : x.length ≤ 4) (hx : ∃ b ∈ x, b ≠ 0) : crcL 0#32 x ≠ 0#32 := by
  intro e
  rw [crcL_word x _ h] at e
  have e2 := byteN_zero _ _ e
  simp only [BitVec.zero_xor] at e2
  have e3 := congrArg BitVec.toNat e2
  have hw := wordL_lt x
  have hw2 : wordL x < 2 ^ 32 := Nat.lt_of_lt_of_le hw (by
    have : 256 ^ x.length ≤ 256 ^ 4 := Nat.pow_le_pow_right (by omega) h
    simpa using this)
  simp only [BitVec.toNat_ofNat] at e3
  rw [Nat.mod_eq_of_lt hw2] at e3
  obtain ⟨b, hb, hne⟩ := hx
  exact hne (wordL_zero x (by simpa using e3) b hb)
/-- the text of which the bytes from 'at' on are changed by x -/
theorem sumL_burst (p s t x : List UInt8) (hl : s.length = x.length) (h : x.length ≤ 4) (hx : ∃ b ∈ x, b ≠ 0) : sumL (p ++ s ++ t) ≠ sumL (p ++ zipX s x ++ t) := by
  unfold sumL
  intro e
  have e1 : crcL (BitVec.allOnes 32) (p ++ s ++ t) = crcL (BitVec.allOnes 32) (p ++ zipX s x ++ t) := by
    have := congrArg (~~~ ·) e
    simpa using this
  rw [crcL_append, crcL_append, crcL_append, crcL_append] at e1
  have e2 := crcL_inj t e1
  have e3 := crcL_xor s x (crcL (BitVec.allOnes 32) p) 0#32 hl
  rw [BitVec.xor_zero] at e3
  rw [e3] at e2
  apply crcL_burst x h hx
  have := congrArg (crcL (crcL (BitVec.allOnes 32) p) s ^^^ ·) e2
  rw [BitVec.xor_self, ← BitVec.xor_assoc, BitVec.xor_self, BitVec.zero_xor] at this
  exact this.symm

/-! ### by half bytes -/
def tabN : Nat → W32
  | 0 => 0 | 1 => 498536548 | 2 => 997073096 | 3 => 651767980 | 4 => 1994146192 | 5 => 1802195444 | 6 => 1303535960 | 7 => 1342533948
  | 8 => 3988292384 | 9 => 4027552580 | 10 => 3604390888 | 11 => 3412177804 | 12 => 2607071920 | 13 => 2262029012 | 14 => 2685067896 | _ => 3183342108
def halfT (c : W32) : W32 := (c >>> 4) ^^^ tabN (c.toNat % 16)
theorem tab_bits4 : ∀ i : Fin 16, bits4 (BitVec.ofNat 32 i.val) = tabN i.val := by decide
theorem halfT_bits4 (c : W32) : halfT c = bits4 c := by
  have e : c = BitVec.ofNat 32 (c.toNat % 16) ^^^ ((c >>> 4) <<< 4) := by
    apply BitVec.eq_of_toNat_eq
    have hc := c.isLt
    rw [BitVec.toNat_xor, shl_toNat _ _ (by rw [BitVec.toNat_ushiftRight, Nat.shiftRight_eq_div_pow]; omega)]
    simp only [BitVec.toNat_ofNat, BitVec.toNat_ushiftRight, Nat.shiftRight_eq_div_pow]
    rw [Nat.mod_eq_of_lt (show c.toNat % 16 < 2 ^ 32 by omega)]
    apply Nat.eq_of_testBit_eq
    intro i
    rw [Nat.testBit_xor, Nat.mul_comm, Nat.testBit_two_pow_mul, Nat.testBit_div_two_pow]
    have h16 : c.toNat % 16 = c.toNat % 2 ^ 4 := rfl
    rw [h16, Nat.testBit_mod_two_pow]
    by_cases hi : i < 4
    · simp [hi, Nat.not_le.2 hi]
    · simp [hi, show 4 ≤ i by omega, show i - 4 + 4 = i by omega]
  have h2 : bits4 c = bits4 (BitVec.ofNat 32 (c.toNat % 16)) ^^^ bits4 ((c >>> 4) <<< 4) := by
    rw [← bits4_xor, ← e]
  rw [h2, bits4_shl _ (by rw [BitVec.toNat_ushiftRight, Nat.shiftRight_eq_div_pow]; have := c.isLt; omega)]
  have h3 := tab_bits4 ⟨c.toNat % 16, by omega⟩
  simp only at h3
  rw [h3, BitVec.xor_comm]
  rfl
end Go.Proofs.YtclgcfofgiejgaaDoor
