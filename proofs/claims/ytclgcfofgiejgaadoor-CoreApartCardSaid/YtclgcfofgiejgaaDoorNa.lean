/- PLAIN: numbers as bytes, seven bits a byte, the lowest first; reading them back. Stands alone. -/
namespace Go.Proofs.YtclgcfofgiejgaaDoor

def zig (n : Int) : Nat := if n < 0 then 2 * (-(n + 1)).toNat + 1 else 2 * n.toNat
def zag (u : Nat) : Int := if u % 2 = 1 then -((u / 2 : Nat) : Int) - 1 else ((u / 2 : Nat) : Int)
theorem zag_zig (n : Int) : zag (zig n) = n := by unfold zag zig; split <;> split <;> omega
theorem zig_zag (u : Nat) : zig (zag u) = u := by unfold zag zig; split <;> split <;> omega
/-- fits in 64 bits -/
def in64 (n : Int) : Prop := -9223372036854775808 ≤ n ∧ n ≤ 9223372036854775807
theorem zig_lt (n : Int) (h : in64 n) : zig n < 18446744073709551616 := by unfold in64 at h; unfold zig; split <;> omega
theorem zag_in (u : Nat) (h : u < 18446744073709551616) : in64 (zag u) := by unfold in64 zag; split <;> omega

def putU (u : Nat) : List UInt8 := if h : u < 128 then [UInt8.ofNat u] else UInt8.ofNat (u % 128 + 128) :: putU (u / 128)
termination_by u
decreasing_by omega
theorem putU_small (u : Nat) (h : u < 128) : putU u = [UInt8.ofNat u] := by rw [putU, dif_pos h]
theorem putU_big (u : Nat) (h : ¬ u < 128) : putU u = UInt8.ofNat (u % 128 + 128) :: putU (u / 128) := by rw [putU, dif_neg h]
theorem putU_pos (u : Nat) : 0 < (putU u).length := by rw [putU]; split <;> simp
theorem putU_len (u : Nat) : ∀ k, u < 128 ^ k → 0 < k → (putU u).length ≤ k := by
  induction u using Nat.strongRecOn with
  | _ u ih =>
    intro k hk h0
    by_cases h : u < 128
    · rw [putU_small u h]; simp; omega
    · rw [putU_big u h, List.length_cons]
      obtain ⟨j, rfl⟩ : ∃ j, k = j + 1 := ⟨k - 1, by omega⟩
      rw [Nat.pow_succ] at hk
      have hj : 0 < j := by
        rcases Nat.eq_zero_or_pos j with rfl | h1
        · simp at hk; omega
        · exact h1
      have := ih (u / 128) (by omega) j (by omega) hj
      omega
def putN (n : Int) : List UInt8 := putU (zig n)
theorem putN_len (n : Int) (h : in64 n) : (putN n).length ≤ 10 :=
  putU_len _ 10 (Nat.lt_of_lt_of_le (zig_lt n h) (by decide)) (by decide)
theorem putN_pos (n : Int) : 0 < (putN n).length := putU_pos _

inductive Got where
  | more
  | form
  | ok (u k : Nat)
/-- the number that begins in l, of which u stands in the i bytes ahead -/
def gLoop : Nat → Nat → List UInt8 → Got
  | _, _, [] => .more
  | i, u, c :: r => if (i = 9 ∧ 1 < c.toNat) ∨ (0 < i ∧ c.toNat = 0) then .form else if c.toNat < 128 then .ok (u + c.toNat * 128 ^ i) (i + 1) else gLoop (i + 1) (u + (c.toNat - 128) * 128 ^ i) r
theorem gLoop_nil (i u : Nat) : gLoop i u [] = .more := by rw [gLoop]
theorem gLoop_bad (i u : Nat) (c : UInt8) (r : List UInt8) (h : (i = 9 ∧ 1 < c.toNat) ∨ (0 < i ∧ c.toNat = 0)) : gLoop i u (c :: r) = .form := by rw [gLoop, if_pos h]
theorem gLoop_end (i u : Nat) (c : UInt8) (r : List UInt8) (h : ¬ ((i = 9 ∧ 1 < c.toNat) ∨ (0 < i ∧ c.toNat = 0))) (hc : c.toNat < 128) : gLoop i u (c :: r) = .ok (u + c.toNat * 128 ^ i) (i + 1) := by rw [gLoop, if_neg h, if_pos hc]
theorem gLoop_go (i u : Nat) (c : UInt8) (r : List UInt8) (h : ¬ ((i = 9 ∧ 1 < c.toNat) ∨ (0 < i ∧ c.toNat = 0))) (hc : ¬ c.toNat < 128) : gLoop i u (c :: r) = gLoop (i + 1) (u + (c.toNat - 128) * 128 ^ i) r := by rw [gLoop, if_neg h, if_neg hc]

theorem ofNat_nat (u : Nat) (h : u < 256) : (UInt8.ofNat u).toNat = u := by rw [UInt8.toNat_ofNat']; omega

/-- what was put is read, whatever stands behind -/
theorem gLoop_put (v : Nat) : ∀ (i u : Nat) (r : List UInt8), i ≤ 9 → v * 128 ^ i < 18446744073709551616 → (0 < i → 0 < v) → gLoop i u (putU v ++ r) = .ok (u + v * 128 ^ i) (i + (putU v).length) := by
  induction v using Nat.strongRecOn with
  | _ v ih =>
    intro i u r hi hv h0
    have h9 : i = 9 → v ≤ 1 := fun h => by
      subst h
      have e : (128 : Nat) ^ 9 = 9223372036854775808 := by decide
      rw [e] at hv; omega
    by_cases h : v < 128
    · rw [putU_small v h]
      have hc := ofNat_nat v (by omega)
      show gLoop i u (UInt8.ofNat v :: r) = _
      rw [gLoop_end i u _ r (by rw [hc]; omega) (by rw [hc]; exact h), hc]
      rfl
    · rw [putU_big v h]
      have hc := ofNat_nat (v % 128 + 128) (by omega)
      have hi8 : i ≤ 8 := by
        rcases Nat.lt_or_ge i 9 with h1 | h1
        · omega
        · have := h9 (by omega); omega
      show gLoop i u (UInt8.ofNat (v % 128 + 128) :: (putU (v / 128) ++ r)) = _
      have e : v * 128 ^ i = (v % 128) * 128 ^ i + v / 128 * 128 ^ (i + 1) := by
        rw [Nat.pow_succ, Nat.mul_comm (128 ^ i) 128, ← Nat.mul_assoc, ← Nat.add_mul]
        congr 1; omega
      rw [gLoop_go i u _ _ (by rw [hc]; omega) (by rw [hc]; omega), hc, Nat.add_sub_cancel, ih (v / 128) (by omega) (i + 1) _ r (by omega) (by omega) (fun _ => by omega), List.length_cons]
      congr 1 <;> omega
/-- what is read was put so, and nothing else -/
theorem gLoop_got (l : List UInt8) : ∀ (i u x k : Nat), i ≤ 9 → gLoop i u l = .ok x k → ∃ v, x = u + v * 128 ^ i ∧ v * 128 ^ i < 18446744073709551616 ∧ (0 < i → 0 < v) ∧ k = i + (putU v).length ∧ l.take (putU v).length = putU v ∧ (putU v).length ≤ l.length := by
  induction l with
  | nil => intro i u x k _ h; rw [gLoop_nil] at h; cases h
  | cons c r ih =>
    intro i u x k hi h
    have hlt := c.toNat_lt
    by_cases hb : (i = 9 ∧ 1 < c.toNat) ∨ (0 < i ∧ c.toNat = 0)
    · rw [gLoop_bad i u c r hb] at h; cases h
    by_cases hc : c.toNat < 128
    · rw [gLoop_end i u c r hb hc] at h
      injection h with h1 h2
      have hp : putU c.toNat = [c] := by rw [putU_small _ hc, UInt8.ofNat_toNat]
      refine ⟨c.toNat, h1.symm, ?_, fun h => by omega, by rw [hp]; exact h2.symm, by rw [hp]; rfl, by rw [hp]; simp⟩
      have hm : c.toNat * 128 ^ i ≤ (if i = 9 then 1 else 127) * 128 ^ i := Nat.mul_le_mul_right _ (by split <;> omega)
      by_cases h9 : i = 9
      · rw [if_pos h9] at hm; subst h9
        have e : (128 : Nat) ^ 9 = 9223372036854775808 := by decide
        rw [e] at *; omega
      · rw [if_neg h9] at hm
        have hpw : (128 : Nat) ^ i ≤ 128 ^ 8 := Nat.pow_le_pow_right (by omega) (by omega)
        have e : (128 : Nat) ^ 8 = 72057594037927936 := by decide
        rw [e] at hpw; omega
    · rw [gLoop_go i u c r hb hc] at h
      have hi8 : i ≤ 8 := by omega
      obtain ⟨v, e1, e2, e3, e4, e5, e6⟩ := ih (i + 1) _ x k (by omega) h
      have hv := e3 (by omega)
      have hbig : ¬ (c.toNat - 128 + 128 * v) < 128 := by omega
      have hm : (c.toNat - 128 + 128 * v) % 128 + 128 = c.toNat := by omega
      have hd : (c.toNat - 128 + 128 * v) / 128 = v := by omega
      have hp : putU (c.toNat - 128 + 128 * v) = c :: putU v := by rw [putU_big _ hbig, hm, hd, UInt8.ofNat_toNat]
      have e : (c.toNat - 128 + 128 * v) * 128 ^ i = (c.toNat - 128) * 128 ^ i + v * 128 ^ (i + 1) := by
        rw [Nat.pow_succ, Nat.add_mul, Nat.mul_comm (128 ^ i) 128, ← Nat.mul_assoc, Nat.mul_comm v 128]
      refine ⟨c.toNat - 128 + 128 * v, by rw [e]; omega, ?_, fun _ => by omega, by rw [hp, List.length_cons]; omega, by rw [hp, List.length_cons, List.take_succ_cons, e5], by rw [hp, List.length_cons, List.length_cons]; omega⟩
      -- below 2^64: what stands behind is a number of 7 bits a byte, and the first one is below 128
      have h1 : v * 128 ^ (i + 1) ≤ 18446744073709551616 - 128 ^ (i + 1) := by
        have hdv : 128 ^ (i + 1) * (18446744073709551616 / 128 ^ (i + 1)) = 18446744073709551616 := by
          obtain rfl | rfl | rfl | rfl | rfl | rfl | rfl | rfl | rfl : i = 0 ∨ i = 1 ∨ i = 2 ∨ i = 3 ∨ i = 4 ∨ i = 5 ∨ i = 6 ∨ i = 7 ∨ i = 8 := by omega
          all_goals decide
        have hlt2 : v < 18446744073709551616 / 128 ^ (i + 1) := by
          refine Nat.lt_of_mul_lt_mul_left (a := 128 ^ (i + 1)) ?_
          rw [hdv, Nat.mul_comm]; exact e2
        have h3 : (v + 1) * 128 ^ (i + 1) ≤ 18446744073709551616 := by
          have := Nat.mul_le_mul_left (128 ^ (i + 1)) (show v + 1 ≤ 18446744073709551616 / 128 ^ (i + 1) by omega)
          rw [hdv, Nat.mul_comm] at this; exact this
        rw [Nat.add_mul, Nat.one_mul] at h3
        omega
      have h2 : (c.toNat - 128) * 128 ^ i < 128 ^ (i + 1) := by
        rw [Nat.pow_succ, Nat.mul_comm]
        exact Nat.mul_lt_mul_of_pos_left (by omega) (Nat.pow_pos (by omega))
      have h3 : 128 ^ (i + 1) ≤ 18446744073709551616 := by
        have hpw : (128 : Nat) ^ (i + 1) ≤ 128 ^ 9 := Nat.pow_le_pow_right (by omega) (by omega)
        have e : (128 : Nat) ^ 9 = 9223372036854775808 := by decide
        omega
      rw [e]; omega

/-- Get: the number, its bytes; ErrMore, ErrForm -/
def getN (l : List UInt8) : Got := gLoop 0 0 l
theorem getN_put (n : Int) (r : List UInt8) (h : in64 n) : getN (putN n ++ r) = .ok (zig n) (putN n).length := by
  have := gLoop_put (zig n) 0 0 r (by omega) (by simpa using zig_lt n h) (by omega)
  simpa [getN, putN] using this
theorem getN_got (l : List UInt8) (x k : Nat) (h : getN l = .ok x k) : x < 18446744073709551616 ∧ k = (putN (zag x)).length ∧ l.take k = putN (zag x) ∧ k ≤ l.length ∧ 0 < k := by
  obtain ⟨v, e1, e2, _, e4, e5, e6⟩ := gLoop_got l 0 0 x k (by omega) h
  simp only [Nat.pow_zero, Nat.mul_one, Nat.zero_add] at e1 e2 e4
  subst e1
  unfold putN
  rw [zig_zag]
  exact ⟨e2, e4, by rw [e4]; exact e5, by rw [e4]; exact e6, by rw [e4]; exact putU_pos _⟩
theorem getN_split (l : List UInt8) (x k : Nat) (h : getN l = .ok x k) : l = putN (zag x) ++ l.drop k := by
  obtain ⟨_, _, e, _, _⟩ := getN_got l x k h
  rw [← e, List.take_append_drop]
theorem got_inj {u k u' k' : Nat} (h : Got.ok u k = .ok u' k') : u = u' ∧ k = k' := by injection h with h1 h2; exact ⟨h1, h2⟩
/-- no number's bytes begin another's -/
theorem putN_apart (n m : Int) (r s : List UInt8) (hn : in64 n) (hm : in64 m) (h : putN n ++ r = putN m ++ s) : n = m ∧ r = s := by
  have h1 := getN_put n r hn
  rw [h, getN_put m s hm] at h1
  obtain ⟨h2, _⟩ := got_inj h1
  have h3 : n = m := by rw [← zag_zig n, ← zag_zig m, h2]
  subst h3
  exact ⟨rfl, List.append_cancel_left h⟩
end Go.Proofs.YtclgcfofgiejgaaDoor
