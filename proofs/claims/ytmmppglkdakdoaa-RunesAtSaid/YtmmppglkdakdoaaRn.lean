/- THE WALK OF THE LAW RunesNumber. -/
import Derived.Test.YtmmppglkdakdoaaRm
import Derived.OpenShut
namespace Go.Proofs.Ytmmppglkdakdoaa
open Go.RowKit

theorem dGo_append : ∀ (a b : List UInt8) (m : Int), dGo m (a ++ b) = (dGo m a).bind fun v => dGo v b := by
  intro a
  induction a with
  | nil => intro b m; rfl
  | cons c r ih =>
    intro b m
    rw [List.cons_append, dGo, dGo]
    split
    · rfl
    · exact ih b _
theorem digit_nat (d : Nat) (h : d < 10) : ((UInt8.ofNat (48 + d)).toNat : Int) - 48 = d := by rw [digit_byte d h]; omega
theorem dGo_digit (m : Int) (d : Nat) (h : d < 10) : dGo m [UInt8.ofNat (48 + d)] = some (m * 10 + d) := by
  rw [dGo, if_neg (by rw [digit_byte d h]; omega), digit_nat d h, dGo]
theorem dGo_dec (N : Nat) : dGo 0 (Lib.decDigits N) = some (N : Int) := by
  induction N using Nat.strongRecOn with
  | _ N ih =>
    by_cases h : N < 10
    · rw [Lib.decDigits, dif_pos h, dGo_digit 0 N h]; simp
    · rw [Lib.decDigits, dif_neg h, dGo_append, ih (N / 10) (by omega)]
      simp only [Option.bind_some]
      rw [dGo_digit _ _ (by omega)]
      congr 1
      omega
theorem dec_head (N : Nat) : ∃ c r, Lib.decDigits N = c :: r ∧ 48 ≤ c.toNat ∧ c.toNat ≤ 57 ∧ (c.toNat = 48 → N = 0 ∧ r = []) := by
  induction N using Nat.strongRecOn with
  | _ N ih =>
    by_cases h : N < 10
    · refine ⟨UInt8.ofNat (48 + N), [], by rw [Lib.decDigits, dif_pos h], ?_⟩
      rw [digit_byte N h]
      exact ⟨by omega, by omega, fun h => ⟨by omega, rfl⟩⟩
    · obtain ⟨c, r, e, h1, h2, h3⟩ := ih (N / 10) (by omega)
      refine ⟨c, r ++ [UInt8.ofNat (48 + N % 10)], by rw [Lib.decDigits, dif_neg h, e]; rfl, h1, h2, fun h => ?_⟩
      have := (h3 h).1
      omega
theorem dec_good (N L : Nat) (hN : N ≤ 2147483648) (hL : L = (Lib.decDigits N).length ∨ (L = (Lib.decDigits N).length + 1 ∧ 0 < N)) : ¬ badD L (Lib.decDigits N) := by
  obtain ⟨c, r, e, h1, h2, h3⟩ := dec_head N
  have hd := dGo_dec N
  rw [e] at hL hd ⊢
  unfold badD
  rintro (h | h | ⟨h, h4⟩)
  · simp at h
  · have hne : c.toNat ≠ 48 := fun h5 => by rw [(h3 h5).2] at h; simp at h
    rw [dGo_go _ _ _ (by omega)] at hd
    have h5 := dGo_ge r _ _ (by omega) hd
    have hp : (10 : Int) ^ 10 ≤ 10 ^ r.length := by
      have : 10 ^ 10 ≤ 10 ^ r.length := Nat.pow_le_pow_right (by omega) (by simp at h; omega)
      have h2 : ((10 ^ 10 : Nat) : Int) ≤ ((10 ^ r.length : Nat) : Int) := by omega
      simpa using h2
    have h6 : 1 * 10 ^ r.length ≤ (0 * 10 + ((c.toNat : Int) - 48)) * 10 ^ r.length := Int.mul_le_mul_of_nonneg_right (by omega) (Int.pow_nonneg (by omega))
    have h7 : (10 : Int) ^ 10 = 10000000000 := by decide
    omega
  · rw [List.head?_cons, Option.some.injEq] at h
    have h5 : c.toNat = 48 := by rw [h]; rfl
    obtain ⟨h6, rfl⟩ := h3 h5
    simp at h4 hL
    omega
/-- A number's text is read as that number. -/
theorem num_itoa (x : Int) (h1 : -2147483648 ≤ x) (h2 : x ≤ 2147483647) : numO ⟨(Lib.itoa x).toArray⟩ = some x := by
  have hl : lst (⟨(Lib.itoa x).toArray⟩ : ByteArray) = Lib.itoa x := by simp [lst]
  unfold numO
  rw [hl, Lib.itoa]
  by_cases hx : x < 0
  · rw [if_pos hx, nGo_minus _ _ _ _ _ _ rfl rfl, nGo_main (-1) (.inr rfl) ((Lib.decDigits x.natAbs).length + 1) _ (by simp), if_neg (dec_good _ _ (by omega) (.inr ⟨rfl, by omega⟩)), dGo_dec]
    simp only [Option.bind_some, fin32]
    rw [if_pos (by unfold inR; omega)]
    congr 1
    omega
  · obtain ⟨c, r, e, g1, g2, _⟩ := dec_head x.toNat
    have hf : nGo true 0 1 0 (Lib.decDigits x.toNat) = nGo false 0 1 0 (Lib.decDigits x.toNat) := by
      rw [e]; exact nGo_first _ _ _ _ _ (by omega)
    rw [if_neg hx, hf, nGo_main 1 (.inl rfl) (Lib.decDigits x.toNat).length _ (by simp), if_neg (dec_good _ _ (by omega) (.inl rfl)), dGo_dec]
    simp only [Option.bind_some, fin32]
    rw [if_pos (by unfold inR; omega)]
    congr 1
    omega
theorem itoa_size (x : Int) (h1 : -2147483648 ≤ x) (h2 : x ≤ 2147483647) : (⟨(Lib.itoa x).toArray⟩ : ByteArray).size ≤ 11 := by
  show (Lib.itoa x).toArray.size ≤ 11
  have key : ∀ N : Nat, N ≤ 2147483648 → (Lib.decDigits N).length ≤ 10 := by
    intro N hN
    have := dec_good N _ hN (.inl rfl)
    unfold badD at this
    omega
  rw [List.size_toArray, Lib.itoa]
  split
  · have := key x.natAbs (by omega)
    simp; omega
  · have := key x.toNat (by omega)
    omega

set_option maxRecDepth 100000 in
set_option maxHeartbeats 1000000 in
theorem numberlaw_any (s : ByteArray) (x : Int) (w : World) (h1 : -2147483648 ≤ x) (h2 : x ≤ 2147483647) :
    Calls Try.prog 5 #[.string s, .int .i32 x] w fun e w' => e = .returned (.bool true) ∧ Below w.heap.size w w' := by
  have hit := num_itoa x h1 h2
  have hsz := itoa_size x h1 h2
  have HIT := Lib.hid hit; clear hit
  have HSZ := Lib.hid hsz; clear hsz
  go_enter Try.func5, Try.ntmps5
  go_wp2_with fail
  refine (begun_any _).mono ?_
  rintro e w1 ⟨rfl, hb1⟩
  go_wp2_with fail
  refine (cut_any s 30 _ (by omega)).mono ?_
  rintro e w' ⟨rfl, rfl⟩
  obtain ⟨t, ht⟩ : ∃ t, t = s.extract 0 (min 30 s.size) := ⟨_, rfl⟩
  have htz : t.size ≤ 30 := by rw [ht]; exact cut_size s 30
  rw [← ht]
  clear ht
  have htm : t.size ≤ maxLen := by unfold maxLen; omega
  have HM := Lib.hid htm; clear htm
  have hn := num_same t
  cases hok : (rNum t).2 with
  | true =>
    rw [hok, if_pos rfl] at hn
    have HN := Lib.hid hn; clear hn
    have hv : numVal (some (rNum t).1) = .tuple #[.int .i64 (rNum t).1, .bool true] := rfl
    have hr : refVal (rNum t) = .tuple #[.int .i64 (rNum t).1, .bool true] := by rw [refVal, hok]
    have HV := Lib.hid hv; have HR := Lib.hid hr; clear hv hr hok
    generalize (rNum t).1 = z at *
    go_wp2_with fail
    refine (number_any t _ HM.out).mono ?_
    rintro e w2 ⟨rfl, hb2⟩
    rw [HN.out, HV.out]
    have hC2 := Below.next hb1 hb1.size hb2
    go_wp2_with fail
    refine (refnumber_any t _ HM.out).mono ?_
    rintro e w' ⟨rfl, rfl⟩
    rw [HR.out]
    go_wp2_with fail
    refine (decimal_any x _ h1 h2).mono ?_
    rintro e w3 ⟨rfl, hb3⟩
    have hC3 := Below.next hC2 hC2.size hb3
    go_wp2_with fail
    refine (number_any _ _ (Nat.le_trans HSZ.out (by decide))).mono ?_
    rintro e w4 ⟨rfl, hb4⟩
    rw [HIT.out, numVal]
    have hC4 := Below.next hC3 hC3.size hb4
    go_wp2
    go_ret
    exact ⟨rfl, hC4⟩
  | false =>
    rw [hok, if_neg (by simp)] at hn
    have HN := Lib.hid hn; clear hn
    have hv : numVal none = .tuple #[.int .i64 0, .bool false] := rfl
    have hr : refVal (rNum t) = .tuple #[.int .i64 (rNum t).1, .bool false] := by rw [refVal, hok]
    have HV := Lib.hid hv; have HR := Lib.hid hr; clear hv hr hok
    generalize (rNum t).1 = z at *
    go_wp2_with fail
    refine (number_any t _ HM.out).mono ?_
    rintro e w2 ⟨rfl, hb2⟩
    rw [HN.out, HV.out]
    have hC2 := Below.next hb1 hb1.size hb2
    go_wp2_with fail
    refine (refnumber_any t _ HM.out).mono ?_
    rintro e w' ⟨rfl, rfl⟩
    rw [HR.out]
    go_wp2_with fail
    refine (decimal_any x _ h1 h2).mono ?_
    rintro e w3 ⟨rfl, hb3⟩
    have hC3 := Below.next hC2 hC2.size hb3
    go_wp2_with fail
    refine (number_any _ _ (Nat.le_trans HSZ.out (by decide))).mono ?_
    rintro e w4 ⟨rfl, hb4⟩
    rw [HIT.out, numVal]
    have hC4 := Below.next hC3 hC3.size hb4
    go_wp2
    go_ret
    exact ⟨rfl, hC4⟩
theorem numberlaw_law (s : ByteArray) (x : Int) (w : World) (_ : s.size ≤ maxLen) (h : (Lit.int .i32 x).wf = true) :
    Calls Try.prog 5 #[.string s, .int .i32 x] w fun e w' => e = .returned (.bool true) ∧ Below w.heap.size w w' := numberlaw_any s x w (bounds_i32 h).1 (bounds_i32 h).2
end Go.Proofs.Ytmmppglkdakdoaa
