/- THE WALK OF THE LAW RunesDigits. -/
import Derived.Test.YtmmppglkdakdoaaRs
namespace Go.Proofs.Ytmmppglkdakdoaa
open Go.RowKit

theorem no_nought (N : Nat) (c : ByteArray) (hc : lst c = Lib.decDigits N) : numO ((⟨#[48]⟩ : ByteArray) ++ c) = none := by
  obtain ⟨d, r, e, _, _, _⟩ := dec_head N
  unfold numO
  rw [lst_cons, hc, e, nGo_go true 0 1 0 48 (d :: r) ⟨by decide, by decide, by omega⟩ 0 (by decide) (by omega)]
  exact nGo_none _ _ _ _ _ _ (by simp) (.inr (.inr ⟨by omega, rfl⟩))
theorem no_plus (c : ByteArray) : numO ((⟨#[43]⟩ : ByteArray) ++ c) = none := by
  unfold numO
  rw [lst_cons]
  exact nGo_none _ _ _ _ _ _ (by decide) (.inl (by decide))
theorem no_blank (c : ByteArray) : numO ((⟨#[32]⟩ : ByteArray) ++ c) = none := by
  unfold numO
  rw [lst_cons]
  exact nGo_none _ _ _ _ _ _ (by decide) (.inl (by decide))
theorem no_twice (c : ByteArray) : numO ((⟨#[45, 45]⟩ : ByteArray) ++ c) = none := by
  have e : lst ((⟨#[45, 45]⟩ : ByteArray) ++ c) = 45 :: 45 :: lst c := by rw [lst_append]; rfl
  unfold numO
  rw [e, nGo_minus _ _ _ _ _ _ rfl rfl]
  exact nGo_none _ _ _ _ _ _ (by simp) (.inl (by decide))

/-- At the loop's head: c stands behind the digits of M. -/
def DigInv (N M : Nat) (c : ByteArray) : Prop := Lib.decDigits N = Lib.decDigits M ++ lst c
theorem DigInv.more {N M : Nat} {c : ByteArray} (h : DigInv N M c) (h0 : 10 ≤ M) (z : Int) (hz : z = 48 + ((M % 10 : Nat) : Int)) : DigInv N (M / 10) ((⟨#[byteOf z]⟩ : ByteArray) ++ c) := by
  have hb : byteOf z = UInt8.ofNat (48 + M % 10) := by unfold byteOf; congr 1; omega
  unfold DigInv at *
  rw [hb, h, lst_cons, Lib.decDigits, dif_neg (by omega)]
  simp
theorem DigInv.last {N M : Nat} {c : ByteArray} (h : DigInv N M c) (h0 : M < 10) (z : Int) (hz : z = 48 + ((M % 10 : Nat) : Int)) : lst ((⟨#[byteOf z]⟩ : ByteArray) ++ c) = Lib.decDigits N := by
  have hb : byteOf z = UInt8.ofNat (48 + M % 10) := by unfold byteOf; congr 1; omega
  unfold DigInv at h
  have : M % 10 = M := by omega
  rw [hb, h, lst_cons, Lib.decDigits, dif_pos (by omega), this]; rfl
theorem digs_size (N : Nat) (hN : N ≤ 2147483648) (c : ByteArray) (h : lst c = Lib.decDigits N) : c.size ≤ 10 := by
  have := dec_good N _ hN (.inl rfl)
  unfold badD at this
  rw [← lst_len, h]
  omega
theorem cat_size (a b : ByteArray) (n : Nat) (ha : a.size ≤ 2) (hb : b.size ≤ n) (hn : n ≤ 1000) : (a ++ b).size ≤ maxLen := by
  rw [ByteArray.size_append]; unfold maxLen; omega

set_option maxRecDepth 100000 in
set_option maxHeartbeats 2000000 in
theorem digitslaw_neg (n : Int) (w : World) (h0 : n < 0) (h1 : -2147483648 ≤ n) :
    Calls Try.prog 10 #[.int .i32 n] w fun e w' => e = .returned (.bool true) ∧ Below w.heap.size w w' := by
  obtain ⟨N, hN⟩ : ∃ N : Nat, n = -(N : Int) := ⟨n.natAbs, by omega⟩
  have hit : Lib.itoa n = 45 :: Lib.decDigits N := by
    rw [Lib.itoa, if_pos h0]
    congr 1; congr 1; omega
  have hnum := num_itoa n (by omega) (by omega)
  rw [hit] at hnum
  have HNUM := Lib.hid hnum; clear hnum
  have HN1 := Lib.hid h1
  have HN := Lib.hid hN; clear hN hit
  have hNle : N ≤ 2147483648 := by have := HN.out; omega
  have HNLE := Lib.hid hNle; clear hNle
  go_enter Try.func10, Try.ntmps10
  go_wp2_with fail
  refine (begun_any _).mono ?_
  rintro e w1 ⟨rfl, hb1⟩
  have H1S := Lib.hid hb1.size
  
  go_wp2
  go_loopw [4, 5] (fun sv mv wr => ∃ (M : Nat) (c : ByteArray), mv = .int .i64 M ∧ sv = .string c ∧ c.size + M ≤ 2147483648 ∧ Hid (DigInv N M c) ∧ Below w.heap.size w wr) (fun _ mv _ => (intOf mv).toNat)
  case atStart => exact ⟨N, ⟨#[]⟩, by have := HN.out; rw [this]; simp, rfl, by have := HNLE.out; show 0 + N ≤ _; omega, by simp [Hid, DigInv, lst], hb1⟩
  case round =>
    obtain ⟨M, c, rfl, rfl, hc, HP, hb⟩ := hrel
    have hcv := conv1 wr
    have hB := (hb.alloc hb.size (.cells #[.int .u8 (48 + (M : Int) % 10)] 5))
    have HCV := Lib.hid hB; clear hB
    by_cases h : 10 ≤ M
    · have hm : ((M : Int) / 10 == 0) = false := by rw [beq_eq_false_iff_ne]; omega
      go_wp2
      go_roundw
      case rel =>
        refine ⟨M / 10, _, by go_num, rfl, ?_, HP.out.more h _ (by omega), HCV.out⟩
        rw [size_cons]; omega
      case measure => simp [intOf]; omega
    · have hm : ((M : Int) / 10 == 0) = true := by rw [beq_iff_eq]; omega
      have hl := HP.out.last (by omega) (48 + (M : Int) % 10) (by omega)
      obtain ⟨d, hd⟩ : ∃ d, d = (⟨#[byteOf (48 + (M : Int) % 10)]⟩ : ByteArray) ++ c := ⟨_, rfl⟩
      rw [← hd] at hl
      have hds := digs_size N HNLE.out d hl
      have ht : (⟨#[45]⟩ : ByteArray) ++ d = ⟨(45 :: Lib.decDigits N).toArray⟩ := by
        rw [of_lst ((⟨#[45]⟩ : ByteArray) ++ d), lst_cons, hl]
      have g0 : numO ((⟨#[45]⟩ : ByteArray) ++ d) = some n := by rw [ht]; exact HNUM.out
      have g1 := no_nought N d hl
      have g2 := no_plus d
      have g3 := no_blank ((⟨#[45]⟩ : ByteArray) ++ d)
      have g4 := no_twice d
      have s0 : ((⟨#[45]⟩ : ByteArray) ++ d).size ≤ 11 := by rw [size_cons]; omega
      have G0 := Lib.hid g0; have G1 := Lib.hid g1; have G2 := Lib.hid g2; have G3 := Lib.hid g3; have G4 := Lib.hid g4
      have S0 : Hid (((⟨#[45]⟩ : ByteArray) ++ d).size ≤ maxLen) := Nat.le_trans s0 (by decide)
      have hds2 : d.size ≤ 11 := by omega
      have S1 : Hid (((⟨#[48]⟩ : ByteArray) ++ d).size ≤ maxLen) := cat_size _ _ 11 (by decide) hds2 (by omega)
      have S2 : Hid (((⟨#[43]⟩ : ByteArray) ++ d).size ≤ maxLen) := cat_size _ _ 11 (by decide) hds2 (by omega)
      have S3 : Hid (((⟨#[32]⟩ : ByteArray) ++ ((⟨#[45]⟩ : ByteArray) ++ d)).size ≤ maxLen) := cat_size _ _ 11 (by decide) s0 (by omega)
      have S4 : Hid (((⟨#[45, 45]⟩ : ByteArray) ++ d).size ≤ maxLen) := cat_size _ _ 11 (by decide) hds2 (by omega)
      clear hds2
      clear g0 g1 g2 g3 g4 s0 ht hl
      have HD := Lib.hid hd
      clear hd
      go_wp2_with fail
      rw [← HD.out]
      refine (number_any _ _ S0.out).mono ?_
      rintro e w2 ⟨rfl, hb2⟩
      rw [G0.out, numVal]
      have hC2 := Below.next HCV.out HCV.out.size hb2
      go_wp2_with fail
      refine (number_any _ _ S1.out).mono ?_
      rintro e w3 ⟨rfl, hb3⟩
      rw [G1.out, numVal]
      have hC3 := Below.next hC2 hC2.size hb3
      go_wp2_with fail
      refine (number_any _ _ S2.out).mono ?_
      rintro e w4 ⟨rfl, hb4⟩
      rw [G2.out, numVal]
      have hC4 := Below.next hC3 hC3.size hb4
      go_wp2_with fail
      refine (number_any _ _ S3.out).mono ?_
      rintro e w5 ⟨rfl, hb5⟩
      rw [G3.out, numVal]
      have hC5 := Below.next hC4 hC4.size hb5
      go_wp2_with fail
      refine (number_any _ _ S4.out).mono ?_
      rintro e w6 ⟨rfl, hb6⟩
      rw [G4.out, numVal]
      have hC6 := Below.next hC5 hC5.size hb6
      go_wp2
      go_ret
      exact ⟨rfl, hC6⟩

set_option maxRecDepth 100000 in
set_option maxHeartbeats 2000000 in
theorem digitslaw_pos (n : Int) (w : World) (h0 : 0 ≤ n) (h1 : n ≤ 2147483647) :
    Calls Try.prog 10 #[.int .i32 n] w fun e w' => e = .returned (.bool true) ∧ Below w.heap.size w w' := by
  obtain ⟨N, hN⟩ : ∃ N : Nat, n = (N : Int) := ⟨n.natAbs, by omega⟩
  have hit : Lib.itoa n = Lib.decDigits N := by
    rw [Lib.itoa, if_neg (by omega)]
    congr 1; omega
  have hnum := num_itoa n (by omega) (by omega)
  rw [hit] at hnum
  have HNUM := Lib.hid hnum; clear hnum
  have HN1 := Lib.hid h1
  have HN := Lib.hid hN; clear hN hit
  have hNle : N ≤ 2147483648 := by have := HN.out; omega
  have HNLE := Lib.hid hNle; clear hNle
  go_enter Try.func10, Try.ntmps10
  go_wp2_with fail
  refine (begun_any _).mono ?_
  rintro e w1 ⟨rfl, hb1⟩
  have H1S := Lib.hid hb1.size
  have hnn : ¬ n < 0 := by omega
  go_wp2
  go_loopw [4, 5] (fun sv mv wr => ∃ (M : Nat) (c : ByteArray), mv = .int .i64 M ∧ sv = .string c ∧ c.size + M ≤ 2147483648 ∧ Hid (DigInv N M c) ∧ Below w.heap.size w wr) (fun _ mv _ => (intOf mv).toNat)
  case atStart => exact ⟨N, ⟨#[]⟩, by have := HN.out; rw [this], rfl, by have := HNLE.out; show 0 + N ≤ _; omega, by simp [Hid, DigInv, lst], hb1⟩
  case round =>
    obtain ⟨M, c, rfl, rfl, hc, HP, hb⟩ := hrel
    have hcv := conv1 wr
    have hB := (hb.alloc hb.size (.cells #[.int .u8 (48 + (M : Int) % 10)] 5))
    have HCV := Lib.hid hB; clear hB
    by_cases h : 10 ≤ M
    · have hm : ((M : Int) / 10 == 0) = false := by rw [beq_eq_false_iff_ne]; omega
      go_wp2
      go_roundw
      case rel =>
        refine ⟨M / 10, _, by go_num, rfl, ?_, HP.out.more h _ (by omega), HCV.out⟩
        rw [size_cons]; omega
      case measure => simp [intOf]; omega
    · have hm : ((M : Int) / 10 == 0) = true := by rw [beq_iff_eq]; omega
      have hl := HP.out.last (by omega) (48 + (M : Int) % 10) (by omega)
      obtain ⟨d, hd⟩ : ∃ d, d = (⟨#[byteOf (48 + (M : Int) % 10)]⟩ : ByteArray) ++ c := ⟨_, rfl⟩
      rw [← hd] at hl
      have hds := digs_size N HNLE.out d hl
      have ht : d = ⟨(Lib.decDigits N).toArray⟩ := by
        rw [of_lst (d), hl]
      have g0 : numO (d) = some n := by rw [ht]; exact HNUM.out
      have g1 := no_nought N d hl
      have g2 := no_plus d
      have g3 := no_blank (d)
      have g4 := no_twice d
      have s0 : (d).size ≤ 11 := by omega
      have G0 := Lib.hid g0; have G1 := Lib.hid g1; have G2 := Lib.hid g2; have G3 := Lib.hid g3; have G4 := Lib.hid g4
      have S0 : Hid ((d).size ≤ maxLen) := Nat.le_trans s0 (by decide)
      have hds2 : d.size ≤ 11 := by omega
      have S1 : Hid (((⟨#[48]⟩ : ByteArray) ++ d).size ≤ maxLen) := cat_size _ _ 11 (by decide) hds2 (by omega)
      have S2 : Hid (((⟨#[43]⟩ : ByteArray) ++ d).size ≤ maxLen) := cat_size _ _ 11 (by decide) hds2 (by omega)
      have S3 : Hid (((⟨#[32]⟩ : ByteArray) ++ (d)).size ≤ maxLen) := cat_size _ _ 11 (by decide) s0 (by omega)
      have S4 : Hid (((⟨#[45, 45]⟩ : ByteArray) ++ d).size ≤ maxLen) := cat_size _ _ 11 (by decide) hds2 (by omega)
      clear hds2
      clear g0 g1 g2 g3 g4 s0 ht hl
      have HD := Lib.hid hd
      clear hd
      go_wp2_with fail
      rw [← HD.out]
      refine (number_any _ _ S0.out).mono ?_
      rintro e w2 ⟨rfl, hb2⟩
      rw [G0.out, numVal]
      have hC2 := Below.next HCV.out HCV.out.size hb2
      go_wp2_with fail
      refine (number_any _ _ S1.out).mono ?_
      rintro e w3 ⟨rfl, hb3⟩
      rw [G1.out, numVal]
      have hC3 := Below.next hC2 hC2.size hb3
      go_wp2_with fail
      refine (number_any _ _ S2.out).mono ?_
      rintro e w4 ⟨rfl, hb4⟩
      rw [G2.out, numVal]
      have hC4 := Below.next hC3 hC3.size hb4
      go_wp2_with fail
      refine (number_any _ _ S3.out).mono ?_
      rintro e w5 ⟨rfl, hb5⟩
      rw [G3.out, numVal]
      have hC5 := Below.next hC4 hC4.size hb5
      go_wp2_with fail
      refine (number_any _ _ S4.out).mono ?_
      rintro e w6 ⟨rfl, hb6⟩
      rw [G4.out, numVal]
      have hC6 := Below.next hC5 hC5.size hb6
      go_wp2
      go_ret
      exact ⟨rfl, hC6⟩

theorem digitslaw_law (n : Int) (w : World) (h : (Lit.int .i32 n).wf = true) :
    Calls Try.prog 10 #[.int .i32 n] w fun e w' => e = .returned (.bool true) ∧ Below w.heap.size w w' := by
  have := bounds_i32 h
  by_cases hn : n < 0
  · exact digitslaw_neg n w hn this.1
  · exact digitslaw_pos n w (by omega) this.2
end Go.Proofs.Ytmmppglkdakdoaa
