/- THE WALK of ref Get. -/
import Derived.Test.YtclgcfofgiejgaaDoorNd
namespace Go.Proofs.YtclgcfofgiejgaaDoor
set_option maxRecDepth 100000
open Go.RowKit
set_option linter.unusedVariables false

theorem mul_step (k x c : Nat) (y z m : Int) (hy : y = x) (hm : m = c) (hz : z = ((128 ^ k : Nat) : Int)) (hc : x + c * 128 ^ k < 18446744073709551616) :
    IntKind.u64.wrap (m * z) = ((c * 128 ^ k : Nat) : Int) ∧ IntKind.u64.wrap (y + ((c * 128 ^ k : Nat) : Int)) = ((x + c * 128 ^ k : Nat) : Int) ∧ y + ((c * 128 ^ k : Nat) : Int) = ((x + c * 128 ^ k : Nat) : Int) := by
  subst hy hm hz
  have e : (c : Int) * ((128 ^ k : Nat) : Int) = ((c * 128 ^ k : Nat) : Int) := by simp
  have h2 : (x : Int) + ((c * 128 ^ k : Nat) : Int) = ((x + c * 128 ^ k : Nat) : Int) := by simp
  rw [e]
  refine ⟨?_, ?_, h2⟩
  · rw [IntKind.wrap_u64, Int.emod_eq_of_lt (by omega) (by omega)]
  · rw [h2, IntKind.wrap_u64, Int.emod_eq_of_lt (by omega) (by omega)]
theorem zag_odd (x : Nat) (r : Int) (h : r = x) (h1 : r % 2 = 1) : zag x = -(r / 2) - 1 := by unfold zag; rw [if_pos (by omega)]; omega
theorem zag_even (x : Nat) (r : Int) (h : r = x) (h1 : ¬ r % 2 = 1) : zag x = r / 2 := by unfold zag; rw [if_neg (by omega)]; omega
set_option maxHeartbeats 2000000 in
theorem refget_any (A : Option Addr) (l : List UInt8) (n cap B : Nat) (w : World) (hr : RB w B A l) (hn : l.length = n) (hc : n ≤ cap) (hm : cap ≤ maxLen) :
    Calls Tryd.prog 52 #[.slice A n cap] w fun e w' => e = .returned (gotV (getN l)) ∧ w = w' := by
  subst hn
  unfold maxLen at hm
  have HR := Lib.hid hr; clear hr
  go_enter Tryd.func52, Tryd.ntmps52
  go_wp2
  go_loop [5, 6, 7] (fun u s i => ∃ (k x : Nat) (y z : Int), i = .int .i64 (k : Int) ∧ k ≤ l.length ∧ k ≤ 9 ∧ u = .int .u64 y ∧ Hid (y = x) ∧ 0 ≤ y ∧ y ≤ 18446744073709551615 ∧ s = .int .u64 z ∧ 0 ≤ z ∧ z ≤ 18446744073709551615 ∧ Hid (z = ((128 ^ k : Nat) : Int)) ∧ Hid (x < 128 ^ k) ∧ Hid (getN l = gLoop k x (l.drop k))) (fun _ _ i => l.length - (intOf i).toNat)
  case atStart => exact ⟨0, 0, 0, 1, rfl, by omega, by omega, rfl, rfl, by omega, by omega, rfl, by omega, by omega, by simp [Hid], by simp [Hid], rfl⟩
  case round =>
    obtain ⟨k, x, y, z, rfl, hk, hk9, rfl, hy, hy0, hy1, rfl, hz0, hz1, hz, hx, hg⟩ := hrel
    by_cases hlt : k < l.length
    · obtain ⟨b, off, rfl, hb, hcell⟩ := HR.out (by omega)
      have hc1 := hcell k hlt
      clear hcell
      have hd : l.drop k = l[k] :: l.drop (k + 1) := by rw [List.drop_eq_getElem_cons hlt]
      obtain ⟨c, hcc⟩ : ∃ c : UInt8, l[k] = c := ⟨_, rfl⟩
      rw [hcc] at hc1 hd
      have HD := Lib.hid hd; clear hd hcc
      unfold vb at hc1
      have h256 := c.toNat_lt
      obtain ⟨m, hmm⟩ : ∃ m : Int, (c.toNat : Int) = m := ⟨_, rfl⟩
      rw [hmm] at hc1
      have hm0 : 0 ≤ m := by omega
      have hm1 : m ≤ 255 := by omega
      have HM := Lib.hid hmm; clear hmm h256
      by_cases hbad : (k = 9 ∧ 1 < m) ∨ (0 < k ∧ m = 0)
      · have hgg := gLoop_bad k x c (l.drop (k + 1)) (by have := HM.out; omega)
        have HG := Lib.hid (show getN l = .form by rw [hg.out, HD.out]; exact hgg)
        clear hgg
        by_cases h9 : k = 9 ∧ 1 < m
        · obtain ⟨h9, hb1⟩ := h9
          have t9 : ((k : Int) == 9) = true := by simp [h9]
          have H9 := Lib.hid h9; have HB := Lib.hid hbad; clear h9 hbad
          go_wp2
          go_ret3
          exact ⟨by rw [HG.out]; rfl, rfl⟩
        · have tm : (m == 0) = true := by simp; omega
          have tk : (0 : Int) < (k : Int) := by omega
          have tm1 : m ≤ 1 := by omega
          have t9 : ((k : Int) == 9) = true ∨ ((k : Int) == 9) = false := by cases ((k : Int) == 9) <;> simp
          have H9 := Lib.hid h9; have HB := Lib.hid hbad; clear h9 hbad
          rcases t9 with t9 | t9
          all_goals
            go_wp2
            go_ret3
            exact ⟨by rw [HG.out]; rfl, rfl⟩
      · have hq2 := acc_lt k x (c.toNat % 128) hk9 hx.out (by omega) (fun h => by have := HM.out; omega)
        have hst := mul_step k x (c.toNat % 128) y z (m % 128) hy.out (by have := HM.out; omega) hz.out hq2
        obtain ⟨q, hqq⟩ : ∃ q : Nat, x + c.toNat % 128 * 128 ^ k = q := ⟨_, rfl⟩
        obtain ⟨t, ht⟩ : ∃ t : Int, ((c.toNat % 128 * 128 ^ k : Nat) : Int) = t := ⟨_, rfl⟩
        rw [hqq] at hq2
        rw [hqq, ht] at hst
        obtain ⟨s1, s2, s3⟩ := hst
        obtain ⟨r, hr⟩ : ∃ r : Int, (q : Int) = r := ⟨_, rfl⟩
        rw [hr] at s2 s3
        have hr0 : 0 ≤ r := by omega
        have hr1 : r ≤ 18446744073709551615 := by omega
        have ht0 : 0 ≤ t := by omega
        have HR2 := Lib.hid hr.symm; clear hr hq2
        have HQ := Lib.hid hqq; clear hqq
        have HT := Lib.hid ht; clear ht
        have S1 := Lib.hid s1; have S2 := Lib.hid s2; have S3 := Lib.hid s3; clear s1 s2 s3
        obtain ⟨z2, hz2⟩ : ∃ z2 : Int, Hid (IntKind.u64.wrap (z * 128) = z2) := ⟨_, rfl⟩
        have hw0 : 0 ≤ z2 ∧ z2 ≤ 18446744073709551615 := by rw [← hz2.out, IntKind.wrap_u64]; omega
        have ht : (((k : Int) == 9) = true ∧ m ≤ 1) ∨ ((k : Int) == 9) = false := by
          by_cases h : k = 9
          · exact .inl ⟨by simp [h], by omega⟩
          · exact .inr (by simp; omega)
        have ht2 : (¬ (0 : Int) < (k : Int)) ∨ ((0 : Int) < (k : Int) ∧ (m == 0) = false) := by
          by_cases h : 0 < k
          · exact .inr ⟨by omega, by simp; omega⟩
          · exact .inl (by omega)
        have hk2 : Hid (k + 1 ≤ l.length) := hlt
        have hms : Hid (l.length - (k + 1) < l.length - k) := by show _ < _; omega
        by_cases h128 : 128 ≤ m
        · have hgg := gLoop_go k x c (l.drop (k + 1)) (by have := HM.out; omega) (by have := HM.out; omega)
          have hx2 := acc_next k x (c.toNat % 128) hx.out (by omega)
          rw [HQ.out] at hx2
          have hcm : c.toNat - 128 = c.toNat % 128 := by have := HM.out; have := c.toNat_lt; omega
          rw [hcm, HQ.out] at hgg
          have HG := Lib.hid (show getN l = gLoop (k + 1) q (l.drop (k + 1)) by rw [hg.out, HD.out]; exact hgg)
          have HX := Lib.hid hx2
          have hk8 : k + 1 ≤ 9 := by omega
          have hz3 : Hid (z2 = ((128 ^ (k + 1) : Nat) : Int)) := by
            have h1 : (128 : Nat) ^ (k + 1) ≤ 128 ^ 9 := Nat.pow_le_pow_right (by omega) hk8
            have e9 : (128 : Nat) ^ 9 = 9223372036854775808 := by decide
            show _ = _
            rw [← hz2.out, hz.out, IntKind.wrap_u64, Nat.pow_succ] at *
            have e : ((128 ^ k : Nat) : Int) * 128 = ((128 ^ k * 128 : Nat) : Int) := by simp
            rw [e, Int.emod_eq_of_lt (by omega) (by omega)]
          have HB := Lib.hid hbad; clear hgg hx2 hcm hbad
          have HK8 := Lib.hid hk8; clear hk8
          rcases ht with ⟨t9, tm1⟩ | t9
          · omega
          rcases ht2 with t0 | ⟨t0, t1⟩
          all_goals
            have s1 := S1.out; have s2 := S2.out; have s3 := S3.out; have s4 := hz2.out
            go_wp2
            clear s1 s2 s3 s4
            go_round
            case rel => exact ⟨k + 1, q, r, z2, by go_num, hk2.out, HK8.out, rfl, HR2, hr0, hr1, rfl, hw0.1, hw0.2, hz3, HX, HG⟩
            case measure => simp only [intOf]; have := hms.out; omega
        · have hgg := gLoop_end k x c (l.drop (k + 1)) (by have := HM.out; omega) (by have := HM.out; omega)
          have hcm : c.toNat = c.toNat % 128 := by have := HM.out; omega
          rw [show x + c.toNat * 128 ^ k = q by rw [hcm]; exact HQ.out] at hgg
          have HG := Lib.hid (show getN l = .ok q (k + 1) by rw [hg.out, HD.out]; exact hgg)
          clear hgg hcm
          have HB := Lib.hid hbad; clear hbad
          have hrr : (Hid (gotV (getN l) = .tuple #[.int .i64 (-(r / 2) - 1), .int .i64 ((k : Int) + 1), .int .i64 0]) ∧ (r % 2 == 1) = true) ∨ (Hid (gotV (getN l) = .tuple #[.int .i64 (r / 2), .int .i64 ((k : Int) + 1), .int .i64 0]) ∧ (r % 2 == 1) = false) := by
            by_cases h : r % 2 = 1
            · exact .inl ⟨by show _ = _; rw [HG.out, gotV, zag_odd q r HR2.out h]; rfl, by simpa using h⟩
            · exact .inr ⟨by show _ = _; rw [HG.out, gotV, zag_even q r HR2.out h]; rfl, by simpa using h⟩
          rcases ht with ⟨t9, tm1⟩ | t9 <;> rcases ht2 with t0 | ⟨t0, t1⟩ <;> rcases hrr with ⟨HZ, hrr⟩ | ⟨HZ, hrr⟩
          all_goals
            have s1 := S1.out; have s2 := S2.out; have s3 := S3.out; have s4 := hz2.out
            go_wp2
            go_ret3
            exact ⟨by rw [HZ.out]; rfl, rfl⟩
    · obtain rfl : k = l.length := by omega
      have HG := Lib.hid (show getN l = .more by rw [hg.out, List.drop_length, gLoop_nil])
      go_wp2
      go_ret3
      exact ⟨by rw [HG.out]; rfl, rfl⟩
end Go.Proofs.YtclgcfofgiejgaaDoor
