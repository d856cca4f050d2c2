/- THE WALKS over package num, of reading: signed, Get. -/
import Derived.Test.YtclgcfofgiejgaaDoorNb
import Derived.Outline
namespace Go.Proofs.YtclgcfofgiejgaaDoor
open Go.RowKit
set_option linter.unusedVariables false

theorem signed_any (u : Int) (x : Nat) (hx : Hid (u = x)) (w : World) (h0 : 0 ≤ u) (h1 : u ≤ 18446744073709551615) :
    Calls Tryd.prog 84 #[.int .u64 u] w fun e w' => e = .returned (.int .i64 (zag x)) ∧ w = w' := by
  by_cases h : u % 2 = 1
  · have e : zag x = -(u / 2) - 1 := by have := hx.out; unfold zag; rw [if_pos (by omega)]; omega
    have h' : (u % 2 == 1) = true := by simpa using h
    have HE := Lib.hid e; have H := Lib.hid h; clear e h
    go_enter Tryd.func84, Tryd.ntmps84
    go_wp2
    go_ret
    exact ⟨ret_int HE.out.symm, rfl⟩
  · have e : zag x = u / 2 := by have := hx.out; unfold zag; rw [if_neg (by omega)]; omega
    have h' : (u % 2 == 1) = false := by simpa using h
    have HE := Lib.hid e; have H := Lib.hid h; clear e h
    go_enter Tryd.func84, Tryd.ntmps84
    go_wp2
    go_ret
    exact ⟨ret_int HE.out.symm, rfl⟩
def gotV : Got → Value
  | .more => .tuple #[.int .i64 0, .int .i64 0, .int .i64 2]
  | .form => .tuple #[.int .i64 0, .int .i64 0, .int .i64 1]
  | .ok u k => .tuple #[.int .i64 (zag u), .int .i64 (k : Int), .int .i64 0]
theorem add_or (i x c : Nat) (hx : x < 128 ^ i) (hc : x + c * 128 ^ i < 18446744073709551616) : bits .or .u64 (x : Int) ((c * 128 ^ i : Nat) : Int) = ((x + c * 128 ^ i : Nat) : Int) := by
  have e : (128 : Nat) ^ i = 2 ^ (7 * i) := by rw [Nat.pow_mul]
  rw [u64_or_nat _ _ (by omega) (by omega), Nat.or_comm, Nat.mul_comm c, e, ← Nat.two_pow_add_eq_or_of_lt (by rw [← e]; exact hx)]
  rw [Nat.add_comm]
/-- a step of reading, as the walk spells it -/
theorem shl_step (i x c : Nat) (s y m : Int) (hs : s = 7 * i) (hy : y = x) (hm : m = c) (hi : i ≤ 9) (hx : x < 128 ^ i) (hc : x + c * 128 ^ i < 18446744073709551616) :
    bits .or .u64 y (IntKind.u64.wrap (m * 2 ^ min s.toNat 64)) = ((x + c * 128 ^ i : Nat) : Int) := by
  subst hy hm hs
  have h1 : min (7 * (i : Int)).toNat 64 = 7 * i := by omega
  have h2 : (c : Int) * 2 ^ (7 * i) = ((c * 128 ^ i : Nat) : Int) := by
    have e : (128 : Nat) ^ i = 2 ^ (7 * i) := by rw [Nat.pow_mul]
    rw [e]; simp
  rw [h1, h2, IntKind.wrap_u64, Int.emod_eq_of_lt (by omega) (by omega)]
  exact add_or i x c hx hc
theorem acc_next (k x c : Nat) (hx : x < 128 ^ k) (hc : c < 128) : x + c * 128 ^ k < 128 ^ (k + 1) := by
  have h1 : c * 128 ^ k ≤ 127 * 128 ^ k := Nat.mul_le_mul_right _ (by omega)
  rw [Nat.pow_succ]; omega
theorem acc_lt (k x c : Nat) (hk : k ≤ 9) (hx : x < 128 ^ k) (hc : c < 128) (h9 : k = 9 → c ≤ 1) : x + c * 128 ^ k < 18446744073709551616 := by
  have e : (128 : Nat) ^ 9 = 9223372036854775808 := by decide
  by_cases h : k = 9
  · have h1 : c * 128 ^ k ≤ 1 * 128 ^ k := Nat.mul_le_mul_right _ (h9 h)
    subst h
    rw [e] at *; omega
  · have h1 := acc_next k x c hx hc
    have h2 : (128 : Nat) ^ (k + 1) ≤ 128 ^ 9 := Nat.pow_le_pow_right (by omega) (by omega)
    omega
set_option maxHeartbeats 2000000 in
theorem get_any (A : Option Addr) (l : List UInt8) (cap B : Nat) (w : World) (hr : RB w B A l) (hc : l.length ≤ cap) (hm : cap ≤ maxLen) :
    Calls Tryd.prog 79 #[.slice A l.length cap] w fun e w' => e = .returned (gotV (getN l)) ∧ w = w' := by
  unfold maxLen at hm
  have HR := Lib.hid hr; clear hr
  go_enter Tryd.func79, Tryd.ntmps79
  go_wp2
  go_loop [5, 6, 11] (fun u s i => ∃ (k x : Nat) (y z : Int), i = .int .i64 k ∧ k ≤ l.length ∧ k ≤ 9 ∧ u = .int .u64 y ∧ Hid (y = x) ∧ 0 ≤ y ∧ y ≤ 18446744073709551615 ∧ s = .int .u64 z ∧ 0 ≤ z ∧ z ≤ 63 ∧ Hid (z = 7 * k) ∧ Hid (x < 128 ^ k) ∧ Hid (getN l = gLoop k x (l.drop k))) (fun _ _ i => l.length - (intOf i).toNat)
  case atStart => exact ⟨0, 0, 0, 0, rfl, by omega, by omega, rfl, rfl, by omega, by omega, rfl, by omega, by omega, rfl, by simp [Hid], rfl⟩
  case round =>
    obtain ⟨k, x, y, z, rfl, hk, hk9, rfl, hy, hy0, hy1, rfl, hz0, hz1, hz, hx, hg⟩ := hrel
    by_cases hlt : k < l.length
    · obtain ⟨b, off, rfl, hb, hcell⟩ := HR.out (by omega)
      have hc1 := hcell k hlt
      clear hcell
      have hd : l.drop k = l[k] :: l.drop (k + 1) := by rw [List.drop_eq_getElem_cons hlt]
      obtain ⟨c, hcc⟩ : ∃ c : UInt8, l[k] = c := ⟨_, rfl⟩
      rw [hcc] at hc1 hd
      have HD := Lib.hid hd; clear hd hcc
      unfold vb at hc1
      have h256 := c.toNat_lt
      obtain ⟨m, hmm⟩ : ∃ m : Int, (c.toNat : Int) = m := ⟨_, rfl⟩
      rw [hmm] at hc1
      have hm0 : 0 ≤ m := by omega
      have hm1 : m ≤ 255 := by omega
      have HM := Lib.hid hmm; clear hmm h256
      have hstep : (k = 9 → m ≤ 1) → bits .or .u64 y (IntKind.u64.wrap (m % 128 * 2 ^ min z.toNat 64)) = ((x + c.toNat % 128 * 128 ^ k : Nat) : Int) := fun h9 =>
        shl_step k x (c.toNat % 128) z y (m % 128) hz.out hy.out (by have := HM.out; omega) hk9 hx.out (acc_lt k x _ hk9 hx.out (by omega) (fun h => by have := h9 h; have := HM.out; omega))
      have hlt64 : (k = 9 → m ≤ 1) → x + c.toNat % 128 * 128 ^ k < 18446744073709551616 := fun h9 => acc_lt k x _ hk9 hx.out (by omega) (fun h => by have := h9 h; have := HM.out; omega)
      have HS := Lib.hid hstep; have HL := Lib.hid hlt64; clear hstep hlt64
      by_cases hbad : (k = 9 ∧ 1 < m) ∨ (0 < k ∧ m = 0)
      · have hgg := gLoop_bad k x c (l.drop (k + 1)) (by have := HM.out; omega)
        have HG := Lib.hid (show getN l = .form by rw [hg.out, HD.out]; exact hgg)
        clear hgg
        by_cases h9 : k = 9
        · have t9 : ((k : Int) == 9) = true := by simp [h9]
          by_cases hb1 : 1 < m
          · have H9 := Lib.hid h9; have HB := Lib.hid hbad; clear h9 hbad
            go_wp2
            go_ret3
            exact ⟨by rw [HG.out]; rfl, rfl⟩
          · have tm : (m == 0) = true := by simp; omega
            have tk : (0 : Int) < (k : Int) := by omega
            have H9 := Lib.hid h9; have HB := Lib.hid hbad; clear h9 hbad
            go_wp2
            go_ret3
            exact ⟨by rw [HG.out]; rfl, rfl⟩
        · have t9 : ((k : Int) == 9) = false := by simp; omega
          have tm : (m == 0) = true := by simp; omega
          have tk : (0 : Int) < (k : Int) := by omega
          have h128 : ¬ 128 ≤ m := by omega
          have H9 := Lib.hid h9; have HB := Lib.hid hbad; clear h9 hbad
          go_wp2
          go_ret3
          exact ⟨by rw [HG.out]; rfl, rfl⟩
      · have hq := HS.out (by omega)
        have hq' : bits .or .u64 y (IntKind.u64.wrap (m % 128 * 2 ^ z.toNat)) = ((x + c.toNat % 128 * 128 ^ k : Nat) : Int) := by
          rw [← hq, show min z.toNat 64 = z.toNat by omega]
        have hq2 := HL.out (by omega)
        obtain ⟨q, hqq⟩ : ∃ q : Nat, x + c.toNat % 128 * 128 ^ k = q := ⟨_, rfl⟩
        rw [hqq] at hq hq2 hq'
        obtain ⟨r, hr⟩ : ∃ r : Int, (q : Int) = r := ⟨_, rfl⟩
        rw [hr] at hq hq'
        have hr0 : 0 ≤ r := by omega
        have hr1 : r ≤ 18446744073709551615 := by omega
        have HR2 := Lib.hid hr.symm; clear hr hq2
        have HQ := Lib.hid hqq; clear hqq
        by_cases h128 : 128 ≤ m
        · have hgg := gLoop_go k x c (l.drop (k + 1)) (by have := HM.out; omega) (by have := HM.out; omega)
          have hx2 := acc_next k x (c.toNat % 128) hx.out (by omega)
          rw [HQ.out] at hx2
          have hcm : c.toNat - 128 = c.toNat % 128 := by have := HM.out; have := c.toNat_lt; omega
          rw [hcm, HQ.out] at hgg
          have HG := Lib.hid (show getN l = gLoop (k + 1) q (l.drop (k + 1)) by rw [hg.out, HD.out]; exact hgg)
          have HX := Lib.hid hx2
          have t9 : ((k : Int) == 9) = false := by simp; omega
          have hk8 : k + 1 ≤ 9 := by omega
          have HB := Lib.hid hbad; clear hgg hx2 hcm hbad
          go_wp2
          go_round
          case rel => exact ⟨k + 1, q, r, z + 7, by go_num, by omega, hk8, rfl, HR2, hr0, hr1, rfl, by omega, by have := hz.out; omega, by have := hz.out; unfold Hid; omega, HX, HG⟩
          case measure => simp [intOf]; omega
        · have hgg := gLoop_end k x c (l.drop (k + 1)) (by have := HM.out; omega) (by have := HM.out; omega)
          have hcm : c.toNat = c.toNat % 128 := by have := HM.out; omega
          rw [show x + c.toNat * 128 ^ k = q by rw [hcm]; exact HQ.out] at hgg
          have HG := Lib.hid (show getN l = .ok q (k + 1) by rw [hg.out, HD.out]; exact hgg)
          clear hgg hcm
          have ht : (((k : Int) == 9) = true ∧ m ≤ 1) ∨ ((k : Int) == 9) = false := by
            by_cases h : k = 9
            · exact .inl ⟨by simp [h], by omega⟩
            · exact .inr (by simp; omega)
          have ht2 : ((m == 0) = true ∧ (k : Int) ≤ 0) ∨ (m == 0) = false := by
            by_cases h : m = 0
            · exact .inl ⟨by simp [h], by omega⟩
            · exact .inr (by simp; omega)
          have HB := Lib.hid hbad; clear hbad
          rcases ht with ⟨t9, tm1⟩ | t9 <;> rcases ht2 with ⟨t0, tk⟩ | t0
          all_goals
            go_wp2_with fail
            (with_reducible refine (signed_any r q HR2 _ hr0 hr1).mono ?_)
            rintro e w' ⟨rfl, rfl⟩
            go_wp2
            go_ret3
            exact ⟨by rw [HG.out]; rfl, rfl⟩
    · obtain rfl : k = l.length := by omega
      have HG := Lib.hid (show getN l = .more by rw [hg.out, List.drop_length, gLoop_nil])
      go_wp2
      go_ret3
      exact ⟨by rw [HG.out]; rfl, rfl⟩
end Go.Proofs.YtclgcfofgiejgaaDoor
