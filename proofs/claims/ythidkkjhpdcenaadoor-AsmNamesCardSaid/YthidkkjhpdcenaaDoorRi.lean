/- THE WALKS: quintainref1.Number. -/
import Derived.Test.YthidkkjhpdcenaaDoorRh
namespace Go.Proofs.YthidkkjhpdcenaaDoor
open Go.RowKit

/-! ### plain -/
def dGo : Int → List UInt8 → Option Int
  | n, [] => some n
  | n, c :: r => if c.toNat < 48 ∨ 57 < c.toNat then none else dGo (n * 10 + ((c.toNat : Int) - 48)) r
def badD (L : Nat) (d : List UInt8) : Prop := d.length < 1 ∨ 10 < d.length ∨ (d.head? = some 48 ∧ (1 < d.length ∨ 1 < L))
instance (L : Nat) (d : List UInt8) : Decidable (badD L d) := by unfold badD; infer_instance
def rFin (L : Nat) (d : List UInt8) (n : Int) : Int × Bool :=
  (if d.length < L then -n else n, decide (-2147483648 ≤ (if d.length < L then -n else n)) && decide ((if d.length < L then -n else n) ≤ 2147483647))
def rN (L : Nat) (d : List UInt8) : Int × Bool := if badD L d then (0, false) else ((dGo 0 d).map (rFin L d)).getD (0, false)
def strip (l : List UInt8) : List UInt8 := if l.head? = some 45 then l.tail else l
def rNum (s : ByteArray) : Int × Bool := rN (lst s).length (strip (lst s))
def refVal (x : Int × Bool) : Value := .tuple #[.int .i64 x.1, .bool x.2]

def p10 (k : Nat) : Int := ((10 ^ k : Nat) : Int)
theorem p10_succ (k : Nat) (n d : Int) (h : n < p10 k) (hd : d ≤ 9) : n * 10 + d < p10 (k + 1) := by
  unfold p10 at *
  rw [Nat.pow_succ]
  omega
theorem p10_le (k : Nat) (h : k ≤ 10) : p10 k ≤ 10000000000 := by
  unfold p10
  have : 10 ^ k ≤ 10 ^ 10 := Nat.pow_le_pow_right (by omega) h
  have e : (10 : Nat) ^ 10 = 10000000000 := by decide
  rw [e] at this
  omega
theorem dGo_bad (n : Int) (c : UInt8) (r : List UInt8) (h : c.toNat < 48 ∨ 57 < c.toNat) : dGo n (c :: r) = none := by rw [dGo, if_pos h]
theorem dGo_go (n : Int) (c : UInt8) (r : List UInt8) (h : ¬ (c.toNat < 48 ∨ 57 < c.toNat)) : dGo n (c :: r) = dGo (n * 10 + ((c.toNat : Int) - 48)) r := by rw [dGo, if_neg h]
theorem head_at (s : ByteArray) (h : 0 < s.size) : (lst s).head? = some (s[0]'h) := by
  have := lst_drop s 0 h
  rw [List.drop_zero] at this
  rw [this]; rfl
theorem head_iff (s : ByteArray) (h : 0 < s.size) (c : UInt8) : (lst s).head? = some c ↔ (s[0]'h).toNat = c.toNat := by
  rw [head_at s h, Option.some.injEq, UInt8.toNat_inj]
theorem lst_tail (s : ByteArray) : lst (s.extract 1 s.size) = (lst s).tail := by
  rw [lst_extract, List.take_of_length_le (by show s.data.toList.length ≤ _; rw [← size_len]; exact Nat.le_refl _), List.drop_one]
theorem lst_len (s : ByteArray) : (lst s).length = s.size := (size_len s).symm

/-! ### a minus ahead -/
set_option maxRecDepth 100000 in
set_option maxHeartbeats 2000000 in
theorem refnumber_minus (s : ByteArray) (w : World) (hs : s.size ≤ maxLen) (h0 : 0 < s.size) (hm : (s[0]'h0).toNat = 45) :
    Calls Tryd.prog 34 #[.string s] w fun e w' => e = .returned (refVal (rN s.size (lst (s.extract 1 s.size)))) ∧ w = w' := by
  unfold maxLen at hs
  have hp : (0 : Int) < (s.size : Int) := by omega
  have hq : (((s[0]'h0).toNat : Int) == 45) = true := by rw [hm]; rfl
  clear hm
  have hl : (lst (s.extract 1 s.size)).length = (s.size - 1) := by rw [lst_len, size_tail]
  have HLEN := Lib.hid hl; clear hl
  by_cases hbad : badD s.size (lst (s.extract 1 s.size))
  · have hv : rN s.size (lst (s.extract 1 s.size)) = (0, false) := by rw [rN, if_pos hbad]
    have HV := Lib.hid hv; clear hv
    unfold badD at hbad
    rw [HLEN.out] at hbad
    by_cases hb1 : (s.size - 1) < 1
    · have q1 : (((s.size - 1) : Nat) : Int) < 1 := by omega
      clear hbad hb1
      go_enter Tryd.func34, Tryd.ntmps34
      go_wp2
      all_goals
        go_ret2
        exact ⟨by rw [HV.out]; rfl, rfl⟩
    · have hd0 : 0 < (s.extract 1 s.size).size := by rw [size_tail]; omega
      rw [head_iff _ hd0] at hbad
      have q1 : ¬ (((s.size - 1) : Nat) : Int) < 1 := by omega
      by_cases hb2 : 10 < (s.size - 1)
      · have q2 : (((s.size - 1) : Nat) : Int) > 10 := by omega
        clear hbad hb1
        go_enter Tryd.func34, Tryd.ntmps34
        go_wp2
        all_goals
          go_ret2
          exact ⟨by rw [HV.out]; rfl, rfl⟩
      · have q2 : ¬ (((s.size - 1) : Nat) : Int) > 10 := by omega
        have q3 : ((((s.extract 1 s.size)[0]'hd0).toNat : Int) == 48) = true := by
          rw [beq_iff_eq]
          have : ((s.extract 1 s.size)[0]'hd0).toNat = 48 := by
            rcases hbad with h | h | h
            · omega
            · omega
            · exact h.1
          rw [this]; rfl
        have q4 : (((s.size - 1) : Nat) : Int) > 1 ∨ (¬ (((s.size - 1) : Nat) : Int) > 1 ∧ (s.size : Int) > 1) := by
          by_cases a : 1 < (s.size - 1)
          · exact .inl (by omega)
          · refine .inr ⟨by omega, ?_⟩
            rcases hbad with h | h | h
            · omega
            · omega
            · omega
        clear hbad hb1 hb2
        rcases q4 with q4 | ⟨q4, q5⟩
        all_goals try (exfalso; omega)
        all_goals
          go_enter Tryd.func34, Tryd.ntmps34
          go_wp2
          all_goals
            go_ret2
            exact ⟨by rw [HV.out]; rfl, rfl⟩
  · have hv : rN s.size (lst (s.extract 1 s.size)) = ((dGo 0 (lst (s.extract 1 s.size))).map (rFin s.size (lst (s.extract 1 s.size)))).getD (0, false) := by rw [rN, if_neg hbad]
    have HV := Lib.hid hv; clear hv
    unfold badD at hbad
    rw [HLEN.out] at hbad
    have hd0 : 0 < (s.extract 1 s.size).size := by rw [size_tail]; omega
    rw [head_iff _ hd0] at hbad
    have q1 : ¬ (((s.size - 1) : Nat) : Int) < 1 := by omega
    have q2 : ¬ (((s.size - 1) : Nat) : Int) > 10 := by omega
    have q3 : ((((s.extract 1 s.size)[0]'hd0).toNat : Int) == 48) = false ∨ (((((s.extract 1 s.size)[0]'hd0).toNat : Int) == 48) = true ∧ ¬ (((s.size - 1) : Nat) : Int) > 1 ∧ ¬ (s.size : Int) > 1) := by
      by_cases a : ((s.extract 1 s.size)[0]'hd0).toNat = 48
      · refine .inr ⟨by rw [a]; rfl, ?_, ?_⟩
        · intro h; exact hbad (.inr (.inr ⟨a, .inl (by omega)⟩))
        · intro h; exact hbad (.inr (.inr ⟨a, .inr (by omega)⟩))
      · exact .inl (by rw [beq_eq_false_iff_ne]; omega)
    have hz10 : (s.size - 1) ≤ 10 := by omega
    clear hbad
    rcases q3 with q3 | ⟨q3, q4, q5⟩
    all_goals try (exfalso; omega)
    all_goals
      go_enter Tryd.func34, Tryd.ntmps34
      go_wp2
      go_loop [5, 6] (fun nv iv => ∃ (k : Nat) (n : Int), k ≤ (s.size - 1) ∧ iv = .int .i64 k ∧ nv = .int .i64 n ∧ 0 ≤ n ∧ n < p10 k ∧ Hid (dGo n ((lst (s.extract 1 s.size)).drop k) = dGo 0 (lst (s.extract 1 s.size)))) (fun _ iv => (s.size - 1) - (intOf iv).toNat)
      case atStart => exact ⟨0, 0, by omega, rfl, rfl, by omega, by simp [p10], by simp [Hid]⟩
      case round =>
        obtain ⟨k, n, hk, rfl, rfl, hn1, hn2, HP⟩ := hrel
        have HN := Lib.hid hn2; clear hn2
        have hn3 : n < 10000000000 := by have := p10_le k (by omega); have := HN.out; omega
        by_cases hlt : k < (s.size - 1)
        · have hki : (k : Int) < (((s.size - 1) : Nat) : Int) := by omega
          have hkd : k < (s.extract 1 s.size).size := by rw [size_tail]; omega
          have HD := Lib.hid (lst_drop (s.extract 1 s.size) k hkd)
          have hb256 := ((s.extract 1 s.size)[k]'hkd).toNat_lt
          by_cases hc : ((s.extract 1 s.size)[k]'hkd).toNat < 48 ∨ 57 < ((s.extract 1 s.size)[k]'hkd).toNat
          · have HB := Lib.hid (dGo_bad n ((s.extract 1 s.size)[k]'hkd) ((lst (s.extract 1 s.size)).drop (k + 1)) hc)
            have hc1 : ((((s.extract 1 s.size)[k]'hkd).toNat : Nat) : Int) < 48 ∨ (¬ ((((s.extract 1 s.size)[k]'hkd).toNat : Nat) : Int) < 48 ∧ ((((s.extract 1 s.size)[k]'hkd).toNat : Nat) : Int) > 57) := by omega
            clear hc
            rcases hc1 with c1 | ⟨c1, c2⟩
            all_goals
              go_wp2
              go_ret2
              refine ⟨?_, rfl⟩
              rw [HV.out, ← HP.out, HD.out, HB.out]; rfl
          · have HB := Lib.hid (dGo_go n ((s.extract 1 s.size)[k]'hkd) ((lst (s.extract 1 s.size)).drop (k + 1)) hc)
            have c1 : ¬ ((((s.extract 1 s.size)[k]'hkd).toNat : Nat) : Int) < 48 := by omega
            have c2 : ¬ ((((s.extract 1 s.size)[k]'hkd).toNat : Nat) : Int) > 57 := by omega
            clear hc
            go_wp2
            go_round
            case rel =>
              refine ⟨k + 1, n * 10 + ((((s.extract 1 s.size)[k]'hkd).toNat : Int) - 48), by omega, by go_num, rfl, by omega, p10_succ k n _ HN.out (by omega), ?_⟩
              unfold Hid
              rw [← HP.out, HD.out, HB.out]
            case measure => simp [intOf]; omega
        · have hki : ¬ (k : Int) < (((s.size - 1) : Nat) : Int) := by omega
          have hfin : rN s.size (lst (s.extract 1 s.size)) = rFin s.size (lst (s.extract 1 s.size)) n := by
            rw [HV.out, ← HP.out, List.drop_eq_nil_of_le (by rw [HLEN.out]; omega), dGo]; rfl
          rw [rFin, HLEN.out, if_pos (by omega)] at hfin
          have HF := Lib.hid hfin; clear hfin
          by_cases hr : -n ≥ -2147483648
          · have hr2 : -n ≤ 2147483647 := by omega
            go_wp2
            go_ret2
            refine ⟨?_, rfl⟩
            rw [HF.out, refVal, decide_eq_true (show (-2147483648 : Int) ≤ -n by omega), decide_eq_true hr2]; rfl
          · go_wp2
            go_ret2
            refine ⟨?_, rfl⟩
            rw [HF.out, refVal, decide_eq_false (show ¬ (-2147483648 : Int) ≤ -n by omega)]; rfl

/-! ### no minus ahead -/
set_option maxRecDepth 100000 in
set_option maxHeartbeats 2000000 in
theorem refnumber_plus (s : ByteArray) (w : World) (hs : s.size ≤ maxLen) (hm : ∀ h0 : 0 < s.size, (s[0]'h0).toNat ≠ 45) :
    Calls Tryd.prog 34 #[.string s] w fun e w' => e = .returned (refVal (rN s.size (lst (s)))) ∧ w = w' := by
  unfold maxLen at hs
  have hpq : ¬ (0 : Int) < (s.size : Int) ∨ ∃ h0 : 0 < s.size, (0 : Int) < (s.size : Int) ∧ (((s[0]'h0).toNat : Int) == 45) = false := by
    by_cases h0 : 0 < s.size
    · exact .inr ⟨h0, by omega, by rw [beq_eq_false_iff_ne]; have := hm h0; omega⟩
    · exact .inl (by omega)
  clear hm
  have hl : (lst (s)).length = s.size := by rw [lst_len]
  have HLEN := Lib.hid hl; clear hl
  by_cases hbad : badD s.size (lst (s))
  · have hv : rN s.size (lst (s)) = (0, false) := by rw [rN, if_pos hbad]
    have HV := Lib.hid hv; clear hv
    unfold badD at hbad
    rw [HLEN.out] at hbad
    by_cases hb1 : s.size < 1
    · have q1 : ((s.size : Nat) : Int) < 1 := by omega
      have hpn : ¬ (0 : Int) < (s.size : Int) := by omega
      clear hpq
      clear hbad hb1
      go_enter Tryd.func34, Tryd.ntmps34
      go_wp2
      all_goals
        go_ret2
        exact ⟨by rw [HV.out]; rfl, rfl⟩
    · have hd0 : 0 < (s).size := by omega
      rw [head_iff _ hd0] at hbad
      obtain ⟨hpp, hqq⟩ : (0 : Int) < (s.size : Int) ∧ (((s[0]'hd0).toNat : Int) == 45) = false := by
        rcases hpq with h | ⟨_, h⟩
        · omega
        · exact h
      clear hpq
      have q1 : ¬ ((s.size : Nat) : Int) < 1 := by omega
      by_cases hb2 : 10 < s.size
      · have q2 : ((s.size : Nat) : Int) > 10 := by omega
        clear hbad hb1
        go_enter Tryd.func34, Tryd.ntmps34
        go_wp2
        all_goals
          go_ret2
          exact ⟨by rw [HV.out]; rfl, rfl⟩
      · have q2 : ¬ ((s.size : Nat) : Int) > 10 := by omega
        have q3 : ((((s)[0]'hd0).toNat : Int) == 48) = true := by
          rw [beq_iff_eq]
          have : ((s)[0]'hd0).toNat = 48 := by
            rcases hbad with h | h | h
            · omega
            · omega
            · exact h.1
          rw [this]; rfl
        have q4 : ((s.size : Nat) : Int) > 1 ∨ (¬ ((s.size : Nat) : Int) > 1 ∧ (s.size : Int) > 1) := by
          by_cases a : 1 < s.size
          · exact .inl (by omega)
          · refine .inr ⟨by omega, ?_⟩
            rcases hbad with h | h | h
            · omega
            · omega
            · omega
        clear hbad hb1 hb2
        rcases q4 with q4 | ⟨q4, q5⟩
        all_goals try (exfalso; omega)
        all_goals
          go_enter Tryd.func34, Tryd.ntmps34
          go_wp2
          all_goals
            go_ret2
            exact ⟨by rw [HV.out]; rfl, rfl⟩
  · have hv : rN s.size (lst (s)) = ((dGo 0 (lst (s))).map (rFin s.size (lst (s)))).getD (0, false) := by rw [rN, if_neg hbad]
    have HV := Lib.hid hv; clear hv
    unfold badD at hbad
    rw [HLEN.out] at hbad
    have hd0 : 0 < (s).size := by omega
    rw [head_iff _ hd0] at hbad
    obtain ⟨hpp, hqq⟩ : (0 : Int) < (s.size : Int) ∧ (((s[0]'hd0).toNat : Int) == 45) = false := by
      rcases hpq with h | ⟨_, h⟩
      · omega
      · exact h
    clear hpq
    have q1 : ¬ ((s.size : Nat) : Int) < 1 := by omega
    have q2 : ¬ ((s.size : Nat) : Int) > 10 := by omega
    have q3 : ((((s)[0]'hd0).toNat : Int) == 48) = false ∨ (((((s)[0]'hd0).toNat : Int) == 48) = true ∧ ¬ ((s.size : Nat) : Int) > 1 ∧ ¬ (s.size : Int) > 1) := by
      by_cases a : ((s)[0]'hd0).toNat = 48
      · refine .inr ⟨by rw [a]; rfl, ?_, ?_⟩
        · intro h; exact hbad (.inr (.inr ⟨a, .inl (by omega)⟩))
        · intro h; exact hbad (.inr (.inr ⟨a, .inr (by omega)⟩))
      · exact .inl (by rw [beq_eq_false_iff_ne]; omega)
    have hz10 : s.size ≤ 10 := by omega
    clear hbad
    rcases q3 with q3 | ⟨q3, q4, q5⟩
    all_goals try (exfalso; omega)
    all_goals
      go_enter Tryd.func34, Tryd.ntmps34
      go_wp2
      go_loop [5, 6] (fun nv iv => ∃ (k : Nat) (n : Int), k ≤ s.size ∧ iv = .int .i64 k ∧ nv = .int .i64 n ∧ 0 ≤ n ∧ n < p10 k ∧ Hid (dGo n ((lst (s)).drop k) = dGo 0 (lst (s)))) (fun _ iv => s.size - (intOf iv).toNat)
      case atStart => exact ⟨0, 0, by omega, rfl, rfl, by omega, by simp [p10], by simp [Hid]⟩
      case round =>
        obtain ⟨k, n, hk, rfl, rfl, hn1, hn2, HP⟩ := hrel
        have HN := Lib.hid hn2; clear hn2
        have hn3 : n < 10000000000 := by have := p10_le k (by omega); have := HN.out; omega
        by_cases hlt : k < s.size
        · have hki : (k : Int) < ((s.size : Nat) : Int) := by omega
          have hkd : k < (s).size := by exact hlt
          have HD := Lib.hid (lst_drop (s) k hkd)
          have hb256 := ((s)[k]'hkd).toNat_lt
          by_cases hc : ((s)[k]'hkd).toNat < 48 ∨ 57 < ((s)[k]'hkd).toNat
          · have HB := Lib.hid (dGo_bad n ((s)[k]'hkd) ((lst (s)).drop (k + 1)) hc)
            have hc1 : ((((s)[k]'hkd).toNat : Nat) : Int) < 48 ∨ (¬ ((((s)[k]'hkd).toNat : Nat) : Int) < 48 ∧ ((((s)[k]'hkd).toNat : Nat) : Int) > 57) := by omega
            clear hc
            rcases hc1 with c1 | ⟨c1, c2⟩
            all_goals
              go_wp2
              go_ret2
              refine ⟨?_, rfl⟩
              rw [HV.out, ← HP.out, HD.out, HB.out]; rfl
          · have HB := Lib.hid (dGo_go n ((s)[k]'hkd) ((lst (s)).drop (k + 1)) hc)
            have c1 : ¬ ((((s)[k]'hkd).toNat : Nat) : Int) < 48 := by omega
            have c2 : ¬ ((((s)[k]'hkd).toNat : Nat) : Int) > 57 := by omega
            clear hc
            go_wp2
            go_round
            case rel =>
              refine ⟨k + 1, n * 10 + ((((s)[k]'hkd).toNat : Int) - 48), by omega, by go_num, rfl, by omega, p10_succ k n _ HN.out (by omega), ?_⟩
              unfold Hid
              rw [← HP.out, HD.out, HB.out]
            case measure => simp [intOf]; omega
        · have hki : ¬ (k : Int) < ((s.size : Nat) : Int) := by omega
          have hfin : rN s.size (lst (s)) = rFin s.size (lst (s)) n := by
            rw [HV.out, ← HP.out, List.drop_eq_nil_of_le (by rw [HLEN.out]; omega), dGo]; rfl
          rw [rFin, HLEN.out, if_neg (by omega)] at hfin
          have HF := Lib.hid hfin; clear hfin
          have hr1 : n ≥ -2147483648 := by omega
          by_cases hr : n ≤ 2147483647
          · go_wp2
            go_ret2
            refine ⟨?_, rfl⟩
            rw [HF.out, refVal, decide_eq_true (show (-2147483648 : Int) ≤ n by omega), decide_eq_true hr]; rfl
          · go_wp2
            go_ret2
            refine ⟨?_, rfl⟩
            rw [HF.out, refVal, decide_eq_true (show (-2147483648 : Int) ≤ n by omega), decide_eq_false (show ¬ n ≤ 2147483647 by omega)]; rfl

theorem refnumber_any (s : ByteArray) (w : World) (hs : s.size ≤ maxLen) :
    Calls Tryd.prog 34 #[.string s] w fun e w' => e = .returned (refVal (rNum s)) ∧ w = w' := by
  by_cases h0 : 0 < s.size
  · by_cases hm : (s[0]'h0).toNat = 45
    · have e : rNum s = rN s.size (lst (s.extract 1 s.size)) := by
        unfold rNum strip
        rw [if_pos ((head_iff s h0 45).2 hm), lst_tail, lst_len]
      rw [e]
      exact refnumber_minus s w hs h0 hm
    · have e : rNum s = rN s.size (lst s) := by
        unfold rNum strip
        rw [if_neg (fun h => hm ((head_iff s h0 45).1 h)), lst_len]
      rw [e]
      exact refnumber_plus s w hs fun _ => hm
  · have e : rNum s = rN s.size (lst s) := by
      have : lst s = [] := List.eq_nil_of_length_eq_zero (by rw [lst_len]; omega)
      unfold rNum strip
      rw [lst_len, this]; rfl
    rw [e]
    exact refnumber_plus s w hs fun h => absurd h h0
end Go.Proofs.YthidkkjhpdcenaaDoor
