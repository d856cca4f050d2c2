/- texts of YpO -/
import Derived.Laws.Bits128
import Derived.Lib.AppendStr
import Derived.Outline
import Derived.Test.YtpnobpligchpiaaGreatDoorYpK
namespace Go.Proofs.YtpnobpligchpiaaGreatDoor
def zig (n : Int) : Nat := if n < 0 then 2 * (-(n + 1)).toNat + 1 else 2 * n.toNat
def zag (u : Nat) : Int := if u % 2 = 1 then -((u / 2 : Nat) : Int) - 1 else ((u / 2 : Nat) : Int)
theorem zag_zig (n : Int) : zag (zig n) = n := by unfold zag zig; split <;> split <;> omega
theorem zig_zag (u : Nat) : zig (zag u) = u := by unfold zag zig; split <;> split <;> omega
def in64 (n : Int) : Prop := -9223372036854775808 ≤ n ∧ n ≤ 9223372036854775807
theorem zig_lt (n : Int) (h : in64 n) : zig n < 18446744073709551616 := by unfold in64 at h; unfold zig; split <;> omega
theorem zag_in (u : Nat) (h : u < 18446744073709551616) : in64 (zag u) := by unfold in64 zag; split <;> omega
def putU (u : Nat) : List UInt8 := if h : u < 128 then [UInt8.ofNat u] else UInt8.ofNat (u % 128 + 128) :: putU (u / 128)
termination_by u
decreasing_by omega
theorem putU_small (u : Nat) (h : u < 128) : putU u = [UInt8.ofNat u] := by rw [putU, dif_pos h]
theorem putU_big (u : Nat) (h : ¬ u < 128) : putU u = UInt8.ofNat (u % 128 + 128) :: putU (u / 128) := by rw [putU, dif_neg h]
theorem putU_pos (u : Nat) : 0 < (putU u).length := by rw [putU]; split <;> simp
theorem putU_len (u : Nat) : ∀ k, u < 128 ^ k → 0 < k → (putU u).length ≤ k := by
 induction u using Nat.strongRecOn with
 | _ u ih =>
   intro k hk h0
   by_cases h : u < 128
   · rw [putU_small u h]; simp; omega
   · rw [putU_big u h, List.length_cons]
     obtain ⟨j, rfl⟩ : ∃ j, k = j + 1 := ⟨k - 1, by omega⟩
     rw [Nat.pow_succ] at hk
     have hj : 0 < j := by
      rcases Nat.eq_zero_or_pos j with rfl | h1
      · simp at hk; omega
      · exact h1
     have := ih (u / 128) (by omega) j (by omega) hj
     omega
def putN (n : Int) : List UInt8 := putU (zig n)
theorem putN_len (n : Int) (h : in64 n) : (putN n).length ≤ 10 :=
 putU_len _ 10 (Nat.lt_of_lt_of_le (zig_lt n h) (by decide)) (by decide)
theorem putN_pos (n : Int) : 0 < (putN n).length := putU_pos _
inductive Got where
 | more
 | form
 | ok (u k : Nat)
def gLoop : Nat → Nat → List UInt8 → Got
 | _, _, [] => .more
 | i, u, c :: r => if (i = 9 ∧ 1 < c.toNat) ∨ (0 < i ∧ c.toNat = 0) then .form else if c.toNat < 128 then .ok (u + c.toNat * 128 ^ i) (i + 1) else gLoop (i + 1) (u + (c.toNat - 128) * 128 ^ i) r
theorem gLoop_nil (i u : Nat) : gLoop i u [] = .more := by rw [gLoop]
theorem gLoop_bad (i u : Nat) (c : UInt8) (r : List UInt8) (h : (i = 9 ∧ 1 < c.toNat) ∨ (0 < i ∧ c.toNat = 0)) : gLoop i u (c :: r) = .form := by rw [gLoop, if_pos h]
theorem gLoop_end (i u : Nat) (c : UInt8) (r : List UInt8) (h : ¬ ((i = 9 ∧ 1 < c.toNat) ∨ (0 < i ∧ c.toNat = 0))) (hc : c.toNat < 128) : gLoop i u (c :: r) = .ok (u + c.toNat * 128 ^ i) (i + 1) := by rw [gLoop, if_neg h, if_pos hc]
theorem gLoop_go (i u : Nat) (c : UInt8) (r : List UInt8) (h : ¬ ((i = 9 ∧ 1 < c.toNat) ∨ (0 < i ∧ c.toNat = 0))) (hc : ¬ c.toNat < 128) : gLoop i u (c :: r) = gLoop (i + 1) (u + (c.toNat - 128) * 128 ^ i) r := by rw [gLoop, if_neg h, if_neg hc]
theorem ofNat_nat (u : Nat) (h : u < 256) : (UInt8.ofNat u).toNat = u := by rw [UInt8.toNat_ofNat']; omega
theorem gLoop_put (v : Nat) : ∀ (i u : Nat) (r : List UInt8), i ≤ 9 → v * 128 ^ i < 18446744073709551616 → (0 < i → 0 < v) → gLoop i u (putU v ++ r) = .ok (u + v * 128 ^ i) (i + (putU v).length) := by
 induction v using Nat.strongRecOn with
 | _ v ih =>
   intro i u r hi hv h0
   have h9 : i = 9 → v ≤ 1 := fun h => by
    subst h
    have e : (128 : Nat) ^ 9 = 9223372036854775808 := by decide
    rw [e] at hv; omega
   by_cases h : v < 128
   · rw [putU_small v h]
     have hc := ofNat_nat v (by omega)
     show gLoop i u (UInt8.ofNat v :: r) = _
     rw [gLoop_end i u _ r (by rw [hc]; omega) (by rw [hc]; exact h), hc]
     rfl
   · rw [putU_big v h]
     have hc := ofNat_nat (v % 128 + 128) (by omega)
     have hi8 : i ≤ 8 := by
      rcases Nat.lt_or_ge i 9 with h1 | h1
      · omega
      · have := h9 (by omega); omega
     show gLoop i u (UInt8.ofNat (v % 128 + 128) :: (putU (v / 128) ++ r)) = _
     have e : v * 128 ^ i = (v % 128) * 128 ^ i + v / 128 * 128 ^ (i + 1) := by
      rw [Nat.pow_succ, Nat.mul_comm (128 ^ i) 128, ← Nat.mul_assoc, ← Nat.add_mul]
      congr 1; omega
     rw [gLoop_go i u _ _ (by rw [hc]; omega) (by rw [hc]; omega), hc, Nat.add_sub_cancel, ih (v / 128) (by omega) (i + 1) _ r (by omega) (by omega) (fun _ => by omega), List.length_cons]
     congr 1 <;> omega
theorem gLoop_got (l : List UInt8) : ∀ (i u x k : Nat), i ≤ 9 → gLoop i u l = .ok x k → ∃ v, x = u + v * 128 ^ i ∧ v * 128 ^ i < 18446744073709551616 ∧ (0 < i → 0 < v) ∧ k = i + (putU v).length ∧ l.take (putU v).length = putU v ∧ (putU v).length ≤ l.length := by
 induction l with
 | nil => intro i u x k _ h; rw [gLoop_nil] at h; cases h
 | cons c r ih =>
   intro i u x k hi h
   have hlt := c.toNat_lt
   by_cases hb : (i = 9 ∧ 1 < c.toNat) ∨ (0 < i ∧ c.toNat = 0)
   · rw [gLoop_bad i u c r hb] at h; cases h
   by_cases hc : c.toNat < 128
   · rw [gLoop_end i u c r hb hc] at h
     injection h with h1 h2
     have hp : putU c.toNat = [c] := by rw [putU_small _ hc, UInt8.ofNat_toNat]
     refine ⟨c.toNat, h1.symm, ?_, fun h => by omega, by rw [hp]; exact h2.symm, by rw [hp]; rfl, by rw [hp]; simp⟩
     have hm : c.toNat * 128 ^ i ≤ (if i = 9 then 1 else 127) * 128 ^ i := Nat.mul_le_mul_right _ (by split <;> omega)
     by_cases h9 : i = 9
     · rw [if_pos h9] at hm; subst h9
       have e : (128 : Nat) ^ 9 = 9223372036854775808 := by decide
       rw [e] at *; omega
     · rw [if_neg h9] at hm
       have hpw : (128 : Nat) ^ i ≤ 128 ^ 8 := Nat.pow_le_pow_right (by omega) (by omega)
       have e : (128 : Nat) ^ 8 = 72057594037927936 := by decide
       rw [e] at hpw; omega
   · rw [gLoop_go i u c r hb hc] at h
     have hi8 : i ≤ 8 := by omega
     obtain ⟨v, e1, e2, e3, e4, e5, e6⟩ := ih (i + 1) _ x k (by omega) h
     have hv := e3 (by omega)
     have hbig : ¬ (c.toNat - 128 + 128 * v) < 128 := by omega
     have hm : (c.toNat - 128 + 128 * v) % 128 + 128 = c.toNat := by omega
     have hd : (c.toNat - 128 + 128 * v) / 128 = v := by omega
     have hp : putU (c.toNat - 128 + 128 * v) = c :: putU v := by rw [putU_big _ hbig, hm, hd, UInt8.ofNat_toNat]
     have e : (c.toNat - 128 + 128 * v) * 128 ^ i = (c.toNat - 128) * 128 ^ i + v * 128 ^ (i + 1) := by
      rw [Nat.pow_succ, Nat.add_mul, Nat.mul_comm (128 ^ i) 128, ← Nat.mul_assoc, Nat.mul_comm v 128]
     refine ⟨c.toNat - 128 + 128 * v, by rw [e]; omega, ?_, fun _ => by omega, by rw [hp, List.length_cons]; omega, by rw [hp, List.length_cons, List.take_succ_cons, e5], by rw [hp, List.length_cons, List.length_cons]; omega⟩
     -- below 2^64: what stands behind is a number of 7 bits a byte, and the first one is below 128
     have h1 : v * 128 ^ (i + 1) ≤ 18446744073709551616 - 128 ^ (i + 1) := by
      have hdv : 128 ^ (i + 1) * (18446744073709551616 / 128 ^ (i + 1)) = 18446744073709551616 := by
       obtain rfl | rfl | rfl | rfl | rfl | rfl | rfl | rfl | rfl : i = 0 ∨ i = 1 ∨ i = 2 ∨ i = 3 ∨ i = 4 ∨ i = 5 ∨ i = 6 ∨ i = 7 ∨ i = 8 := by omega
       all_goals decide
      have hlt2 : v < 18446744073709551616 / 128 ^ (i + 1) := by
       refine Nat.lt_of_mul_lt_mul_left (a := 128 ^ (i + 1)) ?_
       rw [hdv, Nat.mul_comm]; exact e2
      have h3 : (v + 1) * 128 ^ (i + 1) ≤ 18446744073709551616 := by
       have := Nat.mul_le_mul_left (128 ^ (i + 1)) (show v + 1 ≤ 18446744073709551616 / 128 ^ (i + 1) by omega)
       rw [hdv, Nat.mul_comm] at this; exact this
      rw [Nat.add_mul, Nat.one_mul] at h3
      omega
     have h2 : (c.toNat - 128) * 128 ^ i < 128 ^ (i + 1) := by
      rw [Nat.pow_succ, Nat.mul_comm]
      exact Nat.mul_lt_mul_of_pos_left (by omega) (Nat.pow_pos (by omega))
     have h3 : 128 ^ (i + 1) ≤ 18446744073709551616 := by
      have hpw : (128 : Nat) ^ (i + 1) ≤ 128 ^ 9 := Nat.pow_le_pow_right (by omega) (by omega)
      have e : (128 : Nat) ^ 9 = 9223372036854775808 := by decide
      omega
     rw [e]; omega
def getN (l : List UInt8) : Got := gLoop 0 0 l
theorem getN_put (n : Int) (r : List UInt8) (h : in64 n) : getN (putN n ++ r) = .ok (zig n) (putN n).length := by
 have := gLoop_put (zig n) 0 0 r (by omega) (by simpa using zig_lt n h) (by omega)
 simpa [getN, putN] using this
theorem getN_got (l : List UInt8) (x k : Nat) (h : getN l = .ok x k) : x < 18446744073709551616 ∧ k = (putN (zag x)).length ∧ l.take k = putN (zag x) ∧ k ≤ l.length ∧ 0 < k := by
 obtain ⟨v, e1, e2, _, e4, e5, e6⟩ := gLoop_got l 0 0 x k (by omega) h
 simp only [Nat.pow_zero, Nat.mul_one, Nat.zero_add] at e1 e2 e4
 subst e1
 unfold putN
 rw [zig_zag]
 exact ⟨e2, e4, by rw [e4]; exact e5, by rw [e4]; exact e6, by rw [e4]; exact putU_pos _⟩
theorem getN_split (l : List UInt8) (x k : Nat) (h : getN l = .ok x k) : l = putN (zag x) ++ l.drop k := by
 obtain ⟨_, _, e, _, _⟩ := getN_got l x k h
 rw [← e, List.take_append_drop]
open Go.RowKit
set_option linter.unusedVariables false
theorem ret_int {k : IntKind} {a b : Int} (h : a = b) : Ending.returned (.int k a) = .returned (.int k b) := by rw [h]
theorem unsigned_any (n : Int) (w : World) (hn : in64 n) :
 Calls Tryz.prog 172 #[.int .i64 n] w fun e w' => e = .returned (.int .u64 (zig n : Int)) ∧ w = w' := by
 obtain ⟨h1, h2⟩ := hn
 by_cases h : n < 0
 · go_enter Tryz.func172, Tryz.ntmps172
   go_wp2
   go_ret
   refine ⟨ret_int ?_, rfl⟩
   unfold zig; split <;> omega
 · go_enter Tryz.func172, Tryz.ntmps172
   go_wp2
   go_ret
   refine ⟨ret_int ?_, rfl⟩
   unfold zig; split <;> omega
theorem or_128 (y : Int) (h0 : 0 ≤ y) (h1 : y < 128) : bits .or .u8 128 y = 128 + y := by
 have hc : bits .or .u8 128 y = bits .or .u8 y 128 := by simp only [bits, BitVec.or_comm]
 rw [hc, u8_or128_right y h0 h1, Int.add_comm]
def bOne (x : Int) : Obj := .cells #[.int .u8 x] 5
theorem one_reads (w : World) (x : Int) (c : UInt8) (h : (c.toNat : Int) = x) : RB (w.alloc (bOne x)) (w.heap.size + 1) (some ⟨w.heap.size, 0, none⟩) [c] := fun _ => by
 refine ⟨_, _, rfl, Nat.lt_succ_self _, fun j hj => ?_⟩
 have hj : j < 1 := hj
 obtain rfl : j = 0 := by omega
 rw [cell_of_row _ _ _ _ _ _ (heap_alloc_new w (bOne x))]
 show some (Value.int .u8 x) = _
 rw [← h]; rfl
set_option maxHeartbeats 1000000 in
theorem put_any (A : Option Addr) (l : List UInt8) (cap B : Nat) (n : Int) (w : World) (hr : RB w B A l) (hB : B ≤ w.heap.size) (hn : in64 n) (hl : l.length ≤ 1099511627776) :
 Calls Tryz.prog 147 #[.slice A l.length cap, .int .i64 n] w fun e w' => ∃ v, e = .returned v ∧ OB w' w.heap.size v (l ++ putN n) ∧ Below w.heap.size w w' := by
 have HN := qh hn; clear hn
 have HR := qh hr; clear hr
 go_enter Tryz.func147, Tryz.ntmps147
 go_wp2_with (at_builtin; refine wpList_append_bytes rfl (.const (.slice none 0 0)) _ rfl w.heap.size (.slice none 0 0) [] l rfl (OB.nil _ _) B A cap rfl HR.out (by simp; omega) (nl _) ?_; intro v1 w1 o1 g1 e1)
 go_wp2_with fail
 refine (unsigned_any n _ HN.out).mono ?_
 rintro e w' ⟨rfl, rfl⟩
 go_wp2_with fail
 rw [List.nil_append] at o1
 have b1 : Below w.heap.size w w1 := (bR _ _).grown g1 (nl _) (by simp [Value.ownBlock])
 have HO := qh o1; clear o1
 have HZ := qh (zig_lt n HN.out); clear g1 e1
 go_loopw [5, 6] (fun v u wr => ∃ (y : Int) (x : Nat) (p : List UInt8), u = .int .u64 y ∧ Hid (y = x) ∧ 0 ≤ y ∧ y ≤ 18446744073709551615 ∧ Hid (p ++ putU x = putU (zig n)) ∧ Hid (OB wr w.heap.size v (l ++ p)) ∧ Below w.heap.size w wr) (fun _ u _ => (intOf u).toNat)
 case atStart => exact ⟨_, zig n, [], rfl, rfl, by omega, by have := HZ.out; omega, rfl, by rw [List.append_nil]; exact HO, b1⟩
 case round =>
  obtain ⟨y, x, p, rfl, hy, hy0, hy1, hp, ho, hb⟩ := hrel
  have hpl : p.length ≤ 10 := by
   have h1 := putN_len n HN.out
   unfold putN at h1
   rw [← hp.out, List.length_append] at h1
   omega
  clear HO b1
  have hsz := hb.size
  have hlen : (l ++ p).length + 1 ≤ 140737488355328 := by rw [List.length_append]; omega
  have h8 : ∀ o : Obj, w.heap.size ≤ (wr.alloc o).heap.size := fun o => by rw [World.size_alloc]; omega
  have H8 := qh h8; clear h8
  by_cases hlt : y < 128
  · have e := hy.out
    have HE := qh (putU_small x (by omega))
    have hc := one_reads wr y (UInt8.ofNat x) (by rw [ofNat_nat x (by omega)]; exact e.symm)
    have HC := qh hc; clear hc
    clear e
    have o2 : OB (wr.alloc (bOne y)) w.heap.size u5 (l ++ p) := ho.out.alloc _
    have b2 : Below w.heap.size w (wr.alloc (bOne y)) := hb.alloc hsz _
    have H2 := qh o2; clear o2
    have HL := qh hlen; clear hlen
    go_wp2_with (at_builtin; refine wpList_append_bytes rfl (.tmp 22) (.tmp 25) rfl w.heap.size u5 (l ++ p) [UInt8.ofNat x] rfl H2.out (wr.heap.size + 1) _ 1 rfl HC.out HL.out (H8.out _) ?_; intro v2 w2 o3 g2 e2)
    go_ret
    refine ⟨_, rfl, ?_, b2.grown g2 (by rw [World.size_alloc]; omega) H2.out.ge⟩
    have hq := hp.out
    rw [HE.out] at hq
    unfold putN
    rw [← hq, ← List.append_assoc]
    exact o3
  · have e := hy.out
    have HE := qh (putU_big x (by omega))
    have hor := or_128 (y % 128) (by omega) (by omega)
    have hc := one_reads wr (128 + y % 128) (UInt8.ofNat (x % 128 + 128)) (by rw [ofNat_nat _ (by omega)]; omega)
    have HC := qh hc; clear hc
    have HD := qh (show y / 128 = ((x / 128 : Nat) : Int) by omega)
    clear e
    have o2 : OB (wr.alloc (bOne (128 + y % 128))) w.heap.size u5 (l ++ p) := ho.out.alloc _
    have b2 : Below w.heap.size w (wr.alloc (bOne (128 + y % 128))) := hb.alloc hsz _
    have H2 := qh o2; clear o2
    have HL := qh hlen; clear hlen
    go_wp2_with (at_builtin; refine wpList_append_bytes rfl (.tmp 13) (.tmp 18) rfl w.heap.size u5 (l ++ p) [UInt8.ofNat (x % 128 + 128)] rfl H2.out (wr.heap.size + 1) _ 1 rfl HC.out HL.out (H8.out _) ?_; intro v2 w2 o3 g2 e2)
    have b3 : Below w.heap.size w w2 := b2.grown g2 (by rw [World.size_alloc]; omega) H2.out.ge
    clear g2 e2
    have H3 := qh o3; clear o3
    go_wp2
    go_roundw
    case rel =>
     refine ⟨y / 128, x / 128, p ++ [UInt8.ofNat (x % 128 + 128)], ?_, HD.out, by omega, by omega, ?_, ?_, b3⟩
     · first | rfl | (show _ = Value.int .u64 (y / 128); simp; done) | (trace_state; fail)
     · have hq := hp.out
       rw [HE.out] at hq
       unfold Hid
       rw [List.append_assoc]
       exact hq
     · have := H3.out
       rw [List.append_assoc] at this
       exact this
    case measure => simp [intOf]; omega
theorem not_u64 (x : Nat) (h : x < 18446744073709551616) : bits .xor .u64 IntKind.u64.max (x : Int) = 18446744073709551615 - (x : Int) := by
 have hx : 18446744073709551615 ^^^ x = 18446744073709551615 - x := by
  apply Nat.eq_of_testBit_eq
  intro i
  have e := congrArg (fun b => b) (Nat.testBit_two_pow_sub_succ (x := x) (n := 64) (by simpa using h) i)
  have e2 : (2 : Nat) ^ 64 - (x + 1) = 18446744073709551615 - x := by omega
  rw [e2] at e
  rw [e, Nat.testBit_xor]
  have e3 : (18446744073709551615 : Nat) = 2 ^ 64 - 1 := by decide
  rw [e3, Nat.testBit_two_pow_sub_one]
  by_cases hi : i < 64
  · simp [hi]
  · have : x.testBit i = false := Nat.testBit_lt_two_pow (Nat.lt_of_lt_of_le h (by
     have := Nat.pow_le_pow_right (n := 2) (by omega) (show 64 ≤ i by omega)
     simpa using this))
    simp [hi, this]
 have hm : IntKind.u64.max = ((18446744073709551615 : Nat) : Int) := by decide
 rw [hm, u64_xor_nat _ _ (by omega) h, hx]
 omega
theorem flip (n : Int) (h1 : -9223372036854775808 ≤ n) (h : n < 0) : bits .xor .u64 IntKind.u64.max (IntKind.u64.wrap (IntKind.u64.wrap n * 2)) = (zig n : Int) := by
 obtain ⟨x, hx⟩ : ∃ x : Nat, (x : Int) = 18446744073709551616 + 2 * n := ⟨(18446744073709551616 + 2 * n).toNat, by omega⟩
 have e : IntKind.u64.wrap (IntKind.u64.wrap n * 2) = (x : Int) := by rw [IntKind.wrap_u64, IntKind.wrap_u64]; omega
 rw [e, not_u64 x (by omega)]
 unfold zig; rw [if_pos h]; omega
set_option maxHeartbeats 1000000 in
theorem refput_any (n : Int) (w : World) (hn : in64 n) :
 Calls Tryz.prog 78 #[.int .i64 n] w fun e w' => ∃ v, e = .returned v ∧ OB w' w.heap.size v (putN n) ∧ Below w.heap.size w w' := by
 have HN := qh hn
 have HZ := qh (zig_lt n HN.out)
 obtain ⟨h1, h2⟩ := hn
 by_cases hneg : n < 0
 all_goals
  have HQ : Hid (n < 0 → bits .xor .u64 IntKind.u64.max (IntKind.u64.wrap (IntKind.u64.wrap n * 2)) = (zig n : Int)) := flip n h1
  have HP : Hid (¬ n < 0 → n * 2 = (zig n : Int)) := fun h => by unfold zig; rw [if_neg h]; omega
  go_enter Tryz.func78, Tryz.ntmps78
  go_wp2
  go_loopw [4, 3] (fun v u wr => ∃ (y : Int) (x : Nat) (p : List UInt8), u = .int .u64 y ∧ Hid (y = x) ∧ 0 ≤ y ∧ y ≤ 18446744073709551615 ∧ Hid (p ++ putU x = putU (zig n)) ∧ Hid (OB wr w.heap.size v p) ∧ Below w.heap.size w wr) (fun _ u _ => (intOf u).toNat)
  case atStart =>
   have hz := HZ.out
   first
    | (have e := HQ.out hneg; exact ⟨_, zig n, [], rfl, e, by omega, by omega, rfl, OB.nil _ _, bR _ _⟩)
    | (have e := HP.out hneg; exact ⟨_, zig n, [], rfl, e, by omega, by omega, rfl, OB.nil _ _, bR _ _⟩)
    | (have e := HP.out (by omega); exact ⟨_, zig n, [], rfl, e, by omega, by omega, rfl, OB.nil _ _, bR _ _⟩)
  case round =>
   obtain ⟨y, x, p, rfl, hy, hy0, hy1, hp, ho, hb⟩ := hrel
   have hpl : p.length ≤ 10 := by
    have h1 := putN_len n HN.out
    unfold putN at h1
    rw [← hp.out, List.length_append] at h1
    omega
   clear hneg
   have hsz := hb.size
   have hlen : p.length + 1 ≤ 140737488355328 := by omega
   have h8 : ∀ o : Obj, w.heap.size ≤ (wr.alloc o).heap.size := fun o => by rw [World.size_alloc]; omega
   have H8 := qh h8; clear h8
   by_cases hlt : y < 128
   · have e := hy.out
     have HE := qh (putU_small x (by omega))
     have hc := one_reads wr y (UInt8.ofNat x) (by rw [ofNat_nat x (by omega)]; exact e.symm)
     have HC := qh hc; clear hc
     clear e
     have o2 : OB (wr.alloc (bOne y)) w.heap.size u4 p := ho.out.alloc _
     have b2 : Below w.heap.size w (wr.alloc (bOne y)) := hb.alloc hsz _
     have H2 := qh o2; clear o2
     have HL := qh hlen; clear hlen
     go_wp2_with (at_builtin; refine wpList_append_bytes rfl (.tmp 23) (.tmp 26) rfl w.heap.size u4 p [UInt8.ofNat x] rfl H2.out (wr.heap.size + 1) _ 1 rfl HC.out HL.out (H8.out _) ?_; intro v2 w2 o3 g2 e2)
     go_ret
     refine ⟨_, rfl, ?_, b2.grown g2 (by rw [World.size_alloc]; omega) H2.out.ge⟩
     have hq := hp.out
     rw [HE.out] at hq
     unfold putN
     rw [← hq]
     exact o3
   · have e := hy.out
     have HE := qh (putU_big x (by omega))
     have hc := one_reads wr (y % 128 + 128) (UInt8.ofNat (x % 128 + 128)) (by rw [ofNat_nat _ (by omega)]; omega)
     have HC := qh hc; clear hc
     have HD := qh (show y / 128 = ((x / 128 : Nat) : Int) by omega)
     clear e
     have o2 : OB (wr.alloc (bOne (y % 128 + 128))) w.heap.size u4 p := ho.out.alloc _
     have b2 : Below w.heap.size w (wr.alloc (bOne (y % 128 + 128))) := hb.alloc hsz _
     have H2 := qh o2; clear o2
     have HL := qh hlen; clear hlen
     go_wp2_with (at_builtin; refine wpList_append_bytes rfl (.tmp 14) (.tmp 19) rfl w.heap.size u4 p [UInt8.ofNat (x % 128 + 128)] rfl H2.out (wr.heap.size + 1) _ 1 rfl HC.out HL.out (H8.out _) ?_; intro v2 w2 o3 g2 e2)
     have b3 : Below w.heap.size w w2 := b2.grown g2 (by rw [World.size_alloc]; omega) H2.out.ge
     clear g2 e2
     have H3 := qh o3; clear o3
     go_wp2
     go_roundw
     case rel =>
      refine ⟨y / 128, x / 128, p ++ [UInt8.ofNat (x % 128 + 128)], rfl, HD.out, by omega, by omega, ?_, H3.out, b3⟩
      have hq := hp.out
      rw [HE.out] at hq
      unfold Hid
      rw [List.append_assoc]
      exact hq
     case measure => simp [intOf]; omega
theorem signed_any (u : Int) (x : Nat) (hx : Hid (u = x)) (w : World) (h0 : 0 ≤ u) (h1 : u ≤ 18446744073709551615) :
 Calls Tryz.prog 190 #[.int .u64 u] w fun e w' => e = .returned (.int .i64 (zag x)) ∧ w = w' := by
 by_cases h : u % 2 = 1
 · have e : zag x = -(u / 2) - 1 := by have := hx.out; unfold zag; rw [if_pos (by omega)]; omega
   have h' : (u % 2 == 1) = true := by simpa using h
   have HE := qh e; have H := qh h; clear e h
   go_enter Tryz.func190, Tryz.ntmps190
   go_wp2
   go_ret
   exact ⟨ret_int HE.out.symm, rfl⟩
 · have e : zag x = u / 2 := by have := hx.out; unfold zag; rw [if_neg (by omega)]; omega
   have h' : (u % 2 == 1) = false := by simpa using h
   have HE := qh e; have H := qh h; clear e h
   go_enter Tryz.func190, Tryz.ntmps190
   go_wp2
   go_ret
   exact ⟨ret_int HE.out.symm, rfl⟩
def gotV : Got → Value
 | .more => .tuple #[.int .i64 0, .int .i64 0, .int .i64 2]
 | .form => .tuple #[.int .i64 0, .int .i64 0, .int .i64 1]
 | .ok u k => .tuple #[.int .i64 (zag u), .int .i64 (k : Int), .int .i64 0]
theorem add_or (i x c : Nat) (hx : x < 128 ^ i) (hc : x + c * 128 ^ i < 18446744073709551616) : bits .or .u64 (x : Int) ((c * 128 ^ i : Nat) : Int) = ((x + c * 128 ^ i : Nat) : Int) := by
 have e : (128 : Nat) ^ i = 2 ^ (7 * i) := by rw [Nat.pow_mul]
 rw [u64_or_nat _ _ (by omega) (by omega), Nat.or_comm, Nat.mul_comm c, e, ← Nat.two_pow_add_eq_or_of_lt (by rw [← e]; exact hx)]
 rw [Nat.add_comm]
theorem shl_step (i x c : Nat) (s y m : Int) (hs : s = 7 * i) (hy : y = x) (hm : m = c) (hi : i ≤ 9) (hx : x < 128 ^ i) (hc : x + c * 128 ^ i < 18446744073709551616) :
 bits .or .u64 y (IntKind.u64.wrap (m * 2 ^ min s.toNat 64)) = ((x + c * 128 ^ i : Nat) : Int) := by
 subst hy hm hs
 have h1 : min (7 * (i : Int)).toNat 64 = 7 * i := by omega
 have h2 : (c : Int) * 2 ^ (7 * i) = ((c * 128 ^ i : Nat) : Int) := by
  have e : (128 : Nat) ^ i = 2 ^ (7 * i) := by rw [Nat.pow_mul]
  rw [e]; simp
 rw [h1, h2, IntKind.wrap_u64, Int.emod_eq_of_lt (by omega) (by omega)]
 exact add_or i x c hx hc
theorem acc_next (k x c : Nat) (hx : x < 128 ^ k) (hc : c < 128) : x + c * 128 ^ k < 128 ^ (k + 1) := by
 have h1 : c * 128 ^ k ≤ 127 * 128 ^ k := Nat.mul_le_mul_right _ (by omega)
 rw [Nat.pow_succ]; omega
theorem acc_lt (k x c : Nat) (hk : k ≤ 9) (hx : x < 128 ^ k) (hc : c < 128) (h9 : k = 9 → c ≤ 1) : x + c * 128 ^ k < 18446744073709551616 := by
 have e : (128 : Nat) ^ 9 = 9223372036854775808 := by decide
 by_cases h : k = 9
 · have h1 : c * 128 ^ k ≤ 1 * 128 ^ k := Nat.mul_le_mul_right _ (h9 h)
   subst h
   rw [e] at *; omega
 · have h1 := acc_next k x c hx hc
   have h2 : (128 : Nat) ^ (k + 1) ≤ 128 ^ 9 := Nat.pow_le_pow_right (by omega) (by omega)
   omega
set_option maxHeartbeats 2000000 in
theorem get_any (A : Option Addr) (l : List UInt8) (cap B : Nat) (w : World) (hr : RB w B A l) (hc : l.length ≤ cap) (hm : cap ≤ maxLen) :
 Calls Tryz.prog 175 #[.slice A l.length cap] w fun e w' => e = .returned (gotV (getN l)) ∧ w = w' := by
 unfold maxLen at hm
 have HR := qh hr; clear hr
 go_enter Tryz.func175, Tryz.ntmps175
 go_wp2
 go_loop [5, 6, 11] (fun u s i => ∃ (k x : Nat) (y z : Int), i = .int .i64 k ∧ k ≤ l.length ∧ k ≤ 9 ∧ u = .int .u64 y ∧ Hid (y = x) ∧ 0 ≤ y ∧ y ≤ 18446744073709551615 ∧ s = .int .u64 z ∧ 0 ≤ z ∧ z ≤ 63 ∧ Hid (z = 7 * k) ∧ Hid (x < 128 ^ k) ∧ Hid (getN l = gLoop k x (l.drop k))) (fun _ _ i => l.length - (intOf i).toNat)
 case atStart => exact ⟨0, 0, 0, 0, rfl, by omega, by omega, rfl, rfl, by omega, by omega, rfl, by omega, by omega, rfl, by simp [Hid], rfl⟩
 case round =>
  obtain ⟨k, x, y, z, rfl, hk, hk9, rfl, hy, hy0, hy1, rfl, hz0, hz1, hz, hx, hg⟩ := hrel
  by_cases hlt : k < l.length
  · obtain ⟨b, off, rfl, hb, hcell⟩ := HR.out (by omega)
    have hc1 := hcell k hlt
    clear hcell
    have hd : l.drop k = l[k] :: l.drop (k + 1) := by rw [List.drop_eq_getElem_cons hlt]
    obtain ⟨c, hcc⟩ : ∃ c : UInt8, l[k] = c := ⟨_, rfl⟩
    rw [hcc] at hc1 hd
    have HD := qh hd; clear hd hcc
    unfold vb at hc1
    have h256 := c.toNat_lt
    obtain ⟨m, hmm⟩ : ∃ m : Int, (c.toNat : Int) = m := ⟨_, rfl⟩
    rw [hmm] at hc1
    have hm0 : 0 ≤ m := by omega
    have hm1 : m ≤ 255 := by omega
    have HM := qh hmm; clear hmm h256
    have hstep : (k = 9 → m ≤ 1) → bits .or .u64 y (IntKind.u64.wrap (m % 128 * 2 ^ min z.toNat 64)) = ((x + c.toNat % 128 * 128 ^ k : Nat) : Int) := fun h9 =>
     shl_step k x (c.toNat % 128) z y (m % 128) hz.out hy.out (by have := HM.out; omega) hk9 hx.out (acc_lt k x _ hk9 hx.out (by omega) (fun h => by have := h9 h; have := HM.out; omega))
    have hlt64 : (k = 9 → m ≤ 1) → x + c.toNat % 128 * 128 ^ k < 18446744073709551616 := fun h9 => acc_lt k x _ hk9 hx.out (by omega) (fun h => by have := h9 h; have := HM.out; omega)
    have HS := qh hstep; have HL := qh hlt64; clear hstep hlt64
    by_cases hbad : (k = 9 ∧ 1 < m) ∨ (0 < k ∧ m = 0)
    · have hgg := gLoop_bad k x c (l.drop (k + 1)) (by have := HM.out; omega)
      have HG := qh (show getN l = .form by rw [hg.out, HD.out]; exact hgg)
      clear hgg
      by_cases h9 : k = 9
      · have t9 : ((k : Int) == 9) = true := by simp [h9]
        by_cases hb1 : 1 < m
        · have H9 := qh h9; have HB := qh hbad; clear h9 hbad
          go_wp2
          go_ret3
          exact ⟨by rw [HG.out]; rfl, rfl⟩
        · have tm : (m == 0) = true := by simp; omega
          have tk : (0 : Int) < (k : Int) := by omega
          have H9 := qh h9; have HB := qh hbad; clear h9 hbad
          go_wp2
          go_ret3
          exact ⟨by rw [HG.out]; rfl, rfl⟩
      · have t9 : ((k : Int) == 9) = false := by simp; omega
        have tm : (m == 0) = true := by simp; omega
        have tk : (0 : Int) < (k : Int) := by omega
        have h128 : ¬ 128 ≤ m := by omega
        have H9 := qh h9; have HB := qh hbad; clear h9 hbad
        go_wp2
        go_ret3
        exact ⟨by rw [HG.out]; rfl, rfl⟩
    · have hq := HS.out (by omega)
      have hq' : bits .or .u64 y (IntKind.u64.wrap (m % 128 * 2 ^ z.toNat)) = ((x + c.toNat % 128 * 128 ^ k : Nat) : Int) := by
       rw [← hq, show min z.toNat 64 = z.toNat by omega]
      have hq2 := HL.out (by omega)
      obtain ⟨q, hqq⟩ : ∃ q : Nat, x + c.toNat % 128 * 128 ^ k = q := ⟨_, rfl⟩
      rw [hqq] at hq hq2 hq'
      obtain ⟨r, hr⟩ : ∃ r : Int, (q : Int) = r := ⟨_, rfl⟩
      rw [hr] at hq hq'
      have hr0 : 0 ≤ r := by omega
      have hr1 : r ≤ 18446744073709551615 := by omega
      have HR2 := qh hr.symm; clear hr hq2
      have HQ := qh hqq; clear hqq
      by_cases h128 : 128 ≤ m
      · have hgg := gLoop_go k x c (l.drop (k + 1)) (by have := HM.out; omega) (by have := HM.out; omega)
        have hx2 := acc_next k x (c.toNat % 128) hx.out (by omega)
        rw [HQ.out] at hx2
        have hcm : c.toNat - 128 = c.toNat % 128 := by have := HM.out; have := c.toNat_lt; omega
        rw [hcm, HQ.out] at hgg
        have HG := qh (show getN l = gLoop (k + 1) q (l.drop (k + 1)) by rw [hg.out, HD.out]; exact hgg)
        have HX := qh hx2
        have t9 : ((k : Int) == 9) = false := by simp; omega
        have hk8 : k + 1 ≤ 9 := by omega
        have HB := qh hbad; clear hgg hx2 hcm hbad
        go_wp2
        go_round
        case rel => exact ⟨k + 1, q, r, z + 7, by go_num, by omega, hk8, rfl, HR2, hr0, hr1, rfl, by omega, by have := hz.out; omega, by have := hz.out; unfold Hid; omega, HX, HG⟩
        case measure => simp [intOf]; omega
      · have hgg := gLoop_end k x c (l.drop (k + 1)) (by have := HM.out; omega) (by have := HM.out; omega)
        have hcm : c.toNat = c.toNat % 128 := by have := HM.out; omega
        rw [show x + c.toNat * 128 ^ k = q by rw [hcm]; exact HQ.out] at hgg
        have HG := qh (show getN l = .ok q (k + 1) by rw [hg.out, HD.out]; exact hgg)
        clear hgg hcm
        have ht : (((k : Int) == 9) = true ∧ m ≤ 1) ∨ ((k : Int) == 9) = false := by
         by_cases h : k = 9
         · exact .inl ⟨by simp [h], by omega⟩
         · exact .inr (by simp; omega)
        have ht2 : ((m == 0) = true ∧ (k : Int) ≤ 0) ∨ (m == 0) = false := by
         by_cases h : m = 0
         · exact .inl ⟨by simp [h], by omega⟩
         · exact .inr (by simp; omega)
        have HB := qh hbad; clear hbad
        rcases ht with ⟨t9, tm1⟩ | t9 <;> rcases ht2 with ⟨t0, tk⟩ | t0
        all_goals
         go_wp2_with fail
         (with_reducible refine (signed_any r q HR2 _ hr0 hr1).mono ?_)
         rintro e w' ⟨rfl, rfl⟩
         go_wp2
         go_ret3
         exact ⟨by rw [HG.out]; rfl, rfl⟩
  · obtain rfl : k = l.length := by omega
    have HG := qh (show getN l = .more by rw [hg.out, List.drop_length, gLoop_nil])
    go_wp2
    go_ret3
    exact ⟨by rw [HG.out]; rfl, rfl⟩
structure O4 where
 k : Int
 a : Int
 b : Int
 c : Int
def sml (n : Int) : Prop := -2147483648 ≤ n ∧ n ≤ 2147483647
theorem sml_in {n : Int} (h : sml n) : in64 n := by unfold sml at h; unfold in64; omega
def smlO (o : O4) : Prop := sml o.k ∧ sml o.a ∧ sml o.b ∧ sml o.c
def encO (o : O4) : List UInt8 := putN o.k ++ (putN o.a ++ (putN o.b ++ putN o.c))
def encOs : List O4 → List UInt8
 | [] => []
 | o :: r => encO o ++ encOs r
theorem encOs_nil : encOs [] = [] := by rw [encOs]
theorem encOs_cons (o : O4) (r : List O4) : encOs (o :: r) = encO o ++ encOs r := by rw [encOs]
theorem encOs_append (x y : List O4) : encOs (x ++ y) = encOs x ++ encOs y := by
 induction x with
 | nil => rw [encOs_nil]; rfl
 | cons o r ih => rw [List.cons_append, encOs_cons, encOs_cons, ih, List.append_assoc]
theorem encOs_snoc (x : List O4) (o : O4) : encOs (x ++ [o]) = encOs x ++ encO o := by rw [encOs_append, encOs_cons, encOs_nil, List.append_nil]
def putT (t : List UInt8) : List UInt8 := putN t.length ++ t
def encP (t : List UInt8) (os : List O4) : List UInt8 := putT t ++ (putN os.length ++ encOs os)
theorem encO_len (o : O4) (h : smlO o) : (encO o).length ≤ 40 := by
 unfold encO
 have h1 := putN_len _ (sml_in h.1)
 have h2 := putN_len _ (sml_in h.2.1)
 have h3 := putN_len _ (sml_in h.2.2.1)
 have h4 := putN_len _ (sml_in h.2.2.2)
 simp only [List.length_append]
 omega
theorem encOs_len (os : List O4) (h : ∀ o ∈ os, smlO o) : (encOs os).length ≤ 40 * os.length := by
 induction os with
 | nil => rw [encOs_nil]; simp
 | cons o r ih =>
   have h1 := encO_len o (h o (by simp))
   have h2 := ih (fun x hx => h x (by simp [hx]))
   rw [encOs_cons, List.length_append, List.length_cons]; omega
theorem len_in {α : Type} (t : List α) (h : t.length ≤ 9223372036854775807) : in64 t.length := by unfold in64; omega
theorem encP_pos (t : List UInt8) (os : List O4) : 0 < (encP t os).length := by
 unfold encP putT
 have := putN_pos t.length
 simp only [List.length_append]; omega
theorem wpList_append_text {w : World} {ops : Array Oper} {rest : List Oper} {o : Oper} {a : Act} {Q : Exit → Act → World → Prop} (hgd : o.guard = none) (s x : Operand)
 (ho : o.op = .call { callee := .builtin .append, args := #[s, x], argTypes := #[33, 9] })
 (base : Nat) (v : Value) (xs : List UInt8) (hs : a.eval s = v) (hown : OB w base v xs)
 (t : ByteArray) (hx : a.eval x = .string t) (hlen : xs.length + t.size ≤ 140737488355328) (hbase : base ≤ w.heap.size)
 (h : ∀ v' w', OB w' base v' (xs ++ t.data.toList) → w.grownBy w' v.ownBlock → wpList Tryz.prog ops Q rest (a.put o.dst v') w') : wpList Tryz.prog ops Q (o :: rest) a w := by
 obtain ⟨i0, hi0, hz0, hz1, hz2⟩ := info_parts byte_info
 refine Lib.wpList_append_own_string w hgd s x _ _ ho base 5 i0 Tryz.underlying33 Tryz.underlying9 hi0 hz0 hz1 hz2 v xs.length (xs.map vb) hs hown t hx (by unfold maxLen; omega) hlen hbase (fun v' w' h1 h2 _ => h v' w' ?_ h2)
 unfold OB
 have e : (xs ++ t.data.toList).length = xs.length + t.size := by rw [List.length_append]; rfl
 rw [e, List.map_append]
 exact h1
set_option maxHeartbeats 1000000 in
theorem bytes_any (A : Option Addr) (l : List UInt8) (cap B : Nat) (s : ByteArray) (w : World) (hr : RB w B A l) (hB : B ≤ w.heap.size) (hl : l.length ≤ 1099511627776) (hs : s.size ≤ 1099511627776) :
 Calls Tryz.prog 179 #[.slice A l.length cap, .string s] w fun e w' => ∃ v, e = .returned v ∧ OB w' w.heap.size v (l ++ putT s.data.toList) ∧ Below w.heap.size w w' := by
 have HR := qh hr; clear hr
 have hn : in64 (s.size : Int) := by unfold in64; omega
 have HN := qh hn; clear hn
 have hpl : (putN (s.size : Int)).length ≤ 10 := putN_len _ HN.out
 go_enter Tryz.func179, Tryz.ntmps179
 go_wp2_with fail
 refine (put_any A l cap B _ _ HR.out hB HN.out hl).mono ?_
 rintro e w1 ⟨v, rfl, ho, hb⟩
 have HO := qh ho; clear ho
 have hsz := hb.size
 go_wp2_with (at_builtin; refine wpList_append_text rfl (.tmp 8) (.tmp 9) rfl w.heap.size v _ rfl HO.out s rfl (by rw [List.length_append]; omega) hsz ?_; intro v2 w2 o2 g2)
 go_ret
 refine ⟨_, rfl, ?_, hb.grown g2 hsz HO.out.ge⟩
 unfold putT
 rw [← List.append_assoc]
 exact o2
def smlB (n : Int) : Bool := decide (-2147483648 ≤ n) && decide (n ≤ 2147483647)
theorem smlB_iff (n : Int) : smlB n = true ↔ sml n := by unfold smlB sml; simp
def smlOB (o : O4) : Bool := smlB o.k && smlB o.a && smlB o.b && smlB o.c
theorem smlOB_iff (o : O4) : smlOB o = true ↔ smlO o := by unfold smlOB smlO; simp [smlB_iff, and_assoc]
def smlOs (os : List O4) : Bool := os.all smlOB
theorem smlOs_iff (os : List O4) : smlOs os = true ↔ ∀ o ∈ os, smlO o := by unfold smlOs; simp [smlOB_iff]
def fitsB (tb : Bool) (os : List O4) : Bool := tb && decide (1 ≤ os.length) && decide (os.length ≤ 64) && smlOs os
theorem fitsB_iff (tb : Bool) (os : List O4) : fitsB tb os = true ↔ tb = true ∧ 1 ≤ os.length ∧ os.length ≤ 64 ∧ ∀ o ∈ os, smlO o := by
 unfold fitsB; simp [smlOs_iff, and_assoc]
end Go.Proofs.YtpnobpligchpiaaGreatDoor
