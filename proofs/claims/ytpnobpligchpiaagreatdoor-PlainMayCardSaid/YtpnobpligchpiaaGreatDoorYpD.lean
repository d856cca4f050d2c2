/- texts of YpD -/
import Derived.Test.YtpnobpligchpiaaGreatDoorYpK
namespace Go.Proofs.YtpnobpligchpiaaGreatDoor
open Go.RowKit
set_option linter.unusedVariables false
def rd (x : Int) : Int := (x + 2147483648) % 4294967296 - 2147483648
theorem rd_lo (x : Int) : -2147483648 ≤ rd x := by unfold rd; omega
theorem rd_hi (x : Int) : rd x ≤ 2147483647 := by unfold rd; omega
theorem rd_wrap (x : Int) : wrap32 x = rd x := by unfold wrap32 rd; rfl
theorem ret_i32 {a b : Int} (h : a = b) : Ending.returned (.int .i32 a) = .returned (.int .i32 b) := by rw [h]
theorem ret_i64 {a b : Int} (h : a = b) : Ending.returned (.int .i64 a) = .returned (.int .i64 b) := by rw [h]
theorem add_any (a b : Int) (w : World) :
 Calls Tryz.prog 214 #[.int .i32 a, .int .i32 b] w fun e w' => e = .returned (.int .i32 (rd (a + b))) ∧ w = w' := by
 go_enter Tryz.func214, Tryz.ntmps214
 go_wp2
 go_ret
 exact ⟨ret_i32 (rd_wrap _), rfl⟩
theorem sub_any (a b : Int) (w : World) :
 Calls Tryz.prog 215 #[.int .i32 a, .int .i32 b] w fun e w' => e = .returned (.int .i32 (rd (a - b))) ∧ w = w' := by
 go_enter Tryz.func215, Tryz.ntmps215
 go_wp2
 go_ret
 exact ⟨ret_i32 (rd_wrap _), rfl⟩
theorem mul_any (a b : Int) (w : World) :
 Calls Tryz.prog 216 #[.int .i32 a, .int .i32 b] w fun e w' => e = .returned (.int .i32 (rd (a * b))) ∧ w = w' := by
 go_enter Tryz.func216, Tryz.ntmps216
 go_wp2
 go_ret
 exact ⟨ret_i32 (rd_wrap _), rfl⟩
def dv (a b : Int) : Int := if b = 0 then 0 else rd (a.tdiv b)
theorem dv_zero (a : Int) : dv a 0 = 0 := if_pos rfl
theorem dv_not (a b : Int) (h : b ≠ 0) : dv a b = rd (a.tdiv b) := if_neg h
theorem div_any (a b : Int) (w : World) (b1 : -2147483648 ≤ b) (b2 : b ≤ 2147483647) :
 Calls Tryz.prog 217 #[.int .i32 a, .int .i32 b] w fun e w' => e = .returned (.int .i32 (dv a b)) ∧ w = w' := by
 by_cases h : b = 0
 · subst h
   go_enter Tryz.func217, Tryz.ntmps217
   go_wp2
   go_ret
   exact ⟨ret_i32 (dv_zero a).symm, rfl⟩
 · have hb : ((b == 0) : Bool) = false := by rw [beq_eq_false_iff_ne]; exact h
   have HB := qh h
   clear h
   go_enter Tryz.func217, Tryz.ntmps217
   go_wp2
   go_ret
   exact ⟨ret_i32 (by rw [rd_wrap, dv_not a b HB.out]), rfl⟩
def md (a n : Int) : Int := if n < 1 then 0 else a % n
theorem md_none (a n : Int) (h : n < 1) : md a n = 0 := if_pos h
theorem md_some (a n : Int) (h : ¬ n < 1) : md a n = a % n := if_neg h
theorem tmod_neg (a n : Int) (h : 0 < n) (hr : a.tmod n < 0) : a.tmod n + n = a % n := by
 have h1 := Int.emod_nonneg a (show n ≠ 0 by omega)
 have h2 := Int.emod_lt_of_pos a h
 have h3 := Int.tmod_eq_emod (a := a) (b := n)
 split at h3 <;> omega
theorem tmod_pos (a n : Int) (h : 0 < n) (hr : ¬ a.tmod n < 0) : a.tmod n = a % n := by
 have h1 := Int.emod_nonneg a (show n ≠ 0 by omega)
 have h2 := Int.emod_lt_of_pos a h
 have h3 := Int.tmod_eq_emod (a := a) (b := n)
 split at h3 <;> omega
theorem wrap_mod (a n : Int) (h : 0 < n) (h2 : n ≤ 9223372036854775807) : wrap64 (a % n) = a % n := by
 have h1 := Int.emod_nonneg a (show n ≠ 0 by omega)
 have h2 := Int.emod_lt_of_pos a h
 unfold wrap64; omega
theorem mod_any (a n : Int) (w : World) (a1 : -2147483648 ≤ a) (a2 : a ≤ 2147483647) (n1 : -9223372036854775808 ≤ n) (n2 : n ≤ 9223372036854775807) :
 Calls Tryz.prog 208 #[.int .i32 a, .int .i64 n] w fun e w' => e = .returned (.int .i64 (md a n)) ∧ w = w' := by
 by_cases h : n < 1
 · have HB := qh (md_none a n h)
   go_enter Tryz.func208, Tryz.ntmps208
   go_wp2
   go_ret
   exact ⟨ret_i64 HB.out.symm, rfl⟩
 · have HB := qh (md_some a n h)
   by_cases hr : a.tmod n < 0
   · have HR := qh (tmod_neg a n (by omega) hr)
     go_enter Tryz.func208, Tryz.ntmps208
     go_wp2
     go_ret
     exact ⟨ret_i64 (by rw [HB.out, HR.out]; exact wrap_mod a n (by omega) n2), rfl⟩
   · have HR := qh (tmod_pos a n (by omega) hr)
     go_enter Tryz.func208, Tryz.ntmps208
     go_wp2
     go_ret
     exact ⟨ret_i64 (by rw [HB.out, HR.out]), rfl⟩
def u8 (x : Int) : UInt8 := UInt8.ofNat (x % 256).toNat
theorem vb_u8 (x : Int) : vb (u8 x) = .int .u8 (x % 256) := by
 unfold vb u8
 have h : ((UInt8.ofNat (x % 256).toNat).toNat : Int) = x % 256 := by rw [UInt8.toNat_ofNat']; omega
 rw [h]
def s4 (a : Int) : List UInt8 := [u8 (a / 16777216), u8 (a / 65536), u8 (a / 256), u8 a]
def rowB (l : List UInt8) : Obj := .cells (l.map vb).toArray 5
theorem row_s4 (a : Int) : rowB (s4 a) = .cells #[.int .u8 (a / 16777216 % 256), .int .u8 (a / 65536 % 256), .int .u8 (a / 256 % 256), .int .u8 (a % 256)] 5 := by
 show Obj.cells #[vb (u8 (a / 16777216)), vb (u8 (a / 65536)), vb (u8 (a / 256)), vb (u8 a)] 5 = _
 rw [vb_u8, vb_u8, vb_u8, vb_u8]
theorem wput_any (a : Int) (w : World) (a1 : -2147483648 ≤ a) (a2 : a ≤ 2147483647) :
 Calls Tryz.prog 135 #[.int .i32 a] w fun e w' => e = .returned (.slice (some ⟨w.heap.size, 0, none⟩) 4 4) ∧ w.alloc (rowB (s4 a)) = w' := by
 have hr := row_s4 a
 have e1 : a / 16777216 % 256 = a % 4294967296 / 16777216 := by omega
 have e2 : a / 65536 % 256 = a % 4294967296 / 65536 % 256 := by omega
 have e3 : a / 256 % 256 = a % 4294967296 / 256 % 256 := by omega
 rw [e1, e2, e3] at hr
 clear e1 e2 e3
 have HR := qh hr; clear hr
 go_enter Tryz.func135, Tryz.ntmps135
 go_wp2
 go_ret
 exact ⟨rfl, by rw [HR.out]⟩
theorem four_any (a : Int) (w : World) (a1 : 0 ≤ a) (a2 : a ≤ 4294967295) :
 Calls Tryz.prog 79 #[.int .u32 a] w fun e w' => e = .returned (.slice (some ⟨w.heap.size, 0, none⟩) 4 4) ∧ w.alloc (rowB (s4 a)) = w' := by
 have hr := row_s4 a
 have e1 : a / 16777216 % 256 = a / 16777216 := by omega
 rw [e1] at hr
 clear e1
 have HR := qh hr; clear hr
 go_enter Tryz.func79, Tryz.ntmps79
 go_wp2
 go_ret
 exact ⟨rfl, by rw [HR.out]⟩
def acc4 (l : List UInt8) : Int := l.foldl (fun (u : Int) (b : UInt8) => u * 256 + (b.toNat : Int)) 0
theorem acc4_snoc (l : List UInt8) (b : UInt8) : acc4 (l ++ [b]) = acc4 l * 256 + b.toNat := by unfold acc4; rw [List.foldl_append]; rfl
theorem accG (l : List UInt8) : ∀ (u : Int) (m : Nat), 0 ≤ u → u < ((256 ^ m : Nat) : Int) → 0 ≤ l.foldl (fun (u : Int) (b : UInt8) => u * 256 + (b.toNat : Int)) u ∧ l.foldl (fun (u : Int) (b : UInt8) => u * 256 + (b.toNat : Int)) u < ((256 ^ (m + l.length) : Nat) : Int) := by
 induction l with
 | nil => intro u m h0 h1; exact ⟨h0, h1⟩
 | cons b l ih =>
   intro u m h0 h1
   have hb := b.toNat_lt
   have e : m + (b :: l).length = m + 1 + l.length := by simp; omega
   rw [e]
   have h2 : u * 256 + (b.toNat : Int) < ((256 ^ (m + 1) : Nat) : Int) := by rw [Nat.pow_succ]; omega
   exact ih (u * 256 + (b.toNat : Int)) (m + 1) (by omega) h2
theorem acc4_lo (l : List UInt8) : 0 ≤ acc4 l := (accG l 0 0 (by omega) (by simp)).1
theorem acc4_hi (l : List UInt8) (k n : Nat) (h : l.length ≤ k) (hn : 256 ^ k = n) : acc4 l < n := by
 have h1 := (accG l 0 0 (by omega) (by simp)).2
 have h2 : 256 ^ (0 + l.length) ≤ 256 ^ k := Nat.pow_le_pow_right (by omega) (by omega)
 unfold acc4
 omega
theorem or_byte (u : Int) (b : UInt8) (h0 : 0 ≤ u) (h : u < 16777216) : bits .or .u32 (u * 256) (b.toNat : Int) = u * 256 + b.toNat := by
 have hb := b.toNat_lt
 obtain ⟨n, rfl⟩ := Int.eq_ofNat_of_zero_le h0
 have e : ((n : Int) * 256) = ((n * 256 : Nat) : Int) := by omega
 rw [e, u32_or_nat _ _ (by omega) (by omega)]
 have h3 := Nat.two_pow_add_eq_or_of_lt (i := 8) (b := b.toNat) hb n
 have e2 : n * 256 = 2 ^ 8 * n := by omega
 rw [e2, ← h3]; omega
theorem u8_nat (x : Int) : ((u8 x).toNat : Int) = x % 256 := by
 unfold u8; rw [UInt8.toNat_ofNat']; omega
theorem s4_reads (w : World) (a : Int) : RB (w.alloc (rowB (s4 a))) (w.heap.size + 1) (some ⟨w.heap.size, 0, none⟩) (s4 a) := fun _ => by
 refine ⟨_, _, rfl, Nat.lt_succ_self _, fun j hj => ?_⟩
 have hj : j < 4 := hj
 obtain rfl | rfl | rfl | rfl : j = 0 ∨ j = 1 ∨ j = 2 ∨ j = 3 := by omega
 all_goals (rw [cell_of_row _ _ _ _ _ _ (heap_alloc_new w (rowB (s4 a)))]; rfl)
end Go.Proofs.YtpnobpligchpiaaGreatDoor
