/- texts of YcD -/
import Derived.Test.YtpnobpligchpiaaGreatDoorYcK
namespace Go.Proofs.YtpnobpligchpiaaGreatDoor
open Go.RowKit
set_option linter.unusedVariables false
def rd (x : Int) : Int := (x + 2147483648) % 4294967296 - 2147483648
def md (a n : Int) : Int := if n < 1 then 0 else a % n
def u8 (x : Int) : UInt8 := UInt8.ofNat (x % 256).toNat
theorem vb_u8 (x : Int) : vb (u8 x) = .int .u8 (x % 256) := by
  unfold vb u8
  have h : ((UInt8.ofNat (x % 256).toNat).toNat : Int) = x % 256 := by rw [UInt8.toNat_ofNat']; omega
  rw [h]
def s4 (a : Int) : List UInt8 := [u8 (a / 16777216), u8 (a / 65536), u8 (a / 256), u8 a]
def rowB (l : List UInt8) : Obj := .cells (l.map vb).toArray 5
theorem row_s4 (a : Int) : rowB (s4 a) = .cells #[.int .u8 (a / 16777216 % 256), .int .u8 (a / 65536 % 256), .int .u8 (a / 256 % 256), .int .u8 (a % 256)] 5 := by
  show Obj.cells #[vb (u8 (a / 16777216)), vb (u8 (a / 65536)), vb (u8 (a / 256)), vb (u8 a)] 5 = _
  rw [vb_u8, vb_u8, vb_u8, vb_u8]
theorem four_any (a : Int) (w : World) (a1 : 0 ≤ a) (a2 : a ≤ 4294967295) :
    Calls Tryz.prog 79 #[.int .u32 a] w fun e w' => e = .returned (.slice (some ⟨w.heap.size, 0, none⟩) 4 4) ∧ w.alloc (rowB (s4 a)) = w' := by
  have hr := row_s4 a
  have e1 : a / 16777216 % 256 = a / 16777216 := by omega
  rw [e1] at hr
  clear e1
  have HR := Lib.hid hr; clear hr
  go_enter Tryz.func79, Tryz.ntmps79
  go_wp2
  go_ret
  exact ⟨rfl, by rw [HR.out]⟩
def acc4 (l : List UInt8) : Int := l.foldl (fun (u : Int) (b : UInt8) => u * 256 + (b.toNat : Int)) 0
theorem acc4_snoc (l : List UInt8) (b : UInt8) : acc4 (l ++ [b]) = acc4 l * 256 + b.toNat := by unfold acc4; rw [List.foldl_append]; rfl
theorem accG (l : List UInt8) : ∀ (u : Int) (m : Nat), 0 ≤ u → u < ((256 ^ m : Nat) : Int) → 0 ≤ l.foldl (fun (u : Int) (b : UInt8) => u * 256 + (b.toNat : Int)) u ∧ l.foldl (fun (u : Int) (b : UInt8) => u * 256 + (b.toNat : Int)) u < ((256 ^ (m + l.length) : Nat) : Int) := by
  induction l with
  | nil => intro u m h0 h1; exact ⟨h0, h1⟩
  | cons b l ih =>
    intro u m h0 h1
    have hb := b.toNat_lt
    have e : m + (b :: l).length = m + 1 + l.length := by simp; omega
    rw [e]
    have h2 : u * 256 + (b.toNat : Int) < ((256 ^ (m + 1) : Nat) : Int) := by rw [Nat.pow_succ]; omega
    exact ih (u * 256 + (b.toNat : Int)) (m + 1) (by omega) h2
theorem acc4_lo (l : List UInt8) : 0 ≤ acc4 l := (accG l 0 0 (by omega) (by simp)).1
theorem acc4_hi (l : List UInt8) (k n : Nat) (h : l.length ≤ k) (hn : 256 ^ k = n) : acc4 l < n := by
  have h1 := (accG l 0 0 (by omega) (by simp)).2
  have h2 : 256 ^ (0 + l.length) ≤ 256 ^ k := Nat.pow_le_pow_right (by omega) (by omega)
  unfold acc4
  omega
theorem or_byte (u : Int) (b : UInt8) (h0 : 0 ≤ u) (h : u < 16777216) : bits .or .u32 (u * 256) (b.toNat : Int) = u * 256 + b.toNat := by
  have hb := b.toNat_lt
  obtain ⟨n, rfl⟩ := Int.eq_ofNat_of_zero_le h0
  have e : ((n : Int) * 256) = ((n * 256 : Nat) : Int) := by omega
  rw [e, u32_or_nat _ _ (by omega) (by omega)]
  have h3 := Nat.two_pow_add_eq_or_of_lt (i := 8) (b := b.toNat) hb n
  have e2 : n * 256 = 2 ^ 8 * n := by omega
  rw [e2, ← h3]; omega
theorem u8_nat (x : Int) : ((u8 x).toNat : Int) = x % 256 := by
  unfold u8; rw [UInt8.toNat_ofNat']; omega
theorem s4_reads (w : World) (a : Int) : RB (w.alloc (rowB (s4 a))) (w.heap.size + 1) (some ⟨w.heap.size, 0, none⟩) (s4 a) := fun _ => by
  refine ⟨_, _, rfl, Nat.lt_succ_self _, fun j hj => ?_⟩
  have hj : j < 4 := hj
  obtain rfl | rfl | rfl | rfl : j = 0 ∨ j = 1 ∨ j = 2 ∨ j = 3 := by omega
  all_goals (rw [cell_of_row _ _ _ _ _ _ (heap_alloc_new w (rowB (s4 a)))]; rfl)
end Go.Proofs.YtpnobpligchpiaaGreatDoor
