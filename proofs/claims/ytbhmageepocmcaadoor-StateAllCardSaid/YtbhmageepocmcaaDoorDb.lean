/- WALKS over package word: Put, Get; quintainref1: Round, Div, Mod, Four. -/
import Derived.Test.YtbhmageepocmcaaDoorDa
namespace Go.Proofs.YtbhmageepocmcaaDoor
open Go.RowKit
set_option linter.unusedVariables false

theorem round_rest (x m : Int) (h : x.tmod 4294967296 = m) : -4294967296 < m ∧ m < 4294967296 ∧ ((0 ≤ m ∧ x % 4294967296 = m) ∨ (m < 0 ∧ x % 4294967296 = m + 4294967296)) := by
  have h3 := Int.tmod_eq_emod (a := x) (b := 4294967296)
  split at h3 <;> omega
/-- a number's lowest byte -/
def u8 (x : Int) : UInt8 := UInt8.ofNat (x % 256).toNat
theorem vb_u8 (x : Int) : vb (u8 x) = .int .u8 (x % 256) := by
  unfold vb u8
  have h : ((UInt8.ofNat (x % 256).toNat).toNat : Int) = x % 256 := by rw [UInt8.toNat_ofNat']; omega
  rw [h]
/-- its four bytes, the highest first -/
def s4 (a : Int) : List UInt8 := [u8 (a / 16777216), u8 (a / 65536), u8 (a / 256), u8 a]
def rowB (l : List UInt8) : Obj := .cells (l.map vb).toArray 5
theorem row_s4 (a : Int) : rowB (s4 a) = .cells #[.int .u8 (a / 16777216 % 256), .int .u8 (a / 65536 % 256), .int .u8 (a / 256 % 256), .int .u8 (a % 256)] 5 := by
  show Obj.cells #[vb (u8 (a / 16777216)), vb (u8 (a / 65536)), vb (u8 (a / 256)), vb (u8 a)] 5 = _
  rw [vb_u8, vb_u8, vb_u8, vb_u8]
theorem put_any (a : Int) (w : World) (a1 : -2147483648 ≤ a) (a2 : a ≤ 2147483647) :
    Calls Tryd.prog 14 #[.int .i32 a] w fun e w' => e = .returned (.slice (some ⟨w.heap.size, 0, none⟩) 4 4) ∧ w.alloc (rowB (s4 a)) = w' := by
  have hr := row_s4 a
  have e1 : a / 16777216 % 256 = a % 4294967296 / 16777216 := by omega
  have e2 : a / 65536 % 256 = a % 4294967296 / 65536 % 256 := by omega
  have e3 : a / 256 % 256 = a % 4294967296 / 256 % 256 := by omega
  rw [e1, e2, e3] at hr
  clear e1 e2 e3
  have HR := Lib.hid hr; clear hr
  go_enter Tryd.func14, Tryd.ntmps14
  go_wp2
  go_ret
  exact ⟨rfl, by rw [HR.out]⟩
theorem four_any (a : Int) (w : World) (a1 : 0 ≤ a) (a2 : a ≤ 4294967295) :
    Calls Tryd.prog 16 #[.int .u32 a] w fun e w' => e = .returned (.slice (some ⟨w.heap.size, 0, none⟩) 4 4) ∧ w.alloc (rowB (s4 a)) = w' := by
  have hr := row_s4 a
  have e1 : a / 16777216 % 256 = a / 16777216 := by omega
  rw [e1] at hr
  clear e1
  have HR := Lib.hid hr; clear hr
  go_enter Tryd.func16, Tryd.ntmps16
  go_wp2
  go_ret
  exact ⟨rfl, by rw [HR.out]⟩

/-- bytes as a number of 32 bits without a sign, the highest first -/
def acc4 (l : List UInt8) : Int := l.foldl (fun (u : Int) (b : UInt8) => u * 256 + (b.toNat : Int)) 0
theorem acc4_snoc (l : List UInt8) (b : UInt8) : acc4 (l ++ [b]) = acc4 l * 256 + b.toNat := by unfold acc4; rw [List.foldl_append]; rfl
theorem accG (l : List UInt8) : ∀ (u : Int) (m : Nat), 0 ≤ u → u < ((256 ^ m : Nat) : Int) → 0 ≤ l.foldl (fun (u : Int) (b : UInt8) => u * 256 + (b.toNat : Int)) u ∧ l.foldl (fun (u : Int) (b : UInt8) => u * 256 + (b.toNat : Int)) u < ((256 ^ (m + l.length) : Nat) : Int) := by
  induction l with
  | nil => intro u m h0 h1; exact ⟨h0, h1⟩
  | cons b l ih =>
    intro u m h0 h1
    have hb := b.toNat_lt
    have e : m + (b :: l).length = m + 1 + l.length := by simp; omega
    rw [e]
    have h2 : u * 256 + (b.toNat : Int) < ((256 ^ (m + 1) : Nat) : Int) := by rw [Nat.pow_succ]; omega
    exact ih (u * 256 + (b.toNat : Int)) (m + 1) (by omega) h2
theorem acc4_lo (l : List UInt8) : 0 ≤ acc4 l := (accG l 0 0 (by omega) (by simp)).1
theorem acc4_hi (l : List UInt8) (k n : Nat) (h : l.length ≤ k) (hn : 256 ^ k = n) : acc4 l < n := by
  have h1 := (accG l 0 0 (by omega) (by simp)).2
  have h2 : 256 ^ (0 + l.length) ≤ 256 ^ k := Nat.pow_le_pow_right (by omega) (by omega)
  unfold acc4
  omega
theorem or_byte (u : Int) (b : UInt8) (h0 : 0 ≤ u) (h : u < 16777216) : bits .or .u32 (u * 256) (b.toNat : Int) = u * 256 + b.toNat := by
  have hb := b.toNat_lt
  obtain ⟨n, rfl⟩ := Int.eq_ofNat_of_zero_le h0
  have e : ((n : Int) * 256) = ((n * 256 : Nat) : Int) := by omega
  rw [e, u32_or_nat _ _ (by omega) (by omega)]
  have h3 := Nat.two_pow_add_eq_or_of_lt (i := 8) (b := b.toNat) hb n
  have e2 : n * 256 = 2 ^ 8 * n := by omega
  rw [e2, ← h3]; omega
set_option maxHeartbeats 400000 in
theorem get_some (A : Option Addr) (l : List UInt8) (cap B : Nat) (w : World) (hr : RB w B A l) (hl : 4 ≤ l.length) (hc : l.length ≤ cap) (hm : cap ≤ maxLen) :
    Calls Tryd.prog 15 #[.slice A l.length cap] w fun e w' => e = .returned (.int .i32 (rd (acc4 (l.take 4)))) ∧ w = w' := by
  unfold maxLen at hm
  go_enter Tryd.func15, Tryd.ntmps15
  go_wp2
  go_loop [3, 12] (fun u i => ∃ k : Nat, k ≤ 4 ∧ i = .int .i64 k ∧ u = .int .u32 (acc4 (l.take k))) (fun _ i => 4 - (intOf i).toNat)
  case atStart => exact ⟨0, by omega, rfl, rfl⟩
  case round =>
    obtain ⟨k, hk, rfl, rfl⟩ := hrel
    by_cases h : k < 4
    · have hsn : acc4 (l.take (k + 1)) = acc4 (l.take k) * 256 + (l[k]'(by omega)).toNat := by rw [List.take_succ_eq_append_getElem (by omega), acc4_snoc]
      have HS := Lib.hid hsn; clear hsn
      have hlo := acc4_lo (l.take k)
      have hhi := acc4_hi (l.take k) 3 16777216 (by rw [List.length_take]; omega) (by decide)
      obtain ⟨b, off, rfl, _, hcell⟩ := hr (by omega)
      have hx := hcell k (by omega)
      generalize l[k]'(by omega) = y at HS hx
      generalize acc4 (l.take k) = u at HS hlo hhi ⊢
      clear hcell
      unfold vb at hx
      have hor := or_byte u y hlo (by omega)
      have hyl := y.toNat_lt
      go_wp2
      clear hor
      go_round
      case rel => exact ⟨k + 1, by omega, by go_num, by rw [HS.out]⟩
      case measure => simp [intOf]; omega
    · obtain rfl : k = 4 := by omega
      obtain ⟨u, hu⟩ : ∃ u, u = acc4 (l.take 4) := ⟨_, rfl⟩
      rw [← hu]
      have HU := Lib.hid hu; clear hu
      go_wp2
      go_ret
      exact ⟨ret_i32 (by rw [rd_wrap, HU.out]), rfl⟩
theorem get_none (A : Option Addr) (l : List UInt8) (cap : Nat) (w : World) (hl : l.length < 4) :
    Calls Tryd.prog 15 #[.slice A l.length cap] w fun e w' => e = .returned (.int .i32 0) ∧ w = w' := by
  go_enter Tryd.func15, Tryd.ntmps15
  go_wp2
  go_ret
  exact ⟨rfl, rfl⟩
/-- Get's answer at any bytes. -/
def gt4 (l : List UInt8) : Int := if 4 ≤ l.length then rd (acc4 (l.take 4)) else 0
theorem get_any (A : Option Addr) (l : List UInt8) (cap B : Nat) (w : World) (hr : RB w B A l) (hc : l.length ≤ cap) (hm : cap ≤ maxLen) :
    Calls Tryd.prog 15 #[.slice A l.length cap] w fun e w' => e = .returned (.int .i32 (gt4 l)) ∧ w = w' := by
  unfold gt4
  split
  · exact get_some A l cap B w hr ‹_› hc hm
  · exact get_none A l cap w (by omega)
theorem u8_nat (x : Int) : ((u8 x).toNat : Int) = x % 256 := by
  unfold u8; rw [UInt8.toNat_ofNat']; omega
theorem gt4_s4 (a : Int) (a1 : -2147483648 ≤ a) (a2 : a ≤ 2147483647) : gt4 (s4 a) = a := by
  have h : acc4 ((s4 a).take 4) = ((((0 * 256 + ((u8 (a / 16777216)).toNat : Int)) * 256 + ((u8 (a / 65536)).toNat : Int)) * 256 + ((u8 (a / 256)).toNat : Int)) * 256 + ((u8 a).toNat : Int)) := rfl
  unfold gt4
  rw [if_pos (by show 4 ≤ 4; omega), h, u8_nat, u8_nat, u8_nat, u8_nat]
  unfold rd; omega
theorem s4_reads (w : World) (a : Int) : RB (w.alloc (rowB (s4 a))) (w.heap.size + 1) (some ⟨w.heap.size, 0, none⟩) (s4 a) := fun _ => by
  refine ⟨_, _, rfl, Nat.lt_succ_self _, fun j hj => ?_⟩
  have hj : j < 4 := hj
  obtain rfl | rfl | rfl | rfl : j = 0 ∨ j = 1 ∨ j = 2 ∨ j = 3 := by omega
  all_goals (rw [cell_of_row _ _ _ _ _ _ (heap_alloc_new w (rowB (s4 a)))]; rfl)
theorem back_any (a : Int) (w : World) (a1 : -2147483648 ≤ a) (a2 : a ≤ 2147483647) :
    Calls Tryd.prog 15 #[.slice (some ⟨w.heap.size, 0, none⟩) 4 4] (w.alloc (rowB (s4 a))) fun e w' => e = .returned (.int .i32 a) ∧ w.alloc (rowB (s4 a)) = w' := by
  have h := get_any (some ⟨w.heap.size, 0, none⟩) (s4 a) 4 _ _ (s4_reads w a) (by show 4 ≤ 4; omega) (by unfold maxLen; omega)
  rw [gt4_s4 a a1 a2] at h
  exact h
end Go.Proofs.YtbhmageepocmcaaDoor
