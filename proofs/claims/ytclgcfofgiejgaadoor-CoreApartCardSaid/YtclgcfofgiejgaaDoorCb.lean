/- WALKS over package crc: divide, More, Sum. -/
import Derived.Test.YtclgcfofgiejgaaDoorKa
import Derived.Test.YtclgcfofgiejgaaDoorCa
import Derived.Test.YtclgcfofgiejgaaDoorKw
namespace Go.Proofs.YtclgcfofgiejgaaDoor
open Go.RowKit

set_option linter.unusedVariables false

/-- a word as a number: a plain definition, so that the walk does not look into it -/
def tn (c : W32) : Int := (c.toNat : Int)
/-- the table stands in its variable -/
def TabW (w : World) : Prop := ∀ i, i < 16 → w.cell? ⟨0, i, none⟩ = some (.int .u32 (tn (tabN i)))

theorem tn_lo (c : W32) : 0 ≤ tn c := by unfold tn; omega
theorem tn_hi (c : W32) : tn c ≤ 4294967295 := by have := c.isLt; unfold tn; omega
theorem tn_inj {a b : W32} (h : tn a = tn b) : a = b := by
  unfold tn at h; exact BitVec.eq_of_toNat_eq (by omega)
theorem x_xor (a b : W32) : bits .xor .u32 (tn a) (tn b) = tn (a ^^^ b) := by
  unfold tn; rw [u32_xor_nat _ _ a.isLt b.isLt, BitVec.toNat_xor]
def notW (a : W32) : W32 := ~~~ a
theorem x_not (a : W32) : bits .xor .u32 IntKind.u32.max (tn a) = tn (notW a) := by
  have h : IntKind.u32.max = tn (BitVec.allOnes 32) := by unfold tn; decide
  rw [h, x_xor, BitVec.allOnes_xor]; rfl
theorem x_shr4 (a : W32) : tn a / (16 : Int) = tn (a >>> 4) := by
  unfold tn; rw [BitVec.toNat_ushiftRight, Nat.shiftRight_eq_div_pow]; omega
theorem x_shr1 (a : W32) : tn a / (2 : Int) = tn (a >>> 1) := by
  unfold tn; rw [BitVec.toNat_ushiftRight, Nat.shiftRight_eq_div_pow]; omega
theorem x_byte (b : UInt8) : ((b.toNat : Nat) : Int) = tn (ofB b) := by
  have := b.toNat_lt
  unfold tn ofB; rw [BitVec.toNat_ofNat, Nat.mod_eq_of_lt (by omega)]
theorem x_step (a : W32) (b : UInt8) : bits .xor .u32 (tn a) (b.toNat : Int) = tn (a ^^^ ofB b) := by rw [x_byte, x_xor]
theorem x_half (c : W32) : bits .xor .u32 (tn c / 16) (tn (tabN (c.toNat % 16))) = tn (bits4 c) := by
  rw [x_shr4, x_xor, ← halfT_bits4]; rfl
theorem x_mod (c : W32) : (tn c % 16).toNat = c.toNat % 16 := by unfold tn; omega
theorem ret_w {a b : Int} (h : a = b) : Ending.returned (.int .u32 a) = .returned (.int .u32 b) := by rw [h]

set_option maxHeartbeats 400000 in
theorem divide_any (c : W32) (w : World) (hw : TabW w) :
    Calls Tryd.prog 83 #[.int .u32 (tn c)] w fun e w' => e = .returned (.int .u32 (tn (bits4 c))) ∧ w = w' := by
  have h0 := tn_lo c
  have h1 := tn_hi c
  have hcell := hw (c.toNat % 16) (by omega)
  rw [← x_mod] at hcell
  have hm : (tn c % 16).toNat < 16 := by omega
  go_enter Tryd.func83, Tryd.ntmps83
  go_wp2
  go_ret
  exact ⟨ret_w (by rw [x_mod]; exact x_half c), rfl⟩

theorem crcL_take_succ (c : W32) (l : List UInt8) (k : Nat) (h : k < l.length) : crcL c (l.take (k + 1)) = byte8 (crcL c (l.take k) ^^^ ofB l[k]) := by
  rw [List.take_succ_eq_append_getElem h, crcL_snoc]

def moreW (s : W32) (l : List UInt8) : W32 := notW (crcL (notW s) l)
theorem moreW_zero (l : List UInt8) : moreW 0#32 l = sumL l := rfl
theorem moreW_sum (a b : List UInt8) : moreW (sumL a) b = sumL (a ++ b) := sumL_append a b

set_option maxHeartbeats 1000000 in
theorem more_any (s : W32) (A : Option Addr) (l : List UInt8) (cap B : Nat) (w : World) (hw : TabW w) (hr : RB w B A l) (hl : l.length ≤ maxLen) :
    Calls Tryd.prog 78 #[.int .u32 (tn s), .slice A l.length cap] w fun e w' => e = .returned (.int .u32 (tn (moreW s l))) ∧ w = w' := by
  unfold maxLen at hl
  have h0 := tn_lo s
  have h1 := tn_hi s
  unfold moreW
  obtain ⟨t, ht⟩ : ∃ t, t = notW s := ⟨_, rfl⟩
  have hn := x_not s
  rw [← ht] at hn ⊢
  clear ht
  go_enter Tryd.func78, Tryd.ntmps78
  go_wp2
  clear hn
  go_loop [5, 12] (fun c i => ∃ k : Nat, k ≤ l.length ∧ i = .int .i64 k ∧ c = .int .u32 (tn (crcL t (l.take k)))) (fun _ i => l.length - (intOf i).toNat)
  case atStart => exact ⟨0, Nat.zero_le _, rfl, by rw [List.take_zero, crcL_nil]⟩
  case round =>
    obtain ⟨k, hk, rfl, rfl⟩ := hrel
    by_cases h : k < l.length
    · have HN := Lib.hid (crcL_take_succ t l k h)
      generalize crcL t (l.take k) = c at HN ⊢
      obtain ⟨b, off, rfl, _, hcell⟩ := hr (by omega)
      have hx := hcell k h
      generalize l[k] = y at HN hx
      clear hcell
      unfold vb at hx
      have hxor := x_step c y
      have hyl := y.toNat_lt
      have hc0 := tn_lo c
      have hc1 := tn_hi c
      go_wp2_with (go_at_call 83; refine (divide_any _ _ hw).mono ?_; rintro e w' ⟨rfl, rfl⟩)
      clear hxor
      go_round
      case rel => exact ⟨k + 1, by omega, by go_num, by rw [HN.out]; rfl⟩
      case measure => simp [intOf]; omega
    · have hk2 : l.take k = l := List.take_of_length_le (by omega)
      have HC : Hid (crcL t l = crcL t (l.take k)) := by unfold Hid; rw [hk2]
      clear hk2
      generalize crcL t (l.take k) = c at HC ⊢
      have hn := x_not c
      have hc0 := tn_lo c
      have hc1 := tn_hi c
      go_wp2
      go_ret
      exact ⟨by rw [HC.out]; rfl, rfl⟩

theorem more_zero (A : Option Addr) (l : List UInt8) (cap B : Nat) (w : World) (hw : TabW w) (hr : RB w B A l) (hl : l.length ≤ maxLen) :
    Calls Tryd.prog 78 #[.int .u32 0, .slice A l.length cap] w fun e w' => e = .returned (.int .u32 (tn (sumL l))) ∧ w = w' :=
  more_any 0#32 A l cap B w hw hr hl

theorem sum_any (A : Option Addr) (l : List UInt8) (cap B : Nat) (w : World) (hw : TabW w) (hr : RB w B A l) (hl : l.length ≤ maxLen) :
    Calls Tryd.prog 68 #[.slice A l.length cap] w fun e w' => e = .returned (.int .u32 (tn (sumL l))) ∧ w = w' := by
  go_enter Tryd.func68, Tryd.ntmps68
  go_wp2_with (go_at_call 78; refine (more_zero A l cap B _ hw hr hl).mono ?_; rintro e w' ⟨rfl, rfl⟩)
  go_ret
  exact ⟨rfl, rfl⟩

end Go.Proofs.YtclgcfofgiejgaaDoor
