/- WALKS: quintainref1.Sum, begun. -/
import Derived.Test.YtclgcfofgiejgaaDoorCb
import Derived.Lib.SlBytesConst
namespace Go.Proofs.YtclgcfofgiejgaaDoor
open Go.RowKit
set_option linter.unusedVariables false

def bitN : Nat → W32 → W32
  | 0, c => c
  | n + 1, c => bit1 (bitN n c)
theorem bitN_8 (c : W32) : bitN 8 c = byte8 c := rfl
theorem bit1_odd (c : W32) (h : tn c % 2 = 1) : bits .xor .u32 (tn c / 2) 3988292384 = tn (bit1 c) := by
  have e : (3988292384 : Int) = tn poly := by unfold tn; decide
  rw [x_shr1, e, x_xor]
  unfold bit1
  rw [if_pos (by unfold tn at h; omega)]
theorem bit1_even (c : W32) (h : ¬ tn c % 2 = 1) : tn c / (2 : Int) = tn (bit1 c) := by
  rw [x_shr1]
  unfold bit1
  rw [if_neg (by unfold tn at h; omega)]

set_option maxHeartbeats 1000000 in
theorem refsum_any (A : Option Addr) (l : List UInt8) (cap B : Nat) (w : World) (hr : RB w B A l) (hl : l.length ≤ maxLen) :
    Calls Tryd.prog 38 #[.slice A l.length cap] w fun e w' => e = .returned (.int .u32 (tn (sumL l))) ∧ w = w' := by
  unfold maxLen at hl
  obtain ⟨t, ht⟩ : ∃ t, t = BitVec.allOnes 32 := ⟨_, rfl⟩
  have htn : (4294967295 : Int) = tn t := by rw [ht]; unfold tn; decide
  have HT : Hid (notW (crcL t l) = sumL l) := by unfold Hid; rw [ht]; rfl
  clear ht
  have HN := Lib.hid htn; clear htn
  go_enter Tryd.func38, Tryd.ntmps38
  go_wp2
  go_loop [3, 4] (fun c i => ∃ k : Nat, k ≤ l.length ∧ i = .int .i64 k ∧ c = .int .u32 (tn (crcL t (l.take k)))) (fun _ i => l.length - (intOf i).toNat)
  case atStart => exact ⟨0, Nat.zero_le _, rfl, by rw [List.take_zero, crcL_nil, ← HN.out]⟩
  case round =>
    obtain ⟨k, hk, rfl, rfl⟩ := hrel
    by_cases h : k < l.length
    · have HS := Lib.hid (crcL_take_succ t l k h)
      generalize crcL t (l.take k) = c at HS ⊢
      obtain ⟨b, off, rfl, _, hcell⟩ := hr (by omega)
      have hx := hcell k h
      generalize l[k] = y at HS hx
      clear hcell
      unfold vb at hx
      have hxor := x_step c y
      have hyl := y.toNat_lt
      have hc0 := tn_lo c
      have hc1 := tn_hi c
      go_wp2
      clear hxor hx hc0 hc1
      generalize c ^^^ ofB y = d at HS ⊢
      go_loop [3, 5] (fun c i => ∃ j : Nat, j ≤ 8 ∧ i = .int .i64 j ∧ c = .int .u32 (tn (bitN j d))) (fun _ i => 8 - (intOf i).toNat)
      case atStart => exact ⟨0, by omega, rfl, rfl⟩
      case round =>
        obtain ⟨j, hj, rfl, rfl⟩ := hrel
        by_cases hj8 : j < 8
        · have HB : Hid (bitN (j + 1) d = bit1 (bitN j d)) := rfl
          generalize bitN j d = z at HB ⊢
          have hz0 := tn_lo z
          have hz1 := tn_hi z
          by_cases hodd : tn z % 2 = 1
          · have ho := bit1_odd z hodd
            have hodd2 : (tn z % 2 == 1) = true := by rw [hodd]; rfl
            clear hodd
            go_wp2
            go_round
            case rel => exact ⟨j + 1, by omega, by go_num, by rw [HB.out]⟩
            case measure => simp [intOf]; omega
          · have ho := bit1_even z hodd
            have hodd2 : (tn z % 2 == 1) = false := by rw [beq_eq_false_iff_ne]; exact hodd
            clear hodd
            go_wp2
            go_round
            case rel => exact ⟨j + 1, by omega, by go_num, by rw [HB.out]⟩
            case measure => simp [intOf]; omega
        · obtain rfl : j = 8 := by omega
          have HB : Hid (bitN 8 d = byte8 d) := bitN_8 d
          generalize bitN 8 d = z at HB ⊢
          go_wp2
          go_round
          case rel => exact ⟨k + 1, by omega, by go_num, by rw [HS.out, HB.out]⟩
          case measure => simp [intOf]; omega
    · have hk2 : l.take k = l := List.take_of_length_le (by omega)
      have HC : Hid (crcL t l = crcL t (l.take k)) := by unfold Hid; rw [hk2]
      clear hk2
      generalize crcL t (l.take k) = c at HC ⊢
      have hn := x_not c
      have hc0 := tn_lo c
      have hc1 := tn_hi c
      go_wp2
      go_ret
      exact ⟨by rw [← HT.out, HC.out]; rfl, rfl⟩

def nine : List UInt8 := [49, 50, 51, 52, 53, 54, 55, 56, 57]
theorem sum_nine : tn (sumL nine) = 3421780262 := by decide +kernel
theorem sum_none : tn (sumL []) = 0 := by decide +kernel
theorem TabW.lt {w : World} (h : TabW w) : 0 < w.heap.size := cell_lt (h 0 (by omega))
theorem TabW.below {w w' : World} {B : Nat} (h : TabW w) (hb : Below B w w') (hB : 0 < B) : TabW w' := fun i hi => (hb.cell (p := ⟨0, i, none⟩) hB).trans (h i hi)

abbrev nineRow : Obj := .cells #[.int .u8 49, .int .u8 50, .int .u8 51, .int .u8 52, .int .u8 53, .int .u8 54, .int .u8 55, .int .u8 56, .int .u8 57] 5 (9, 10)
theorem nine_reads (w : World) : RB (w.alloc nineRow) (w.heap.size + 1) (some ⟨w.heap.size, 0, none⟩) nine := fun _ => by
  refine ⟨_, _, rfl, Nat.lt_succ_self _, fun j hj => ?_⟩
  have hj : j < 9 := hj
  obtain rfl | rfl | rfl | rfl | rfl | rfl | rfl | rfl | rfl : j = 0 ∨ j = 1 ∨ j = 2 ∨ j = 3 ∨ j = 4 ∨ j = 5 ∨ j = 6 ∨ j = 7 ∨ j = 8 := by omega
  all_goals (rw [cell_of_row _ _ _ _ _ _ (heap_alloc_new w nineRow)]; rfl)
theorem TabW.alloc {w : World} (hw : TabW w) (o : Obj) : TabW (w.alloc o) := hw.below ((Below.refl w.heap.size w).alloc (Nat.le_refl _) o) hw.lt

end Go.Proofs.YtclgcfofgiejgaaDoor
