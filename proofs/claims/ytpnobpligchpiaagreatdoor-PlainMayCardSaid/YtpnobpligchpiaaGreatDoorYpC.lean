/- texts of YpC -/
import Derived.Lib.SlBytesConst
import Derived.Test.YtpnobpligchpiaaGreatDoorYpK
namespace Go.Proofs.YtpnobpligchpiaaGreatDoor
abbrev W32 := BitVec 32
def poly : W32 := 0xedb88320#32
def bit1 (c : W32) : W32 := if c.toNat % 2 = 1 then (c >>> 1) ^^^ poly else c >>> 1
def bits4 (c : W32) : W32 := bit1 (bit1 (bit1 (bit1 c)))
def byte8 (c : W32) : W32 := bits4 (bits4 c)
def ofB (b : UInt8) : W32 := BitVec.ofNat 32 b.toNat
def crcL (c : W32) (l : List UInt8) : W32 := l.foldl (fun c b => byte8 (c ^^^ ofB b)) c
def sumL (l : List UInt8) : W32 := ~~~ (crcL (BitVec.allOnes 32) l)
theorem crcL_nil (c : W32) : crcL c [] = c := by unfold crcL; rw [List.foldl_nil]
theorem crcL_cons (c : W32) (b : UInt8) (l : List UInt8) : crcL c (b :: l) = crcL (byte8 (c ^^^ ofB b)) l := by unfold crcL; rw [List.foldl_cons]
theorem crcL_append (c : W32) (a b : List UInt8) : crcL c (a ++ b) = crcL (crcL c a) b := by unfold crcL; rw [List.foldl_append]
theorem crcL_snoc (c : W32) (a : List UInt8) (b : UInt8) : crcL c (a ++ [b]) = byte8 (crcL c a ^^^ ofB b) := by rw [crcL_append, crcL_cons, crcL_nil]
theorem xor_parity (a b : W32) : (a ^^^ b).toNat % 2 = (a.toNat % 2 + b.toNat % 2) % 2 := by
 rw [BitVec.toNat_xor]
 have h := Nat.xor_mod_two_pow (a := a.toNat) (b := b.toNat) (n := 1)
 simp only [Nat.pow_one] at h
 rw [h]
 have ha : a.toNat % 2 = 0 ∨ a.toNat % 2 = 1 := by omega
 have hb : b.toNat % 2 = 0 ∨ b.toNat % 2 = 1 := by omega
 rcases ha with ha | ha <;> rcases hb with hb | hb <;> rw [ha, hb] <;> rfl
theorem bit1_xor (a b : W32) : bit1 (a ^^^ b) = bit1 a ^^^ bit1 b := by
 unfold bit1
 have hp := xor_parity a b
 have hs : (a ^^^ b) >>> 1 = (a >>> 1) ^^^ (b >>> 1) := by
  apply BitVec.eq_of_getLsbD_eq; intro i hi; simp
 rw [hp, hs]
 have ha : a.toNat % 2 = 0 ∨ a.toNat % 2 = 1 := by omega
 have hb : b.toNat % 2 = 0 ∨ b.toNat % 2 = 1 := by omega
 rcases ha with ha | ha <;> rcases hb with hb | hb <;> rw [ha, hb] <;> simp
 · rw [BitVec.xor_assoc]
 · rw [BitVec.xor_assoc, BitVec.xor_assoc, BitVec.xor_comm poly (b >>> 1)]
 · have : a >>> 1 ^^^ poly ^^^ (b >>> 1 ^^^ poly) = a >>> 1 ^^^ b >>> 1 ^^^ (poly ^^^ poly) := by ac_rfl
   rw [this]; simp
theorem bits4_xor (a b : W32) : bits4 (a ^^^ b) = bits4 a ^^^ bits4 b := by unfold bits4; rw [bit1_xor, bit1_xor, bit1_xor, bit1_xor]
theorem bit1_shl (d : W32) (h : d.toNat < 2 ^ 31) : bit1 (d <<< 1) = d := by
 unfold bit1
 have e : (d <<< 1).toNat = 2 * d.toNat := by
  simp only [BitVec.toNat_shiftLeft, Nat.shiftLeft_eq]; omega
 rw [if_neg (by omega)]
 apply BitVec.eq_of_toNat_eq
 rw [BitVec.toNat_ushiftRight, e, Nat.shiftRight_eq_div_pow]; omega
theorem shl_toNat (d : W32) (k : Nat) (h : d.toNat * 2 ^ k < 2 ^ 32) : (d <<< k).toNat = d.toNat * 2 ^ k := by
 simp only [BitVec.toNat_shiftLeft, Nat.shiftLeft_eq]; exact Nat.mod_eq_of_lt h
theorem bits4_shl (d : W32) (h : d.toNat < 2 ^ 28) : bits4 (d <<< 4) = d := by
 have e1 : d <<< 4 = (d <<< 3) <<< 1 := by rw [← BitVec.shiftLeft_add]
 have e2 : d <<< 3 = (d <<< 2) <<< 1 := by rw [← BitVec.shiftLeft_add]
 have e3 : d <<< 2 = (d <<< 1) <<< 1 := by rw [← BitVec.shiftLeft_add]
 unfold bits4
 rw [e1, bit1_shl _ (by rw [shl_toNat] <;> omega), e2, bit1_shl _ (by rw [shl_toNat] <;> omega), e3, bit1_shl _ (by rw [shl_toNat] <;> omega), bit1_shl _ (by omega)]
def tabN : Nat → W32
 | 0 => 0 | 1 => 498536548 | 2 => 997073096 | 3 => 651767980 | 4 => 1994146192 | 5 => 1802195444 | 6 => 1303535960 | 7 => 1342533948
 | 8 => 3988292384 | 9 => 4027552580 | 10 => 3604390888 | 11 => 3412177804 | 12 => 2607071920 | 13 => 2262029012 | 14 => 2685067896 | _ => 3183342108
def halfT (c : W32) : W32 := (c >>> 4) ^^^ tabN (c.toNat % 16)
theorem tab_bits4 : ∀ i : Fin 16, bits4 (BitVec.ofNat 32 i.val) = tabN i.val := by decide
theorem halfT_bits4 (c : W32) : halfT c = bits4 c := by
 have e : c = BitVec.ofNat 32 (c.toNat % 16) ^^^ ((c >>> 4) <<< 4) := by
  apply BitVec.eq_of_toNat_eq
  have hc := c.isLt
  rw [BitVec.toNat_xor, shl_toNat _ _ (by rw [BitVec.toNat_ushiftRight, Nat.shiftRight_eq_div_pow]; omega)]
  simp only [BitVec.toNat_ofNat, BitVec.toNat_ushiftRight, Nat.shiftRight_eq_div_pow]
  rw [Nat.mod_eq_of_lt (show c.toNat % 16 < 2 ^ 32 by omega)]
  apply Nat.eq_of_testBit_eq
  intro i
  rw [Nat.testBit_xor, Nat.mul_comm, Nat.testBit_two_pow_mul, Nat.testBit_div_two_pow]
  have h16 : c.toNat % 16 = c.toNat % 2 ^ 4 := rfl
  rw [h16, Nat.testBit_mod_two_pow]
  by_cases hi : i < 4
  · simp [hi, Nat.not_le.2 hi]
  · simp [hi, show 4 ≤ i by omega, show i - 4 + 4 = i by omega]
 have h2 : bits4 c = bits4 (BitVec.ofNat 32 (c.toNat % 16)) ^^^ bits4 ((c >>> 4) <<< 4) := by
  rw [← bits4_xor, ← e]
 rw [h2, bits4_shl _ (by rw [BitVec.toNat_ushiftRight, Nat.shiftRight_eq_div_pow]; have := c.isLt; omega)]
 have h3 := tab_bits4 ⟨c.toNat % 16, by omega⟩
 simp only at h3
 rw [h3, BitVec.xor_comm]
 rfl
open Go.RowKit
set_option linter.unusedVariables false
def tn (c : W32) : Int := (c.toNat : Int)
def TabW (w : World) : Prop := ∀ i, i < 16 → w.cell? ⟨0, i, none⟩ = some (.int .u32 (tn (tabN i)))
theorem tn_lo (c : W32) : 0 ≤ tn c := by unfold tn; omega
theorem tn_hi (c : W32) : tn c ≤ 4294967295 := by have := c.isLt; unfold tn; omega
theorem x_xor (a b : W32) : bits .xor .u32 (tn a) (tn b) = tn (a ^^^ b) := by
 unfold tn; rw [u32_xor_nat _ _ a.isLt b.isLt, BitVec.toNat_xor]
def notW (a : W32) : W32 := ~~~ a
theorem x_not (a : W32) : bits .xor .u32 IntKind.u32.max (tn a) = tn (notW a) := by
 have h : IntKind.u32.max = tn (BitVec.allOnes 32) := by unfold tn; decide
 rw [h, x_xor, BitVec.allOnes_xor]; rfl
theorem x_shr4 (a : W32) : tn a / (16 : Int) = tn (a >>> 4) := by
 unfold tn; rw [BitVec.toNat_ushiftRight, Nat.shiftRight_eq_div_pow]; omega
theorem x_shr1 (a : W32) : tn a / (2 : Int) = tn (a >>> 1) := by
 unfold tn; rw [BitVec.toNat_ushiftRight, Nat.shiftRight_eq_div_pow]; omega
theorem x_byte (b : UInt8) : ((b.toNat : Nat) : Int) = tn (ofB b) := by
 have := b.toNat_lt
 unfold tn ofB; rw [BitVec.toNat_ofNat, Nat.mod_eq_of_lt (by omega)]
theorem x_step (a : W32) (b : UInt8) : bits .xor .u32 (tn a) (b.toNat : Int) = tn (a ^^^ ofB b) := by rw [x_byte, x_xor]
theorem x_half (c : W32) : bits .xor .u32 (tn c / 16) (tn (tabN (c.toNat % 16))) = tn (bits4 c) := by
 rw [x_shr4, x_xor, ← halfT_bits4]; rfl
theorem x_mod (c : W32) : (tn c % 16).toNat = c.toNat % 16 := by unfold tn; omega
theorem ret_w {a b : Int} (h : a = b) : Ending.returned (.int .u32 a) = .returned (.int .u32 b) := by rw [h]
set_option maxHeartbeats 400000 in
theorem divide_any (c : W32) (w : World) (hw : TabW w) :
 Calls Tryz.prog 189 #[.int .u32 (tn c)] w fun e w' => e = .returned (.int .u32 (tn (bits4 c))) ∧ w = w' := by
 have h0 := tn_lo c
 have h1 := tn_hi c
 have hcell := hw (c.toNat % 16) (by omega)
 rw [← x_mod] at hcell
 have hm : (tn c % 16).toNat < 16 := by omega
 go_enter Tryz.func189, Tryz.ntmps189
 go_wp2
 go_ret
 exact ⟨ret_w (by rw [x_mod]; exact x_half c), rfl⟩
theorem crcL_take_succ (c : W32) (l : List UInt8) (k : Nat) (h : k < l.length) : crcL c (l.take (k + 1)) = byte8 (crcL c (l.take k) ^^^ ofB l[k]) := by
 rw [List.take_succ_eq_append_getElem h, crcL_snoc]
def moreW (s : W32) (l : List UInt8) : W32 := notW (crcL (notW s) l)
set_option maxHeartbeats 1000000 in
theorem more_any (s : W32) (A : Option Addr) (l : List UInt8) (cap B : Nat) (w : World) (hw : TabW w) (hr : RB w B A l) (hl : l.length ≤ maxLen) :
 Calls Tryz.prog 174 #[.int .u32 (tn s), .slice A l.length cap] w fun e w' => e = .returned (.int .u32 (tn (moreW s l))) ∧ w = w' := by
 unfold maxLen at hl
 have h0 := tn_lo s
 have h1 := tn_hi s
 unfold moreW
 obtain ⟨t, ht⟩ : ∃ t, t = notW s := ⟨_, rfl⟩
 have hn := x_not s
 rw [← ht] at hn ⊢
 clear ht
 go_enter Tryz.func174, Tryz.ntmps174
 go_wp2
 clear hn
 go_loop [5, 12] (fun c i => ∃ k : Nat, k ≤ l.length ∧ i = .int .i64 k ∧ c = .int .u32 (tn (crcL t (l.take k)))) (fun _ i => l.length - (intOf i).toNat)
 case atStart => exact ⟨0, Nat.zero_le _, rfl, by rw [List.take_zero, crcL_nil]⟩
 case round =>
  obtain ⟨k, hk, rfl, rfl⟩ := hrel
  by_cases h : k < l.length
  · have HN := qh (crcL_take_succ t l k h)
    generalize crcL t (l.take k) = c at HN ⊢
    obtain ⟨b, off, rfl, _, hcell⟩ := hr (by omega)
    have hx := hcell k h
    generalize l[k] = y at HN hx
    clear hcell
    unfold vb at hx
    have hxor := x_step c y
    have hyl := y.toNat_lt
    have hc0 := tn_lo c
    have hc1 := tn_hi c
    go_wp2_with (go_at_call 189; refine (divide_any _ _ hw).mono ?_; rintro e w' ⟨rfl, rfl⟩)
    clear hxor
    go_round
    case rel => exact ⟨k + 1, by omega, by go_num, by rw [HN.out]; rfl⟩
    case measure => simp [intOf]; omega
  · have hk2 : l.take k = l := List.take_of_length_le (by omega)
    have HC : Hid (crcL t l = crcL t (l.take k)) := by unfold Hid; rw [hk2]
    clear hk2
    generalize crcL t (l.take k) = c at HC ⊢
    have hn := x_not c
    have hc0 := tn_lo c
    have hc1 := tn_hi c
    go_wp2
    go_ret
    exact ⟨by rw [HC.out]; rfl, rfl⟩
theorem more_zero (A : Option Addr) (l : List UInt8) (cap B : Nat) (w : World) (hw : TabW w) (hr : RB w B A l) (hl : l.length ≤ maxLen) :
 Calls Tryz.prog 174 #[.int .u32 0, .slice A l.length cap] w fun e w' => e = .returned (.int .u32 (tn (sumL l))) ∧ w = w' :=
 more_any 0#32 A l cap B w hw hr hl
theorem sum_any (A : Option Addr) (l : List UInt8) (cap B : Nat) (w : World) (hw : TabW w) (hr : RB w B A l) (hl : l.length ≤ maxLen) :
 Calls Tryz.prog 150 #[.slice A l.length cap] w fun e w' => e = .returned (.int .u32 (tn (sumL l))) ∧ w = w' := by
 go_enter Tryz.func150, Tryz.ntmps150
 go_wp2_with (go_at_call 174; refine (more_zero A l cap B _ hw hr hl).mono ?_; rintro e w' ⟨rfl, rfl⟩)
 go_ret
 exact ⟨rfl, rfl⟩
def bitN : Nat → W32 → W32
 | 0, c => c
 | n + 1, c => bit1 (bitN n c)
theorem bitN_8 (c : W32) : bitN 8 c = byte8 c := rfl
theorem bit1_odd (c : W32) (h : tn c % 2 = 1) : bits .xor .u32 (tn c / 2) 3988292384 = tn (bit1 c) := by
 have e : (3988292384 : Int) = tn poly := by unfold tn; decide
 rw [x_shr1, e, x_xor]
 unfold bit1
 rw [if_pos (by unfold tn at h; omega)]
theorem bit1_even (c : W32) (h : ¬ tn c % 2 = 1) : tn c / (2 : Int) = tn (bit1 c) := by
 rw [x_shr1]
 unfold bit1
 rw [if_neg (by unfold tn at h; omega)]
set_option maxHeartbeats 1000000 in
theorem refsum_any (A : Option Addr) (l : List UInt8) (cap B : Nat) (w : World) (hr : RB w B A l) (hl : l.length ≤ maxLen) :
 Calls Tryz.prog 81 #[.slice A l.length cap] w fun e w' => e = .returned (.int .u32 (tn (sumL l))) ∧ w = w' := by
 unfold maxLen at hl
 obtain ⟨t, ht⟩ : ∃ t, t = BitVec.allOnes 32 := ⟨_, rfl⟩
 have htn : (4294967295 : Int) = tn t := by rw [ht]; unfold tn; decide
 have HT : Hid (notW (crcL t l) = sumL l) := by unfold Hid; rw [ht]; rfl
 clear ht
 have HN := qh htn; clear htn
 go_enter Tryz.func81, Tryz.ntmps81
 go_wp2
 go_loop [3, 4] (fun c i => ∃ k : Nat, k ≤ l.length ∧ i = .int .i64 k ∧ c = .int .u32 (tn (crcL t (l.take k)))) (fun _ i => l.length - (intOf i).toNat)
 case atStart => exact ⟨0, Nat.zero_le _, rfl, by rw [List.take_zero, crcL_nil, ← HN.out]⟩
 case round =>
  obtain ⟨k, hk, rfl, rfl⟩ := hrel
  by_cases h : k < l.length
  · have HS := qh (crcL_take_succ t l k h)
    generalize crcL t (l.take k) = c at HS ⊢
    obtain ⟨b, off, rfl, _, hcell⟩ := hr (by omega)
    have hx := hcell k h
    generalize l[k] = y at HS hx
    clear hcell
    unfold vb at hx
    have hxor := x_step c y
    have hyl := y.toNat_lt
    have hc0 := tn_lo c
    have hc1 := tn_hi c
    go_wp2
    clear hxor hx hc0 hc1
    generalize c ^^^ ofB y = d at HS ⊢
    go_loop [3, 5] (fun c i => ∃ j : Nat, j ≤ 8 ∧ i = .int .i64 j ∧ c = .int .u32 (tn (bitN j d))) (fun _ i => 8 - (intOf i).toNat)
    case atStart => exact ⟨0, by omega, rfl, rfl⟩
    case round =>
     obtain ⟨j, hj, rfl, rfl⟩ := hrel
     by_cases hj8 : j < 8
     · have HB : Hid (bitN (j + 1) d = bit1 (bitN j d)) := rfl
       generalize bitN j d = z at HB ⊢
       have hz0 := tn_lo z
       have hz1 := tn_hi z
       by_cases hodd : tn z % 2 = 1
       · have ho := bit1_odd z hodd
         have hodd2 : (tn z % 2 == 1) = true := by rw [hodd]; rfl
         clear hodd
         go_wp2
         go_round
         case rel => exact ⟨j + 1, by omega, by go_num, by rw [HB.out]⟩
         case measure => simp [intOf]; omega
       · have ho := bit1_even z hodd
         have hodd2 : (tn z % 2 == 1) = false := by rw [beq_eq_false_iff_ne]; exact hodd
         clear hodd
         go_wp2
         go_round
         case rel => exact ⟨j + 1, by omega, by go_num, by rw [HB.out]⟩
         case measure => simp [intOf]; omega
     · obtain rfl : j = 8 := by omega
       have HB : Hid (bitN 8 d = byte8 d) := bitN_8 d
       generalize bitN 8 d = z at HB ⊢
       go_wp2
       go_round
       case rel => exact ⟨k + 1, by omega, by go_num, by rw [HS.out, HB.out]⟩
       case measure => simp [intOf]; omega
  · have hk2 : l.take k = l := List.take_of_length_le (by omega)
    have HC : Hid (crcL t l = crcL t (l.take k)) := by unfold Hid; rw [hk2]
    clear hk2
    generalize crcL t (l.take k) = c at HC ⊢
    have hn := x_not c
    have hc0 := tn_lo c
    have hc1 := tn_hi c
    go_wp2
    go_ret
    exact ⟨by rw [← HT.out, HC.out]; rfl, rfl⟩
theorem TabW.lt {w : World} (h : TabW w) : 0 < w.heap.size := cell_lt (h 0 (by omega))
theorem TabW.below {w w' : World} {B : Nat} (h : TabW w) (hb : Below B w w') (hB : 0 < B) : TabW w' := fun i hi => (hb.cell (p := ⟨0, i, none⟩) hB).trans (h i hi)
theorem TabW.alloc {w : World} (hw : TabW w) (o : Obj) : TabW (w.alloc o) := hw.below ((bR w.heap.size w).alloc (nl _) o) hw.lt
open Go.ChangeShapes Go.WideShapes Go.ChangeAt Go.RowKit
abbrev crcLaid : List (String × DataW Unit) := [("quintain/crc.rests", Rows.laid_quintain_crc_rests)]
def tabZ : List Int := [0, 498536548, 997073096, 651767980, 1994146192, 1802195444, 1303535960, 1342533948, 3988292384, 4027552580, 3604390888, 3412177804, 2607071920, 2262029012, 2685067896, 3183342108]
theorem gRests : Tryz.prog.globalNamed "quintain/crc.rests" = some 0 := by kernel_rfl
theorem tRests : (Tryz.prog.globals[0]?).map (·.type) = some 268 := by kernel_rfl
theorem cellsWord : Tryz.prog.cellsOf 34 = 1 := by kernel_rfl
theorem cellsTab : Tryz.prog.cellsOf 268 = 16 := by kernel_rfl
theorem laid_is : (Rows.laid_quintain_crc_rests : DataW Unit) = Lib.tabData .u32 tabZ := rfl
theorem tabZ_tabN : ∀ i : Fin 16, tabZ.getD i.val 0 = tn (tabN i.val) := by decide +kernel
theorem tabW_of_laid {W : World} (h : laidMetH Tryz.prog crcLaid W) : TabW W := by
 rw [MakeChecks.laidMetH_plain _ _ _ (by kernel_rfl)] at h
 unfold crcLaid at h
 rw [laid_is] at h
 have hT := Lib.tabIs_of_head gRests tRests Tryz.underlying268 Tryz.underlying34 cellsWord cellsTab h
 intro i hi
 have hc := hT.cell gRests i hi
 rw [hc, tabZ_tabN ⟨i, hi⟩]
theorem door_met (os : Os) (args : Array Value) : laidMetH Tryz.prog crcLaid ((World.doorLaid Tryz.prog 100 os).forCall (fun _ _ => 0) ⟨#[], args, []⟩).memory :=
 laidMetH_of_parts3 (fuel := 8) (laidMet_of_run' 8 (by kernel_rfl) (by kernel_rfl)) (by kernel_rfl) (by kernel_rfl)
end Go.Proofs.YtpnobpligchpiaaGreatDoor
