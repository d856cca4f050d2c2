/- WALK of the laws of layer 15: begun. -/
import Derived.Test.YtjbieehehgjnmaaDoorQq
namespace Go.Proofs.YtjbieehehgjnmaaDoor
set_option maxRecDepth 100000
open Go.RowKit
set_option linter.unusedVariables false
set_option linter.unusedSimpArgs false

def pk9 : Pk := ⟨1, 1, 0, 9, 3, 5, 2, 77, [4, 4]⟩
theorem may9 : mayC 1 1 0 9 3 5 2 77 2 := by unfold mayC; omega
theorem may0 : ¬ mayC 0 0 0 0 0 0 0 0 0 := by unfold mayC; omega
theorem is9 : IsK (encC 1 1 0 9 3 5 2 77 [4, 4]) pk9 := ⟨may9, by decide, (if_pos may9).symm⟩
theorem len9 : 8 < (encC 1 1 0 9 3 5 2 77 [4, 4]).length ∧ (encC 1 1 0 9 3 5 2 77 [4, 4]).length ≤ 4000 := by
  have e : encC 1 1 0 9 3 5 2 77 [4, 4] = sealK (bodyC 1 1 0 9 3 5 2 77 [4, 4]) := if_pos may9
  have h1 := putN_len 9 (by unfold in64; omega)
  have h2 := putN_len 3 (by unfold in64; omega)
  have h3 := putN_len 5 (by unfold in64; omega)
  have h4 := putN_len 2 (by unfold in64; omega)
  have h5 := encG_len (groups [4, 4]) (fun g hg => by have := group_le [4, 4] g hg; simp at this; omega) 0
  have h6 := flat_len _ (groups_gd [4, 4])
  rw [flat_groups] at h6
  have p1 := putN_pos 9
  have eb : (bodyC 1 1 0 9 3 5 2 77 [4, 4]).length = 3 + (putN 9).length + ((putN 3).length + ((putN 5).length + ((putN 2).length + (4 + ((putN (([4, 4] : List UInt8).length : Int)).length + (encG 0 (groups [4, 4])).length))))) := by
    unfold bodyC headK tailK
    rw [if_pos rfl]
    simp only [List.length_append, List.length_cons, s4_len]
    omega
  have h7 := putN_len (([4, 4] : List UInt8).length : Int) (by show in64 2; unfold in64; omega)
  have h8 : ([4, 4] : List UInt8).length = 2 := rfl
  rw [e, sealK_len, eb]
  omega
theorem not9 : ∀ p, ¬ IsK ((encC 1 1 0 9 3 5 2 77 [4, 4]).drop 1) p := fun p hp => by
  have e : encC 1 1 0 9 3 5 2 77 [4, 4] = sealK (bodyC 1 1 0 9 3 5 2 77 [4, 4]) := if_pos may9
  obtain ⟨z, hz⟩ := is_head hp
  rw [e] at hz
  unfold sealK bodyC headK at hz
  rw [if_pos rfl] at hz
  have e9 : putN 9 = [18] := putN_small 9 (by omega)
  rw [e9] at hz
  simp only [List.cons_append, List.drop_succ_cons, List.drop_zero, List.cons.injEq] at hz
  have h3 := hz.2.2.1
  have ht := u8_num p.t (may_bytes hp.1).2.2.1 (may_bytes hp.1).2.2.2
  rw [← h3] at ht
  obtain ⟨⟨_, _, _, t1, _⟩, _⟩ := hp.1
  have : ((18 : UInt8).toNat : Int) = 18 := by decide
  omega
set_option maxHeartbeats 4000000 in
theorem begun15_any (w : World) (hT : TabW w) :
    Calls Tryd.prog 10 #[] w fun e w' => e = .returned (.bool true) ∧ Below w.heap.size w w' := by
  obtain ⟨W1, hW1⟩ : ∃ W1, W1 = (w.alloc (.cells #[.int .u8 4, .int .u8 4] 5)).alloc (pkO 1 1 0 9 3 (some ⟨w.heap.size, 0, none⟩) 2 2 5 2 77) := ⟨_, rfl⟩
  have B1 : Below w.heap.size w W1 := by rw [hW1]; exact ((Below.refl _ _).alloc (Nat.le_refl _) _).alloc (by simp) _
  have T1 : TabW W1 := hT.below B1 hT.lt
  have R0 : RB W1 W1.heap.size (some ⟨w.heap.size, 0, none⟩) [4, 4] := by
    have h := rb_cells w [4, 4] 5 (w.alloc (.cells (([4, 4] : List UInt8).map vb).toArray 5)).heap.size (by simp)
    rw [hW1]
    exact h.next ((Below.refl _ _).alloc (Nat.le_refl _) _)
  have P1 : PkM W1 (w.heap.size + 1) 1 1 0 9 3 (some ⟨w.heap.size, 0, none⟩) 2 2 5 2 77 := by
    have h := PkM.new (w.alloc (.cells #[.int .u8 4, .int .u8 4] 5)) 1 1 0 9 3 (some ⟨w.heap.size, 0, none⟩) 2 2 5 2 77
    rw [World.size_alloc] at h
    rw [hW1]; exact h
  have S1 : Hid (w.heap.size + 1 < W1.heap.size) := by show _ < _; rw [hW1]; simp
  have HE := Lib.hid (enc_any 1 1 0 9 3 (some ⟨w.heap.size, 0, none⟩) [4, 4] 2 2 5 2 77 W1 T1 R0 rfl (Nat.le_refl _) (by unfold maxLen; omega) (by omega) (by omega))
  obtain ⟨b, hb⟩ : ∃ b, encC 1 1 0 9 3 5 2 77 [4, 4] = b := ⟨_, rfl⟩
  obtain ⟨n, hn⟩ : ∃ n, b.length = n := ⟨_, rfl⟩
  have hl9 := len9
  rw [hb, hn] at hl9
  have HIS : Hid (IsK b pk9) := by show IsK b pk9; rw [← hb]; exact is9
  have HNO : Hid (∀ p, ¬ IsK (b.drop 1) p) := by show ∀ p, _; rw [← hb]; exact not9
  rw [hb] at HE
  have HB1 := Lib.hid B1; have HT1 := Lib.hid T1; have HR0 := Lib.hid R0; have HP1 := Lib.hid P1; have HN := Lib.hid hn; have HL := Lib.hid hl9
  have hn0 : ((n : Int) == 0) = false := by simp; omega
  have hn8 : (8 : Int) < (n : Int) := by omega
  have hn1 : (1 : Int) ≤ (n : Int) := by omega
  have HW1 := Lib.hid hW1
  have c0 := P1.c
  obtain ⟨r0, r1, r2, r3, r4, r5, r6, r7, r8⟩ := c0
  clear hT B1 T1 R0 P1 hb hn hl9 hW1
  go_enter Tryd.func10, Tryd.ntmps10
  go_wp2_with fail
  rw [← HW1.out]
  (with_reducible refine HE.out.mono ?_)
  rintro e w2 ⟨v, rfl, ov, hb2⟩
  obtain ⟨A2, c2, rfl, hc2, hm2, hr2⟩ := ov.form_n n HN.out
  have HB2 := Lib.hid (HB1.out.trans (hb2.mono HB1.out.size)); have HT2 := Lib.hid (HT1.out.below hb2 HT1.out.lt); have HP2 := Lib.hid (HP1.out.below hb2 S1.out)
  have HR2 := Lib.hid hr2; have HM2 := Lib.hid hm2; have HC2 := Lib.hid hc2
  have HQ2 := Lib.hid (HR0.out.next hb2)
  have HD2 : Hid (Calls Tryd.prog 16 #[.slice A2 n c2] w2 fun e w' => ∃ (A3 : Option Addr) (n3 c3 : Nat), e = .returned (.tuple #[pkV 1 1 0 9 3 A3 n3 c3 5 2 77, .int .i64 0]) ∧ RB w' w'.heap.size A3 [4, 4] ∧ 2 = n3 ∧ Below w2.heap.size w2 w') := dec_yes A2 b n c2 w2 HT2.out hr2 HN.out hc2 hm2 (by have := HL.out; omega) pk9 HIS.out
  obtain ⟨bo, off, rfl, hbo, -⟩ := hr2 (by rw [HN.out]; have := HL.out; omega)
  have S2 : Hid (w.heap.size + 1 < w2.heap.size) := Nat.lt_of_lt_of_le S1.out hb2.size
  have hRd := hr2.cut 1 c2 (by rw [HN.out]; omega) (by rw [HN.out]; exact hc2)
  rw [if_neg (by omega)] at hRd
  simp only [Option.map_some, Addr.add_lit] at hRd
  have HRD := Lib.hid hRd
  have hc21 : ¬ c2 = 1 := by omega
  clear r0 r1 r2 r3 r4 r5 r6 r7 r8 ov hb2 hr2 hm2 hRd
  go_wp2_with fail
  (with_reducible refine HD2.out.mono ?_)
  rintro e w3 ⟨A3, n3, c3, rfl, hr3, hl3, hb3⟩
  obtain ⟨w4, hw4⟩ : ∃ w4, w4 = w3.alloc (pkO 1 1 0 9 3 A3 n3 c3 5 2 77) := ⟨_, rfl⟩
  have a4 : Below w3.heap.size w3 w4 := by rw [hw4]; exact (Below.refl _ _).alloc (Nat.le_refl _) _
  have hb4 := hb3.trans (a4.mono hb3.size)
  have HB4 := Lib.hid (HB2.out.trans (hb4.mono HB2.out.size)); have HT4 := Lib.hid (HT2.out.below hb4 HT2.out.lt); have HP4 := Lib.hid (HP2.out.below hb4 S2.out)
  have HQ4 := Lib.hid (HQ2.out.next hb4); have HR4 := Lib.hid (hr3.next a4)
  have HK4 : Hid (PkM w4 w3.heap.size 1 1 0 9 3 A3 n3 c3 5 2 77) := by show PkM _ _ _ _ _ _ _ _ _ _ _ _ _; rw [hw4]; exact PkM.new w3 _ _ _ _ _ _ _ _ _ _ _
  have S4 : Hid (w.heap.size + 1 < w4.heap.size) := Nat.lt_of_lt_of_le S2.out hb4.size
  have S4k : Hid (w3.heap.size < w4.heap.size) := by show _ < _; rw [hw4]; simp
  have HD4 := Lib.hid (dec_no (some ⟨bo, off + 1, none⟩) (b.drop 1) (n - 1) (c2 - 1) w4 HT4.out ((HRD.out.below hb4).more hb4.size) (by rw [List.length_drop, HN.out]) (by have := HC2.out; omega) (by have := HM2.out; unfold maxLen at *; omega) (by have := HL.out; omega) HNO.out)
  have HL3 := Lib.hid hl3
  have HW4 := Lib.hid hw4
  clear hr3 hl3 hb3 hw4 a4 hb4
  go_wp2_with fail
  rw [← HW4.out]
  (with_reducible refine HD4.out.mono ?_)
  rintro e w5 ⟨rfl, hb5⟩
  obtain ⟨w6, hw6⟩ : ∃ w6, w6 = w5.alloc (pkO 0 0 0 0 0 none 0 0 0 0 0) := ⟨_, rfl⟩
  have a6 : Below w5.heap.size w5 w6 := by rw [hw6]; exact (Below.refl _ _).alloc (Nat.le_refl _) _
  have hb6 := hb5.trans (a6.mono hb5.size)
  have HB6 := Lib.hid (HB4.out.trans (hb6.mono HB4.out.size)); have HP6 := Lib.hid (HP4.out.below hb6 S4.out); have HK6 := Lib.hid (HK4.out.below hb6 S4k.out)
  have HQ6 := Lib.hid (HQ4.out.next hb6); have HR6 := Lib.hid (HR4.out.next hb6)
  have S6 : Hid (w.heap.size + 1 < w6.heap.size) := Nat.lt_of_lt_of_le S4.out hb6.size
  have S6k : Hid (w3.heap.size < w6.heap.size) := Nat.lt_of_lt_of_le S4k.out hb6.size
  have HM6 := Lib.hid (may_any 1 1 0 9 3 (some ⟨w.heap.size, 0, none⟩) 2 2 5 2 77 true (decide_eq_true may9) w6 (by unfold maxLen; omega))
  obtain ⟨r0, r1, r2, r3, r4, r5, r6, r7, r8⟩ := HP6.out.c
  have HW6 := Lib.hid hw6
  clear hb5 hw6 a6 hb6
  have s0 : (w5.alloc (pkO 0 0 0 0 0 none 0 0 0 0 0)).cell? ⟨w.heap.size + 1, 0, none⟩ = some (.int .i64 1) := by rw [← HW6.out]; exact r0
  have s1 : (w5.alloc (pkO 0 0 0 0 0 none 0 0 0 0 0)).cell? ⟨w.heap.size + 1, 1, none⟩ = some (.int .i64 1) := by rw [← HW6.out]; exact r1
  have s2 : (w5.alloc (pkO 0 0 0 0 0 none 0 0 0 0 0)).cell? ⟨w.heap.size + 1, 2, none⟩ = some (.int .i64 0) := by rw [← HW6.out]; exact r2
  have s3 : (w5.alloc (pkO 0 0 0 0 0 none 0 0 0 0 0)).cell? ⟨w.heap.size + 1, 3, none⟩ = some (.int .i64 9) := by rw [← HW6.out]; exact r3
  have s4 : (w5.alloc (pkO 0 0 0 0 0 none 0 0 0 0 0)).cell? ⟨w.heap.size + 1, 4, none⟩ = some (.int .i64 3) := by rw [← HW6.out]; exact r4
  have s5 : (w5.alloc (pkO 0 0 0 0 0 none 0 0 0 0 0)).cell? ⟨w.heap.size + 1, 5, none⟩ = some (.slice (some ⟨w.heap.size, 0, none⟩) 2 2) := by rw [← HW6.out]; exact r5
  have s6 : (w5.alloc (pkO 0 0 0 0 0 none 0 0 0 0 0)).cell? ⟨w.heap.size + 1, 6, none⟩ = some (.int .i64 5) := by rw [← HW6.out]; exact r6
  have s7 : (w5.alloc (pkO 0 0 0 0 0 none 0 0 0 0 0)).cell? ⟨w.heap.size + 1, 7, none⟩ = some (.int .i64 2) := by rw [← HW6.out]; exact r7
  have s8 : (w5.alloc (pkO 0 0 0 0 0 none 0 0 0 0 0)).cell? ⟨w.heap.size + 1, 8, none⟩ = some (.int .u32 77) := by rw [← HW6.out]; exact r8
  clear r0 r1 r2 r3 r4 r5 r6 r7 r8
  go_wp2_with fail
  rw [← HW6.out]
  (with_reducible refine HM6.out.mono ?_)
  rintro e w7 ⟨rfl, hw7⟩
  have b7 : Below w6.heap.size w6 w7 := by rw [← hw7]; exact (Below.refl _ _).alloc (Nat.le_refl _) _
  have HM7 := Lib.hid (may_any 0 0 0 0 0 none 0 0 0 0 0 false (decide_eq_false may0) w7 (by unfold maxLen; omega))
  have HB7 := Lib.hid b7
  clear s0 s1 s2 s3 s4 s5 s6 s7 s8 hw7 b7
  go_wp2_with fail
  (with_reducible refine HM7.out.mono ?_)
  rintro e w8 ⟨rfl, hw8⟩
  have b8 : Below w7.heap.size w7 w8 := by rw [← hw8]; exact (Below.refl _ _).alloc (Nat.le_refl _) _
  have hb8 := HB7.out.trans (b8.mono HB7.out.size)
  have HB8 := Lib.hid (HB6.out.trans (hb8.mono HB6.out.size)); have HP8 := Lib.hid (HP6.out.below hb8 S6.out); have HK8 := Lib.hid (HK6.out.below hb8 S6k.out)
  have HEQ := Lib.hid (eqpacket_any 1 1 0 9 3 (some ⟨w.heap.size, 0, none⟩) [4, 4] 2 2 5 2 77 1 1 0 9 3 A3 [4, 4] n3 c3 5 2 77 w8 (HQ6.out.next hb8) (HR6.out.next hb8) rfl HL3.out true (by simp))
  obtain ⟨r0, r1, r2, r3, r4, r5, r6, r7, r8⟩ := HP8.out.c
  obtain ⟨t0, t1, t2, t3, t4, t5, t6, t7, t8⟩ := HK8.out.c
  clear hw8 b8 hb8
  go_wp2_with fail
  (with_reducible refine HEQ.out.mono ?_)
  rintro e w9 ⟨rfl, hw9⟩
  have b9 : Below w8.heap.size w8 w9 := by rw [← hw9]; exact ((Below.refl _ _).alloc (Nat.le_refl _) _).alloc (by simp) _
  have HB9 := Lib.hid (HB8.out.trans (b9.mono HB8.out.size))
  clear hw9 b9 r0 r1 r2 r3 r4 r5 r6 r7 r8 t0 t1 t2 t3 t4 t5 t6 t7 t8
  go_wp2
  go_ret
  exact ⟨rfl, HB9.out⟩
end Go.Proofs.YtjbieehehgjnmaaDoor
