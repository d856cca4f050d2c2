/- WALK over package packet: Encode. -/
import Derived.Test.YtjbieehehgjnmaaDoorQd
import Derived.Test.YtjbieehehgjnmaaDoorCc
namespace Go.Proofs.YtjbieehehgjnmaaDoor
set_option maxRecDepth 100000
open Go.RowKit
set_option linter.unusedVariables false
set_option linter.unusedSimpArgs false

abbrev hdO (a b c : Int) : Obj := .cells #[.int .u8 a, .int .u8 b, .int .u8 c] 5
theorem hd_reads (w : World) (a b c : Int) (x y z : UInt8) (hx : (x.toNat : Int) = a) (hy : (y.toNat : Int) = b) (hz : (z.toNat : Int) = c) : RB (w.alloc (hdO a b c)) (w.alloc (hdO a b c)).heap.size (some ⟨w.heap.size, 0, none⟩) [x, y, z] := fun _ => by
  refine ⟨_, _, rfl, by simp, fun j hj => ?_⟩
  have hj : j < 3 := hj
  subst hx hy hz
  obtain rfl | rfl | rfl : j = 0 ∨ j = 1 ∨ j = 2 := by omega
  all_goals (rw [cell_of_row _ _ _ _ _ _ (heap_alloc_new w (hdO _ _ _))]; rfl)
theorem sum_n (A : Option Addr) (l : List UInt8) (n cap : Nat) (w : World) (hw : TabW w) (hr : RB w w.heap.size A l) (hn : l.length = n) (hl : n ≤ maxLen) :
    Calls Tryd.prog 24 #[.slice A n cap] w fun e w' => e = .returned (.int .u32 (tn (sumL l))) ∧ w = w' := by
  subst hn
  exact sum_any A l cap w.heap.size w hw hr hl
set_option maxHeartbeats 4000000 in
theorem enc_any (k f t id fi : Int) (A : Option Addr) (l : List UInt8) (n c : Nat) (ac fr su : Int) (w : World) (hT : TabW w) (hr : RB w w.heap.size A l) (hn : l.length = n) (hc : n ≤ c) (hm : c ≤ maxLen)
    (h4 : 0 ≤ su) (h5 : su ≤ 4294967295) :
    Calls Tryd.prog 12 #[pkV k f t id fi A n c ac fr su] w fun e w' => ∃ v, e = .returned v ∧ OB w' w.heap.size v (encC k f t id fi ac fr su l) ∧ Below w.heap.size w w' := by
  have hnm : n ≤ maxLen := Nat.le_trans hc hm
  by_cases hmay : mayC k f t id fi ac fr su n
  · have HM := Lib.hid (fun W => may_any k f t id fi A n c ac fr su true (decide_eq_true hmay) W hnm)
    have he : encC k f t id fi ac fr su l = sealK (bodyC k f t id fi ac fr su l) := by unfold encC; rw [hn, if_pos hmay]
    have hid : in64 id := by obtain ⟨⟨_, _, _, _, _, _, _⟩, _⟩ := hmay; unfold in64; omega
    have HID := Lib.hid hid; have HMAY := Lib.hid hmay; have HE := Lib.hid he
    have HT := Lib.hid hT; have HR := Lib.hid hr; have HN := Lib.hid hn; have HMM := Lib.hid hm
    rcases hmay.2 with ⟨rfl, -, -, -, -, -, -, hl⟩ | ⟨rfl, rfl, rfl, rfl, rfl, hl⟩
    · have HL0 := Lib.hid hl
      clear hT hr hn hm hid hmay he hnm
      obtain ⟨W3, hW3⟩ : ∃ W3, W3 = ((w.alloc (pkO 1 f t id fi A n c ac fr su)).alloc (pkO 1 f t id fi A n c ac fr su)).alloc (hdO 1 (f % 256) (t % 256)) := ⟨_, rfl⟩
      have S3 : Hid (W3.heap.size = w.heap.size + 3) := by show _ = _; rw [hW3]; simp
      have B3 : Hid (Below w.heap.size w W3) := by rw [hW3]; exact (((Below.refl _ _).alloc (Nat.le_refl _) _).alloc (by simp) _).alloc (by simp; omega) _
      have R3 : Hid (RB W3 W3.heap.size (some ⟨w.heap.size + 1 + 1, 0, none⟩) [u8 1, u8 f, u8 t]) := by
        rw [hW3]
        have h := hd_reads ((w.alloc (pkO 1 f t id fi A n c ac fr su)).alloc (pkO 1 f t id fi A n c ac fr su)) 1 (f % 256) (t % 256) (u8 1) (u8 f) (u8 t) (u8_nat _) (u8_nat _) (u8_nat _)
        rw [show ((w.alloc (pkO 1 f t id fi A n c ac fr su)).alloc (pkO 1 f t id fi A n c ac fr su)).heap.size = w.heap.size + 1 + 1 by simp] at h
        exact h
      have C0 : Hid (∀ j v, #[Value.int .i64 1, .int .i64 f, .int .i64 t, .int .i64 id, .int .i64 fi, .slice A n c, .int .i64 ac, .int .i64 fr, .int .u32 su][j]? = some v → W3.cell? ⟨w.heap.size, j, none⟩ = some v) := fun j v h => by
        rw [hW3]
        have h0 := heap_alloc_new w (pkO 1 f t id fi A n c ac fr su)
        have h1 : (((w.alloc (pkO 1 f t id fi A n c ac fr su)).alloc (pkO 1 f t id fi A n c ac fr su)).alloc (hdO 1 (f % 256) (t % 256))).heap[w.heap.size]? = some (pkO 1 f t id fi A n c ac fr su) := by
          rw [Below.heap_alloc _ _ _ (by simp; omega), Below.heap_alloc _ _ _ (by simp)]; exact h0
        rw [cell_of_row _ _ _ _ _ _ h1]
        exact h
      have HP1 := Lib.hid (put_n (some ⟨w.heap.size + 1 + 1, 0, none⟩) [u8 1, u8 f, u8 t] 3 3 id W3 R3.out rfl HID.out (by omega))
      have HW3 := Lib.hid hW3
      clear hW3
      go_enter Tryd.func12, Tryd.ntmps12
      go_wp2_with (first
        | (go_at_call 13; (with_reducible refine (HM.out _).mono ?_); rintro e w1 ⟨rfl, rfl⟩))
      rw [← HW3.out]
      (with_reducible refine HP1.out.mono ?_)
      rintro e w4 ⟨v4, rfl, o4, hb4⟩
      obtain ⟨x, hx⟩ : ∃ x, [u8 1, u8 f, u8 t] ++ putN id = x := ⟨_, rfl⟩
      rw [hx] at o4
      have hxl : x.length ≤ 13 := by rw [← hx, List.length_append]; have := putN_len id HID.out; show 3 + _ ≤ 13; omega
      obtain ⟨m4, hm4⟩ : ∃ m4, x.length = m4 := ⟨_, rfl⟩
      obtain ⟨A4, cap4, rfl, hc4, hcm4, hr4⟩ := o4.form_n m4 hm4
      have hbA : Below w.heap.size w w4 := B3.out.trans (hb4.mono B3.out.size)
      have HX := Lib.hid hx; have HXL := Lib.hid hxl; have HM4 := Lib.hid hm4
      have S4 : Hid (w.heap.size + 3 ≤ w4.heap.size) := by show _ ≤ _; rw [← S3.out]; exact hb4.size
      have k0 := (hb4.cell (p := ⟨w.heap.size, 0, none⟩) (show w.heap.size < _ by rw [S3.out]; omega)).trans (C0.out 0 _ rfl)
      have k1 := (hb4.cell (p := ⟨w.heap.size, 1, none⟩) (show w.heap.size < _ by rw [S3.out]; omega)).trans (C0.out 1 _ rfl)
      have k2 := (hb4.cell (p := ⟨w.heap.size, 2, none⟩) (show w.heap.size < _ by rw [S3.out]; omega)).trans (C0.out 2 _ rfl)
      have k3 := (hb4.cell (p := ⟨w.heap.size, 3, none⟩) (show w.heap.size < _ by rw [S3.out]; omega)).trans (C0.out 3 _ rfl)
      have k4 := (hb4.cell (p := ⟨w.heap.size, 4, none⟩) (show w.heap.size < _ by rw [S3.out]; omega)).trans (C0.out 4 _ rfl)
      have k5 := (hb4.cell (p := ⟨w.heap.size, 5, none⟩) (show w.heap.size < _ by rw [S3.out]; omega)).trans (C0.out 5 _ rfl)
      have k6 := (hb4.cell (p := ⟨w.heap.size, 6, none⟩) (show w.heap.size < _ by rw [S3.out]; omega)).trans (C0.out 6 _ rfl)
      have k7 := (hb4.cell (p := ⟨w.heap.size, 7, none⟩) (show w.heap.size < _ by rw [S3.out]; omega)).trans (C0.out 7 _ rfl)
      have k8 := (hb4.cell (p := ⟨w.heap.size, 8, none⟩) (show w.heap.size < _ by rw [S3.out]; omega)).trans (C0.out 8 _ rfl)
      have hrl := HR.out.next hbA
      have HPI := Lib.hid (putinput_any A4 x m4 cap4 1 f t id fi A l n c ac fr su w4 hr4 hm4 (by omega) hrl HN.out hc HMM.out hl (by have := HMAY.out; unfold mayC at this; unfold in64; omega) (by have := HMAY.out; unfold mayC at this; unfold in64; omega) (by have := HMAY.out; unfold mayC at this; unfold in64; omega) h4 h5)
      clear hx hm4 hcm4 hr4 hrl o4 hb4
      go_wp2_with fail
      (with_reducible refine HPI.out.mono ?_)
      rintro e w5 ⟨v5, rfl, o5, hb5⟩
      replace hbA := hbA.trans (hb5.mono hbA.size)
      obtain ⟨y, hy⟩ : ∃ y, x ++ tailK fi ac fr su l = y := ⟨_, rfl⟩
      rw [hy] at o5
      have HY : Hid (bodyC 1 f t id fi ac fr su l = y) := by
        show _ = _
        unfold bodyC headK
        rw [if_pos rfl, ← hy, ← HX.out]
        rfl
      obtain ⟨m5, hm5⟩ : ∃ m5, y.length = m5 := ⟨_, rfl⟩
      have hm5l : m5 ≤ 100000 := by
        have h := encG_groups_len l (by have := HN.out; omega) 0
        rw [← hm5, ← hy]
        unfold tailK
        simp only [List.length_append, s4_len]
        have := putN_len fi (by have := HMAY.out; unfold mayC at this; unfold in64; omega)
        have := putN_len ac (by have := HMAY.out; unfold mayC at this; unfold in64; omega)
        have := putN_len fr (by have := HMAY.out; unfold mayC at this; unfold in64; omega)
        have := putN_len (l.length : Int) (by have := HN.out; unfold in64; omega)
        omega
      obtain ⟨A5, cap5, rfl, hc5, hcm5, hr5⟩ := o5.form_n m5 hm5
      replace o5 := o5.less (show w.heap.size ≤ w4.heap.size by have := S4.out; omega)
      clear k0 k1 k2 k3 k4 k5 k6 k7 k8 hy
      have HT5 := Lib.hid (HT.out.below hbA HT.out.lt)
      have HSU := Lib.hid (sum_n A5 y m5 cap5 w5 HT5.out hr5 hm5 (by unfold maxLen; omega))
      have HBA := Lib.hid hbA; have HO5 := Lib.hid o5; have HM5 := Lib.hid hm5
      obtain ⟨z, hz⟩ : ∃ z, tn (sumL y) = z := ⟨_, rfl⟩
      have hz0 : 0 ≤ z := by rw [← hz]; exact tn_lo _
      have hz1 : z ≤ 4294967295 := by rw [← hz]; exact tn_hi _
      rw [hz] at HSU
      have HZ := Lib.hid hz
      have HF := Lib.hid (nfour_any z w5 hz0 hz1)
      have ha : Below w5.heap.size w5 (w5.alloc (rowB (s4 z))) := (Below.refl _ _).alloc (Nat.le_refl _) _
      have OX := Lib.hid (HO5.out.below ha (Nat.le_refl _))
      have SR := Lib.hid (s4_reads w5 z)
      have HLN : Hid (y.length + (s4 z).length ≤ 140737488355328) := by show _ ≤ _; rw [HM5.out, s4_len]; omega
      have SA : Hid (w.heap.size ≤ (w5.alloc (rowB (s4 z))).heap.size) := Nat.le_trans hbA.size ha.size
      have HA := Lib.hid ha
      clear hbA o5 hm5 hcm5 hr5 hz ha
      go_wp2_with (first
        | (go_at_call 24; (with_reducible refine HSU.out.mono ?_); rintro e w6 ⟨rfl, rfl⟩)
        | (go_at_call 23; (with_reducible refine HF.out.mono ?_); rintro e w7 ⟨rfl, rfl⟩)
        | (at_builtin; refine wpList_append_bytes rfl (.tmp 26) (.tmp 29) rfl w.heap.size (.slice A5 m5 cap5) y (s4 z) rfl OX.out (w5.heap.size + 1) _ 4 rfl SR.out HLN.out SA.out ?_; intro v8 w8 o8 g8 e8; have HG8 := Lib.hid g8; have O8 := Lib.hid o8; clear o8 g8 e8))
      go_ret
      refine ⟨_, rfl, ?_, (HBA.out.trans (HA.out.mono HBA.out.size)).grown HG8.out SA.out OX.out.ge⟩
      rw [HE.out]
      have e : sealK (bodyC 1 f t id fi ac fr su l) = y ++ s4 z := by
        unfold sealK
        rw [HY.out, HZ.out]
      rw [e]
      exact O8.out
    · have HL0 := Lib.hid hl
      clear hT hr hn hm hid hmay he hnm hl
      obtain ⟨W3, hW3⟩ : ∃ W3, W3 = ((w.alloc (pkO 2 f t id 0 A n c 0 0 0)).alloc (pkO 2 f t id 0 A n c 0 0 0)).alloc (hdO 2 (f % 256) (t % 256)) := ⟨_, rfl⟩
      have S3 : Hid (W3.heap.size = w.heap.size + 3) := by show _ = _; rw [hW3]; simp
      have B3 : Hid (Below w.heap.size w W3) := by rw [hW3]; exact (((Below.refl _ _).alloc (Nat.le_refl _) _).alloc (by simp) _).alloc (by simp; omega) _
      have R3 : Hid (RB W3 W3.heap.size (some ⟨w.heap.size + 1 + 1, 0, none⟩) [u8 2, u8 f, u8 t]) := by
        rw [hW3]
        have h := hd_reads ((w.alloc (pkO 2 f t id 0 A n c 0 0 0)).alloc (pkO 2 f t id 0 A n c 0 0 0)) 2 (f % 256) (t % 256) (u8 2) (u8 f) (u8 t) (u8_nat _) (u8_nat _) (u8_nat _)
        rw [show ((w.alloc (pkO 2 f t id 0 A n c 0 0 0)).alloc (pkO 2 f t id 0 A n c 0 0 0)).heap.size = w.heap.size + 1 + 1 by simp] at h
        exact h
      have C0 : Hid (∀ j v, #[Value.int .i64 2, .int .i64 f, .int .i64 t, .int .i64 id, .int .i64 0, .slice A n c, .int .i64 0, .int .i64 0, .int .u32 0][j]? = some v → W3.cell? ⟨w.heap.size, j, none⟩ = some v) := fun j v h => by
        rw [hW3]
        have h0 := heap_alloc_new w (pkO 2 f t id 0 A n c 0 0 0)
        have h1 : (((w.alloc (pkO 2 f t id 0 A n c 0 0 0)).alloc (pkO 2 f t id 0 A n c 0 0 0)).alloc (hdO 2 (f % 256) (t % 256))).heap[w.heap.size]? = some (pkO 2 f t id 0 A n c 0 0 0) := by
          rw [Below.heap_alloc _ _ _ (by simp; omega), Below.heap_alloc _ _ _ (by simp)]; exact h0
        rw [cell_of_row _ _ _ _ _ _ h1]
        exact h
      have HP1 := Lib.hid (put_n (some ⟨w.heap.size + 1 + 1, 0, none⟩) [u8 2, u8 f, u8 t] 3 3 id W3 R3.out rfl HID.out (by omega))
      have HW3 := Lib.hid hW3
      clear hW3
      go_enter Tryd.func12, Tryd.ntmps12
      go_wp2_with (first
        | (go_at_call 13; (with_reducible refine (HM.out _).mono ?_); rintro e w1 ⟨rfl, rfl⟩))
      rw [← HW3.out]
      (with_reducible refine HP1.out.mono ?_)
      rintro e w4 ⟨v4, rfl, o4, hb4⟩
      obtain ⟨x, hx⟩ : ∃ x, [u8 2, u8 f, u8 t] ++ putN id = x := ⟨_, rfl⟩
      rw [hx] at o4
      have hxl : x.length ≤ 13 := by rw [← hx, List.length_append]; have := putN_len id HID.out; show 3 + _ ≤ 13; omega
      obtain ⟨m4, hm4⟩ : ∃ m4, x.length = m4 := ⟨_, rfl⟩
      obtain ⟨A4, cap4, rfl, hc4, hcm4, hr4⟩ := o4.form_n m4 hm4
      have hbA : Below w.heap.size w w4 := B3.out.trans (hb4.mono B3.out.size)
      have HX := Lib.hid hx; have HXL := Lib.hid hxl; have HM4 := Lib.hid hm4
      have S4 : Hid (w.heap.size + 3 ≤ w4.heap.size) := by show _ ≤ _; rw [← S3.out]; exact hb4.size
      have k0 := (hb4.cell (p := ⟨w.heap.size, 0, none⟩) (show w.heap.size < _ by rw [S3.out]; omega)).trans (C0.out 0 _ rfl)
      clear hx
      have HY : Hid (bodyC 2 f t id 0 0 0 0 l = x) := by
        show _ = _
        unfold bodyC headK
        rw [if_neg (by omega), ← HX.out]
        rfl
      have o5 := o4.less (show w.heap.size ≤ W3.heap.size by rw [S3.out]; omega)
      clear o4 hb4
      obtain ⟨y, hy⟩ : ∃ y, x = y := ⟨_, rfl⟩
      obtain ⟨w5, hw5⟩ : ∃ w5, w4 = w5 := ⟨_, rfl⟩
      subst hy hw5
      have hm5l := HXL.out
      have HT5 := Lib.hid (HT.out.below hbA HT.out.lt)
      have HSU := Lib.hid (sum_n A4 x m4 cap4 w4 HT5.out hr4 hm4 (by unfold maxLen; omega))
      have HBA := Lib.hid hbA; have HO5 := Lib.hid o5; have HM5 := Lib.hid hm4
      obtain ⟨z, hz⟩ : ∃ z, tn (sumL x) = z := ⟨_, rfl⟩
      have hz0 : 0 ≤ z := by rw [← hz]; exact tn_lo _
      have hz1 : z ≤ 4294967295 := by rw [← hz]; exact tn_hi _
      rw [hz] at HSU
      have HZ := Lib.hid hz
      have HF := Lib.hid (nfour_any z w4 hz0 hz1)
      have ha : Below w4.heap.size w4 (w4.alloc (rowB (s4 z))) := (Below.refl _ _).alloc (Nat.le_refl _) _
      have OX := Lib.hid (HO5.out.below ha (Nat.le_refl _))
      have SR := Lib.hid (s4_reads w4 z)
      have HLN : Hid (x.length + (s4 z).length ≤ 140737488355328) := by show _ ≤ _; rw [HM5.out, s4_len]; omega
      have SA : Hid (w.heap.size ≤ (w4.alloc (rowB (s4 z))).heap.size) := Nat.le_trans hbA.size ha.size
      have HA := Lib.hid ha
      clear hbA o5 hm4 hcm4 hr4 hz ha
      go_wp2_with (first
        | (go_at_call 24; (with_reducible refine HSU.out.mono ?_); rintro e w6 ⟨rfl, rfl⟩)
        | (go_at_call 23; (with_reducible refine HF.out.mono ?_); rintro e w7 ⟨rfl, rfl⟩)
        | (at_builtin; refine wpList_append_bytes rfl (.tmp 26) (.tmp 29) rfl w.heap.size (.slice A4 m4 cap4) x (s4 z) rfl OX.out (w4.heap.size + 1) _ 4 rfl SR.out HLN.out SA.out ?_; intro v8 w8 o8 g8 e8; have HG8 := Lib.hid g8; have O8 := Lib.hid o8; clear o8 g8 e8))
      go_ret
      refine ⟨_, rfl, ?_, (HBA.out.trans (HA.out.mono HBA.out.size)).grown HG8.out SA.out OX.out.ge⟩
      rw [HE.out]
      have e : sealK (bodyC 2 f t id 0 0 0 0 l) = x ++ s4 z := by
        unfold sealK
        rw [HY.out, HZ.out]
      rw [e]
      exact O8.out
  · have HM := Lib.hid (fun W => may_any k f t id fi A n c ac fr su false (decide_eq_false hmay) W hnm)
    have he : encC k f t id fi ac fr su l = [] := by unfold encC; rw [hn, if_neg hmay]
    have HE := Lib.hid he
    clear hT hr hn hm hmay he
    go_enter Tryd.func12, Tryd.ntmps12
    go_wp2_with (first
      | (go_at_call 13; (with_reducible refine (HM.out _).mono ?_); rintro e w1 ⟨rfl, rfl⟩))
    go_ret
    exact ⟨_, rfl, by rw [HE.out]; exact OB.nil _ _, ((Below.refl _ _).alloc (Nat.le_refl _) _).alloc (by simp) _⟩
end Go.Proofs.YtjbieehehgjnmaaDoor
