/- WALK of the law RunsAny. -/
import Derived.Test.YtifmohdfpfcikaaJo
namespace Go.Proofs.Ytifmohdfpfcikaa
set_option maxRecDepth 100000
open Go.RowKit
set_option linter.unusedVariables false
set_option linter.unusedSimpArgs false

theorem tells_m (m : Int) (hm5 : m ≤ 5000) (W : World) (A : Option Addr) (l : List UInt8) (n cap : Nat) (hr : RB W W.heap.size A l) (hn : l.length = n) (hc : n ≤ cap) (hm : cap ≤ maxLen) (hl : n ≤ 4096) :
    Calls Try.prog 13 #[.slice A n cap, .int .i64 m] W fun e w' => e = .returned (.bool true) ∧ Below W.heap.size W w' := by
  by_cases h : m ≤ 0
  · exact tells_any A l n cap m 0 W (.inl ⟨h, rfl⟩) (by omega) hr hn hc hm hl
  · exact tells_any A l n cap m m W (.inr ⟨by omega, rfl⟩) hm5 hr hn hc hm hl
set_option maxHeartbeats 8000000 in
theorem any_law (A0 : Option Addr) (l0 : List UInt8) (cap0 : Nat) (most at_ xi : Int) (A1 : Option Addr) (l1 : List UInt8) (cap1 : Nat) (w : World) (h0 : RB w w.heap.size A0 l0) (k0 : l0.length ≤ cap0) (m0 : cap0 ≤ maxLen) (b1 : -9223372036854775808 ≤ at_) (b2 : at_ ≤ 9223372036854775807) (x1 : 0 ≤ xi) (x2 : xi ≤ 255) (h1 : RB w w.heap.size A1 l1) (k1 : l1.length ≤ cap1) (m1 : cap1 ≤ maxLen) :
    Calls Try.prog 4 #[.slice A0 l0.length cap0, .int .i64 most, .int .i64 at_, .int .u8 xi, .slice A1 l1.length cap1] w fun e w' => e = .returned (.bool true) ∧ Below w.heap.size w w' := by
  have HG := Lib.hid begun14_any
  obtain ⟨x, hx⟩ : ∃ x, l0.take 60 = x := ⟨_, rfl⟩
  obtain ⟨y, hy⟩ : ∃ y, l1.take 60 = y := ⟨_, rfl⟩
  obtain ⟨X, hX⟩ : ∃ X, x.length = X := ⟨_, rfl⟩
  obtain ⟨Y, hY⟩ : ∃ Y, y.length = Y := ⟨_, rfl⟩
  have hX2 : X ≤ 60 ∧ X ≤ cap0 := by rw [← hx, List.length_take] at hX; omega
  have hY2 : Y ≤ 60 ∧ Y ≤ cap1 := by rw [← hy, List.length_take] at hY; omega
  obtain ⟨hX60, hXc⟩ := hX2
  obtain ⟨hY60, hYc⟩ := hY2
  have HS0 := Lib.hid (fun W => short_n A0 l0 l0.length cap0 60 W rfl (by omega) k0 m0 X (by rw [hx, hX]) 60 rfl)
  have HS1 := Lib.hid (fun W => short_n A1 l1 l1.length cap1 60 W rfl (by omega) k1 m1 Y (by rw [hy, hY]) 60 rfl)
  have R0 : RB w w.heap.size A0 x := by rw [← hx]; exact h0.take 60
  have R1 : RB w w.heap.size A1 y := by rw [← hy]; exact h1.take 60
  obtain ⟨c, hc⟩ : ∃ c, encG 0 (groups y) = c := ⟨_, rfl⟩
  obtain ⟨C, hC⟩ : ∃ C, c.length = C := ⟨_, rfl⟩
  have hC4 : C ≤ 4096 := by have := enc_len y (by omega) 0; rw [hc, hC] at this; omega
  have HE : Hid (∀ W, RB W W.heap.size A1 y → Calls Try.prog 11 #[.slice A1 Y cap1] W fun e w' => ∃ v, e = .returned v ∧ OB w' W.heap.size v c ∧ Below W.heap.size W w') := fun W h => by rw [← hc]; exact refruns_any A1 y Y cap1 W h hY hYc m1 (by omega)
  obtain ⟨xb, hxb⟩ : ∃ x : UInt8, Hid ((x.toNat : Int) = xi) := ⟨UInt8.ofNat xi.toNat, by show _ = _; rw [ofNat_nat _ (by omega)]; omega⟩
  obtain ⟨n0, hn0⟩ : ∃ n0, l0.length = n0 := ⟨_, rfl⟩
  obtain ⟨n1, hn1⟩ : ∃ n1, l1.length = n1 := ⟨_, rfl⟩
  rw [hn0] at HS0 k0 ⊢; rw [hn1] at HS1 k1 ⊢
  have H0 := Lib.hid R0; have H1 := Lib.hid R1; have HX := Lib.hid hX; have HY := Lib.hid hY; have HC := Lib.hid hc; have HCL := Lib.hid hC; have HC4 := Lib.hid hC4; have HXC := Lib.hid hXc; have HX60 := Lib.hid hX60; have M0 := Lib.hid m0; have B1 := Lib.hid b1; have B2 := Lib.hid b2
  clear h0 h1 hx hy hX hY R0 R1 hc hC hn0 hn1 k0 k1 hC4 hXc hYc hX60 hY60 m0 m1 b1 b2
  by_cases hm : 5000 < most
  · by_cases hC0 : C = 0
    · subst hC0
      have HTL := Lib.hid (tells_m 5000 (by omega))
      go_enter Try.func4, Try.ntmps4
      go_wp2_with (first
        | (go_at_call 8; with_reducible refine (HG.out _).mono ?_; rintro e w2 ⟨rfl, hb⟩; have HB := Lib.hid hb; have HR1 := Lib.hid (H1.out.next hb); clear hb)
        | (go_at_call 9; with_reducible refine (HS0.out _).mono ?_; rintro e w4 ⟨rfl, rfl⟩)
        | (go_at_call 9; with_reducible refine (HS1.out _).mono ?_; rintro e w4 ⟨rfl, rfl⟩))
      (with_reducible refine (HE.out _ HR1.out).mono ?_)
      rintro e w3 ⟨v, rfl, ho, hb⟩
      have hb3 := HB.out.trans (hb.mono HB.out.size)
      have HRX := Lib.hid (H0.out.next hb3)
      have HB3 := Lib.hid hb3
      obtain ⟨A3, c1, rfl, hc1, hm1, hr1⟩ := ho.form_n 0 HCL.out
      have HR3 := Lib.hid hr1
      have HT1 := Lib.hid (HTL.out w3 A0 x X cap0 HRX.out HX.out HXC.out M0.out (by have := HX60.out; omega))
      have HC1 := Lib.hid hc1; have HM1 := Lib.hid hm1
      clear hb3 hb ho hm1 hr1
      go_wp2_with fail
      (with_reducible refine HT1.out.mono ?_)
      rintro e w5 ⟨rfl, hb5⟩
      have HT2 := Lib.hid (HTL.out w5 A3 c 0 c1 (HR3.out.next hb5) HCL.out HC1.out HM1.out HC4.out)
      have HB5 := Lib.hid (HB3.out.trans (hb5.mono HB3.out.size))
      clear hb5
      go_wp2_with fail
      (with_reducible refine HT2.out.mono ?_)
      rintro e w6 ⟨rfl, hb6⟩
      have HB6 := Lib.hid (HB5.out.trans (hb6.mono HB5.out.size))
      clear hb6
      go_wp2
      go_ret
      exact ⟨rfl, HB6.out⟩
    · have hCp : 0 < C := by omega
      have hCp2 : (0 : Int) < (C : Int) := by omega
      clear hC0
      by_cases hat : at_ < 0
      · have HTL := Lib.hid (tells_m 5000 (by omega))
        go_enter Try.func4, Try.ntmps4
        go_wp2_with (first
          | (go_at_call 8; with_reducible refine (HG.out _).mono ?_; rintro e w2 ⟨rfl, hb⟩; have HB := Lib.hid hb; have HR1 := Lib.hid (H1.out.next hb); clear hb)
          | (go_at_call 9; with_reducible refine (HS0.out _).mono ?_; rintro e w4 ⟨rfl, rfl⟩)
          | (go_at_call 9; with_reducible refine (HS1.out _).mono ?_; rintro e w4 ⟨rfl, rfl⟩))
        (with_reducible refine (HE.out _ HR1.out).mono ?_)
        rintro e w3 ⟨v, rfl, ho, hb⟩
        have hb3 := HB.out.trans (hb.mono HB.out.size)
        have HRX := Lib.hid (H0.out.next hb3)
        have HB3 := Lib.hid hb3
        obtain ⟨A3, c1, rfl, hc1, hm1, hr1⟩ := ho.form_n C HCL.out
        have HR3 := Lib.hid hr1
        have HT1 := Lib.hid (HTL.out w3 A0 x X cap0 HRX.out HX.out HXC.out M0.out (by have := HX60.out; omega))
        have HC1 := Lib.hid hc1; have HM1 := Lib.hid hm1
        clear hb3 hb ho hm1 hr1
        go_wp2_with fail
        (with_reducible refine HT1.out.mono ?_)
        rintro e w5 ⟨rfl, hb5⟩
        have HT2 := Lib.hid (HTL.out w5 A3 c C c1 (HR3.out.next hb5) HCL.out HC1.out HM1.out HC4.out)
        have HB5 := Lib.hid (HB3.out.trans (hb5.mono HB3.out.size))
        clear hb5
        go_wp2_with fail
        (with_reducible refine HT2.out.mono ?_)
        rintro e w6 ⟨rfl, hb6⟩
        have HB6 := Lib.hid (HB5.out.trans (hb6.mono HB5.out.size))
        clear hb6
        go_wp2
        go_ret
        exact ⟨rfl, HB6.out⟩
      · have hat : 0 ≤ at_ := by omega
        have HTL := Lib.hid (tells_m 5000 (by omega))
        go_enter Try.func4, Try.ntmps4
        go_wp2_with (first
          | (go_at_call 8; with_reducible refine (HG.out _).mono ?_; rintro e w2 ⟨rfl, hb⟩; have HB := Lib.hid hb; have HR1 := Lib.hid (H1.out.next hb); clear hb)
          | (go_at_call 9; with_reducible refine (HS0.out _).mono ?_; rintro e w4 ⟨rfl, rfl⟩)
          | (go_at_call 9; with_reducible refine (HS1.out _).mono ?_; rintro e w4 ⟨rfl, rfl⟩))
        (with_reducible refine (HE.out _ HR1.out).mono ?_)
        rintro e w3 ⟨v, rfl, ho, hb⟩
        have hb3 := HB.out.trans (hb.mono HB.out.size)
        have HRX := Lib.hid (H0.out.next hb3)
        have HB3 := Lib.hid hb3
        obtain ⟨g, c1, rfl, hg, hc1, hm1⟩ := ho.some_ (by rw [HCL.out]; omega)
        rw [HCL.out] at ho hc1 ⊢
        obtain ⟨j, hj⟩ : ∃ j : Nat, Hid (at_.tmod (C : Int) = (j : Int)) := ⟨(at_.tmod (C : Int)).toNat, by
          show _ = _
          have := Int.tmod_nonneg (C : Int) hat
          omega⟩
        have hjC : j < C := by
          have h1 := Int.tmod_lt_of_pos at_ (show (0 : Int) < (C : Int) by omega)
          have := hj.out
          omega
        have q1 := ho.cell_at HCL.out j (by rw [HCL.out]; exact hjC)
        have q2 := ho.frozen_at HCL.out j
        obtain ⟨cj, hcj⟩ : ∃ cj : UInt8, c[j]'(by rw [HCL.out]; exact hjC) = cj := ⟨_, rfl⟩
        rw [hcj] at q1
        unfold vb at q1
        obtain ⟨ci, hci⟩ : ∃ ci : Int, Hid ((cj.toNat : Int) = ci) := ⟨_, rfl⟩
        obtain ⟨z, hz⟩ : ∃ z : Int, Hid (((cj ^^^ xb).toNat : Int) = z) := ⟨_, rfl⟩
        have hxor := b8_xor cj xb
        rw [hci.out, hxb.out, hz.out] at hxor
        rw [hci.out] at q1
        have o2 := ho.set HCL.out j (cj ^^^ xb)
        unfold vb at o2
        rw [hz.out] at o2
        have hb4 := hb3.setCell (p := ⟨g, j, none⟩) (Nat.le_trans HB.out.size hg) (.int .u8 z)
        have hd : (w3.setCell ⟨g, j, none⟩ (.int .u8 z)).heap.size = (w3.setCell ⟨g, j, none⟩ (.int .u8 z)).heap.size := rfl
        have HR4 : Hid (RB (w3.setCell ⟨g, j, none⟩ (.int .u8 z)) (w3.setCell ⟨g, j, none⟩ (.int .u8 z)).heap.size (some ⟨g, 0, none⟩) (c.set j (cj ^^^ xb))) := o2.cells
        have HCL2 : Hid ((c.set j (cj ^^^ xb)).length = C) := by show _ = _; rw [List.length_set]; exact HCL.out
        have HRX2 := Lib.hid (H0.out.next hb4)
        have HB4 := Lib.hid hb4
        have hj1 := hj.out
        have hjc : (j : Int) < (C : Int) := by omega
        have hC0 : ¬ ((C : Int) = 0) := by omega
        have HT1 := Lib.hid (HTL.out (w3.setCell ⟨g, j, none⟩ (.int .u8 z)) A0 x X cap0 HRX2.out HX.out HXC.out M0.out (by have := HX60.out; omega))
        have HC1 := Lib.hid hc1; have HM1 := Lib.hid hm1
        clear o2 hb4 hb3 hb ho hd hm1 hg HRX HB3 hcj
        go_wp2_with fail
        (with_reducible refine HT1.out.mono ?_)
        rintro e w5 ⟨rfl, hb5⟩
        have HT2 := Lib.hid (HTL.out w5 (some ⟨g, 0, none⟩) (c.set j (cj ^^^ xb)) C c1 (HR4.out.next hb5) HCL2.out HC1.out HM1.out HC4.out)
        have HB5 := Lib.hid (HB4.out.trans (hb5.mono HB4.out.size))
        clear hb5
        go_wp2_with fail
        (with_reducible refine HT2.out.mono ?_)
        rintro e w6 ⟨rfl, hb6⟩
        have HB6 := Lib.hid (HB5.out.trans (hb6.mono HB5.out.size))
        clear hb6
        go_wp2
        go_ret
        exact ⟨rfl, HB6.out⟩
  · by_cases hC0 : C = 0
    · subst hC0
      have HTL := Lib.hid (tells_m most (by omega))
      go_enter Try.func4, Try.ntmps4
      go_wp2_with (first
        | (go_at_call 8; with_reducible refine (HG.out _).mono ?_; rintro e w2 ⟨rfl, hb⟩; have HB := Lib.hid hb; have HR1 := Lib.hid (H1.out.next hb); clear hb)
        | (go_at_call 9; with_reducible refine (HS0.out _).mono ?_; rintro e w4 ⟨rfl, rfl⟩)
        | (go_at_call 9; with_reducible refine (HS1.out _).mono ?_; rintro e w4 ⟨rfl, rfl⟩))
      (with_reducible refine (HE.out _ HR1.out).mono ?_)
      rintro e w3 ⟨v, rfl, ho, hb⟩
      have hb3 := HB.out.trans (hb.mono HB.out.size)
      have HRX := Lib.hid (H0.out.next hb3)
      have HB3 := Lib.hid hb3
      obtain ⟨A3, c1, rfl, hc1, hm1, hr1⟩ := ho.form_n 0 HCL.out
      have HR3 := Lib.hid hr1
      have HT1 := Lib.hid (HTL.out w3 A0 x X cap0 HRX.out HX.out HXC.out M0.out (by have := HX60.out; omega))
      have HC1 := Lib.hid hc1; have HM1 := Lib.hid hm1
      clear hb3 hb ho hm1 hr1
      go_wp2_with fail
      (with_reducible refine HT1.out.mono ?_)
      rintro e w5 ⟨rfl, hb5⟩
      have HT2 := Lib.hid (HTL.out w5 A3 c 0 c1 (HR3.out.next hb5) HCL.out HC1.out HM1.out HC4.out)
      have HB5 := Lib.hid (HB3.out.trans (hb5.mono HB3.out.size))
      clear hb5
      go_wp2_with fail
      (with_reducible refine HT2.out.mono ?_)
      rintro e w6 ⟨rfl, hb6⟩
      have HB6 := Lib.hid (HB5.out.trans (hb6.mono HB5.out.size))
      clear hb6
      go_wp2
      go_ret
      exact ⟨rfl, HB6.out⟩
    · have hCp : 0 < C := by omega
      have hCp2 : (0 : Int) < (C : Int) := by omega
      clear hC0
      by_cases hat : at_ < 0
      · have HTL := Lib.hid (tells_m most (by omega))
        go_enter Try.func4, Try.ntmps4
        go_wp2_with (first
          | (go_at_call 8; with_reducible refine (HG.out _).mono ?_; rintro e w2 ⟨rfl, hb⟩; have HB := Lib.hid hb; have HR1 := Lib.hid (H1.out.next hb); clear hb)
          | (go_at_call 9; with_reducible refine (HS0.out _).mono ?_; rintro e w4 ⟨rfl, rfl⟩)
          | (go_at_call 9; with_reducible refine (HS1.out _).mono ?_; rintro e w4 ⟨rfl, rfl⟩))
        (with_reducible refine (HE.out _ HR1.out).mono ?_)
        rintro e w3 ⟨v, rfl, ho, hb⟩
        have hb3 := HB.out.trans (hb.mono HB.out.size)
        have HRX := Lib.hid (H0.out.next hb3)
        have HB3 := Lib.hid hb3
        obtain ⟨A3, c1, rfl, hc1, hm1, hr1⟩ := ho.form_n C HCL.out
        have HR3 := Lib.hid hr1
        have HT1 := Lib.hid (HTL.out w3 A0 x X cap0 HRX.out HX.out HXC.out M0.out (by have := HX60.out; omega))
        have HC1 := Lib.hid hc1; have HM1 := Lib.hid hm1
        clear hb3 hb ho hm1 hr1
        go_wp2_with fail
        (with_reducible refine HT1.out.mono ?_)
        rintro e w5 ⟨rfl, hb5⟩
        have HT2 := Lib.hid (HTL.out w5 A3 c C c1 (HR3.out.next hb5) HCL.out HC1.out HM1.out HC4.out)
        have HB5 := Lib.hid (HB3.out.trans (hb5.mono HB3.out.size))
        clear hb5
        go_wp2_with fail
        (with_reducible refine HT2.out.mono ?_)
        rintro e w6 ⟨rfl, hb6⟩
        have HB6 := Lib.hid (HB5.out.trans (hb6.mono HB5.out.size))
        clear hb6
        go_wp2
        go_ret
        exact ⟨rfl, HB6.out⟩
      · have hat : 0 ≤ at_ := by omega
        have HTL := Lib.hid (tells_m most (by omega))
        go_enter Try.func4, Try.ntmps4
        go_wp2_with (first
          | (go_at_call 8; with_reducible refine (HG.out _).mono ?_; rintro e w2 ⟨rfl, hb⟩; have HB := Lib.hid hb; have HR1 := Lib.hid (H1.out.next hb); clear hb)
          | (go_at_call 9; with_reducible refine (HS0.out _).mono ?_; rintro e w4 ⟨rfl, rfl⟩)
          | (go_at_call 9; with_reducible refine (HS1.out _).mono ?_; rintro e w4 ⟨rfl, rfl⟩))
        (with_reducible refine (HE.out _ HR1.out).mono ?_)
        rintro e w3 ⟨v, rfl, ho, hb⟩
        have hb3 := HB.out.trans (hb.mono HB.out.size)
        have HRX := Lib.hid (H0.out.next hb3)
        have HB3 := Lib.hid hb3
        obtain ⟨g, c1, rfl, hg, hc1, hm1⟩ := ho.some_ (by rw [HCL.out]; omega)
        rw [HCL.out] at ho hc1 ⊢
        obtain ⟨j, hj⟩ : ∃ j : Nat, Hid (at_.tmod (C : Int) = (j : Int)) := ⟨(at_.tmod (C : Int)).toNat, by
          show _ = _
          have := Int.tmod_nonneg (C : Int) hat
          omega⟩
        have hjC : j < C := by
          have h1 := Int.tmod_lt_of_pos at_ (show (0 : Int) < (C : Int) by omega)
          have := hj.out
          omega
        have q1 := ho.cell_at HCL.out j (by rw [HCL.out]; exact hjC)
        have q2 := ho.frozen_at HCL.out j
        obtain ⟨cj, hcj⟩ : ∃ cj : UInt8, c[j]'(by rw [HCL.out]; exact hjC) = cj := ⟨_, rfl⟩
        rw [hcj] at q1
        unfold vb at q1
        obtain ⟨ci, hci⟩ : ∃ ci : Int, Hid ((cj.toNat : Int) = ci) := ⟨_, rfl⟩
        obtain ⟨z, hz⟩ : ∃ z : Int, Hid (((cj ^^^ xb).toNat : Int) = z) := ⟨_, rfl⟩
        have hxor := b8_xor cj xb
        rw [hci.out, hxb.out, hz.out] at hxor
        rw [hci.out] at q1
        have o2 := ho.set HCL.out j (cj ^^^ xb)
        unfold vb at o2
        rw [hz.out] at o2
        have hb4 := hb3.setCell (p := ⟨g, j, none⟩) (Nat.le_trans HB.out.size hg) (.int .u8 z)
        have hd : (w3.setCell ⟨g, j, none⟩ (.int .u8 z)).heap.size = (w3.setCell ⟨g, j, none⟩ (.int .u8 z)).heap.size := rfl
        have HR4 : Hid (RB (w3.setCell ⟨g, j, none⟩ (.int .u8 z)) (w3.setCell ⟨g, j, none⟩ (.int .u8 z)).heap.size (some ⟨g, 0, none⟩) (c.set j (cj ^^^ xb))) := o2.cells
        have HCL2 : Hid ((c.set j (cj ^^^ xb)).length = C) := by show _ = _; rw [List.length_set]; exact HCL.out
        have HRX2 := Lib.hid (H0.out.next hb4)
        have HB4 := Lib.hid hb4
        have hj1 := hj.out
        have hjc : (j : Int) < (C : Int) := by omega
        have hC0 : ¬ ((C : Int) = 0) := by omega
        have HT1 := Lib.hid (HTL.out (w3.setCell ⟨g, j, none⟩ (.int .u8 z)) A0 x X cap0 HRX2.out HX.out HXC.out M0.out (by have := HX60.out; omega))
        have HC1 := Lib.hid hc1; have HM1 := Lib.hid hm1
        clear o2 hb4 hb3 hb ho hd hm1 hg HRX HB3 hcj
        go_wp2_with fail
        (with_reducible refine HT1.out.mono ?_)
        rintro e w5 ⟨rfl, hb5⟩
        have HT2 := Lib.hid (HTL.out w5 (some ⟨g, 0, none⟩) (c.set j (cj ^^^ xb)) C c1 (HR4.out.next hb5) HCL2.out HC1.out HM1.out HC4.out)
        have HB5 := Lib.hid (HB4.out.trans (hb5.mono HB4.out.size))
        clear hb5
        go_wp2_with fail
        (with_reducible refine HT2.out.mono ?_)
        rintro e w6 ⟨rfl, hb6⟩
        have HB6 := Lib.hid (HB5.out.trans (hb6.mono HB5.out.size))
        clear hb6
        go_wp2
        go_ret
        exact ⟨rfl, HB6.out⟩
end Go.Proofs.Ytifmohdfpfcikaa
