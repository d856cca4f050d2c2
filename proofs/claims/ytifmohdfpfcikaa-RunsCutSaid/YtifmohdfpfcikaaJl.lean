/- WALK of the law RunsBack. -/
import Derived.Test.YtifmohdfpfcikaaJk
namespace Go.Proofs.Ytifmohdfpfcikaa
set_option maxRecDepth 100000
open Go.RowKit
set_option linter.unusedVariables false
set_option linter.unusedSimpArgs false

theorem enc_len (l : List UInt8) (hl : l.length ≤ 4096) (a : UInt8) : (encG a (groups l)).length ≤ 11 * l.length := by
  have h1 := encG_len (groups l) (fun g hg => by have := group_le l g hg; omega) a
  have h2 := flat_len _ (groups_gd l)
  rw [flat_groups] at h2
  omega
set_option maxHeartbeats 4000000 in
theorem back_law (A0 : Option Addr) (l0 : List UInt8) (cap0 : Nat) (most : Int) (w : World) (h0 : RB w w.heap.size A0 l0) (k0 : l0.length ≤ cap0) (m0 : cap0 ≤ maxLen) (b1 : -9223372036854775808 ≤ most) (b2 : most ≤ 9223372036854775807) :
    Calls Try.prog 3 #[.slice A0 l0.length cap0, .int .i64 most] w fun e w' => e = .returned (.bool true) ∧ Below w.heap.size w w' := by
  have HG := Lib.hid begun14_any
  obtain ⟨x, hx⟩ : ∃ x, l0.take 200 = x := ⟨_, rfl⟩
  obtain ⟨X, hX⟩ : ∃ X, x.length = X := ⟨_, rfl⟩
  have hX2 : X ≤ 200 ∧ X ≤ cap0 := by rw [← hx, List.length_take] at hX; omega
  obtain ⟨hX200, hXc⟩ := hX2
  have HS0 := Lib.hid (fun W => short_n A0 l0 l0.length cap0 200 W rfl (by omega) k0 m0 X (by rw [hx, hX]) 200 rfl)
  have R0 : RB w w.heap.size A0 x := by rw [← hx]; exact h0.take 200
  obtain ⟨c, hc⟩ : ∃ c, encG 0 (groups x) = c := ⟨_, rfl⟩
  obtain ⟨C, hC⟩ : ∃ C, c.length = C := ⟨_, rfl⟩
  have hC4 : C ≤ 4096 := by have := enc_len x (by omega) 0; rw [hc, hC] at this; omega
  obtain ⟨s, hs⟩ : ∃ s, str c = s := ⟨_, rfl⟩
  obtain ⟨t, ht⟩ : ∃ t, str x = t := ⟨_, rfl⟩
  have HCN : Hid (∀ M : Int, 0 ≤ M → cnt M 0 (items true c) = if M < (X : Int) then .full else .ok (X : Int)) := fun M hM => by rw [← hc, cnt_of x (by omega) M hM, hX]
  have HEX : Hid (expand 0 (items true c) = x) := by show _ = _; rw [← hc]; exact expand_of x (by omega)
  obtain ⟨n0, hn0⟩ : ∃ n0, l0.length = n0 := ⟨_, rfl⟩
  rw [hn0] at HS0 k0 ⊢
  have H0 := Lib.hid R0; have HX := Lib.hid hX; have HCC := Lib.hid hc; have HCL := Lib.hid hC; have HSS := Lib.hid hs; have HTT := Lib.hid ht
  have B1 := Lib.hid b1; have B2 := Lib.hid b2; have M0 := Lib.hid m0; have HC4 := Lib.hid hC4; have HX2 := Lib.hid hX200; have HXC := Lib.hid hXc
  clear h0 hx hX R0 hc hC hs ht hn0 k0 b1 b2 hC4 hX200 hXc m0
  by_cases hmost : most ≤ 0
  · by_cases hfull : (0 : Int) < (X : Int)
    · have HD : Hid (∀ W A1 c1, RB W W.heap.size A1 c → C ≤ c1 → c1 ≤ maxLen → Calls Try.prog 12 #[.slice A1 C c1, .int .i64 most] W fun e w' => e = .returned (.tuple #[.slice none 0 0, .int .i64 4]) ∧ Below W.heap.size W w') := fun W A1 c1 hr hc hm => by
        have h := dec_any A1 c C c1 most 0 W (by omega) (by have := B2.out; omega) hr HCL.out hc hm HC4.out (fun t h => by
          rw [HCN.out 0 (by omega)] at h
          have := HX2.out
          split at h <;> first | (have h2 := Cnt.ok.inj h; omega) | cases h)
        rw [HCN.out 0 (by omega), if_pos hfull, HEX.out] at h
        exact h
      have hgt := hfull
      clear HCN HEX hfull
      go_enter Try.func3, Try.ntmps3
      go_wp2_with (first
        | (go_at_call 8; with_reducible refine (HG.out _).mono ?_; rintro e w2 ⟨rfl, hb⟩; have HB := Lib.hid hb; have HE := Lib.hid (encode_any A0 x X cap0 0 w2 (H0.out.more (Nat.le_refl _) |>.next hb) HX.out HXC.out M0.out (by have := HX2.out; omega)); clear hb)
        | (go_at_call 9; with_reducible refine (HS0.out _).mono ?_; rintro e w4 ⟨rfl, rfl⟩))
      (with_reducible refine HE.out.mono ?_)
      rintro e w3 ⟨v, rfl, ho, hb⟩
      rw [HCC.out] at ho
      obtain ⟨A1, c1, rfl, hc1, hm1, hr1⟩ := ho.form_n C HCL.out
      have hb3 := HB.out.trans (hb.mono HB.out.size)
      have HR1 := Lib.hid (show RB w3.drew w3.drew.heap.size A1 c from hr1)
      have HRB : Hid (RB w3.drew w3.drew.heap.size A0 x) := (H0.out.next hb3.drew)
      have HRR := Lib.hid (refruns_any A0 x X cap0 w3.drew HRB.out HX.out HXC.out M0.out (by have := HX2.out; omega))
      rw [HCC.out] at HRR
      have q1 : (convert 22 9 (.slice A1 C c1)).run Try.prog w3.drew = .ok (.string s) w3.drew := by rw [← HSS.out]; exact conv_rb HR1.out C c1 HCL.out
      have HB3 : Hid (Below w.heap.size w w3.drew) := hb3.drew
      have HC1 := Lib.hid hc1; have HM1 := Lib.hid hm1
      clear ho hb hr1 hb3 HE HB HG HS0 hm1
      go_wp2_with fail
      go_region_with (first
        | (go_at_call 11; refine (HRR.out).mono ?_; rintro e w7 ⟨v, rfl, ho, hb⟩; obtain ⟨A7, c7, rfl, hc7, hm7, hr7⟩ := ho.form_n C HCL.out; have q2 : (convert 22 9 (.slice A7 C c7)).run Try.prog w7 = .ok (.string s) w7 := (by rw [← HSS.out]; exact conv_rb hr7 C c7 HCL.out); have q3 : (convert 22 9 (.slice A1 C c1)).run Try.prog w7 = .ok (.string s) w7 := (by rw [← HSS.out]; exact conv_rb (HR1.out.next hb) C c1 HCL.out); have HB7 := Lib.hid (HB3.out.trans (hb.mono HB3.out.size)); have HR7 := Lib.hid (HR1.out.next hb); have HQ7 := Lib.hid (HRB.out.next hb); clear ho hb hr7 hm7))
      all_goals
        go_wp2_with fail
        (with_reducible refine (HD.out _ _ _ HR7.out HC1.out HM1.out).mono ?_)
        rintro e w8 ⟨rfl, hb⟩
        have HB8 := Lib.hid (HB7.out.trans (hb.mono HB7.out.size))
        clear hb
        go_wp2
        go_ret
        exact ⟨rfl, HB8.out⟩
    · have HD : Hid (∀ W A1 c1, RB W W.heap.size A1 c → C ≤ c1 → c1 ≤ maxLen → Calls Try.prog 12 #[.slice A1 C c1, .int .i64 most] W fun e w' => (∃ v, e = .returned (.tuple #[v, .int .i64 0]) ∧ OB w' W.heap.size v x) ∧ Below W.heap.size W w') := fun W A1 c1 hr hc hm => by
        have h := dec_any A1 c C c1 most 0 W (by omega) (by have := B2.out; omega) hr HCL.out hc hm HC4.out (fun t h => by
          rw [HCN.out 0 (by omega)] at h
          have := HX2.out
          split at h <;> first | (have h2 := Cnt.ok.inj h; omega) | cases h)
        rw [HCN.out 0 (by omega), if_neg hfull, HEX.out] at h
        exact h
      have hgt := hfull
      clear HCN HEX hfull
      go_enter Try.func3, Try.ntmps3
      go_wp2_with (first
        | (go_at_call 8; with_reducible refine (HG.out _).mono ?_; rintro e w2 ⟨rfl, hb⟩; have HB := Lib.hid hb; have HE := Lib.hid (encode_any A0 x X cap0 0 w2 (H0.out.more (Nat.le_refl _) |>.next hb) HX.out HXC.out M0.out (by have := HX2.out; omega)); clear hb)
        | (go_at_call 9; with_reducible refine (HS0.out _).mono ?_; rintro e w4 ⟨rfl, rfl⟩))
      (with_reducible refine HE.out.mono ?_)
      rintro e w3 ⟨v, rfl, ho, hb⟩
      rw [HCC.out] at ho
      obtain ⟨A1, c1, rfl, hc1, hm1, hr1⟩ := ho.form_n C HCL.out
      have hb3 := HB.out.trans (hb.mono HB.out.size)
      have HR1 := Lib.hid (show RB w3.drew w3.drew.heap.size A1 c from hr1)
      have HRB : Hid (RB w3.drew w3.drew.heap.size A0 x) := (H0.out.next hb3.drew)
      have HRR := Lib.hid (refruns_any A0 x X cap0 w3.drew HRB.out HX.out HXC.out M0.out (by have := HX2.out; omega))
      rw [HCC.out] at HRR
      have q1 : (convert 22 9 (.slice A1 C c1)).run Try.prog w3.drew = .ok (.string s) w3.drew := by rw [← HSS.out]; exact conv_rb HR1.out C c1 HCL.out
      have HB3 : Hid (Below w.heap.size w w3.drew) := hb3.drew
      have HC1 := Lib.hid hc1; have HM1 := Lib.hid hm1
      clear ho hb hr1 hb3 HE HB HG HS0 hm1
      go_wp2_with fail
      go_region_with (first
        | (go_at_call 11; refine (HRR.out).mono ?_; rintro e w7 ⟨v, rfl, ho, hb⟩; obtain ⟨A7, c7, rfl, hc7, hm7, hr7⟩ := ho.form_n C HCL.out; have q2 : (convert 22 9 (.slice A7 C c7)).run Try.prog w7 = .ok (.string s) w7 := (by rw [← HSS.out]; exact conv_rb hr7 C c7 HCL.out); have q3 : (convert 22 9 (.slice A1 C c1)).run Try.prog w7 = .ok (.string s) w7 := (by rw [← HSS.out]; exact conv_rb (HR1.out.next hb) C c1 HCL.out); have HB7 := Lib.hid (HB3.out.trans (hb.mono HB3.out.size)); have HR7 := Lib.hid (HR1.out.next hb); have HQ7 := Lib.hid (HRB.out.next hb); clear ho hb hr7 hm7))
      all_goals
        go_wp2_with fail
        (with_reducible refine (HD.out _ _ _ HR7.out HC1.out HM1.out).mono ?_)
        rintro e w8 ⟨⟨v8, rfl, ho⟩, hb⟩
        obtain ⟨A8, c8, rfl, -, -, hr8⟩ := ho.form_n X HX.out
        have p1 : (convert 22 9 (.slice A8 X c8)).run Try.prog w8 = .ok (.string t) w8 := by rw [← HTT.out]; exact conv_rb hr8 X c8 HX.out
        have p2 : (convert 22 9 (.slice A0 X cap0)).run Try.prog w8 = .ok (.string t) w8 := by rw [← HTT.out]; exact conv_rb (HQ7.out.next hb) X cap0 HX.out
        have HB8 := Lib.hid (HB7.out.trans (hb.mono HB7.out.size))
        clear hb ho hr8
        go_wp2
        go_ret
        exact ⟨rfl, HB8.out⟩
  · have hmost : 0 < most := by omega
    by_cases hfull : most < (X : Int)
    · have HD : Hid (∀ W A1 c1, RB W W.heap.size A1 c → C ≤ c1 → c1 ≤ maxLen → Calls Try.prog 12 #[.slice A1 C c1, .int .i64 most] W fun e w' => e = .returned (.tuple #[.slice none 0 0, .int .i64 4]) ∧ Below W.heap.size W w') := fun W A1 c1 hr hc hm => by
        have h := dec_any A1 c C c1 most most W (by omega) (by have := B2.out; omega) hr HCL.out hc hm HC4.out (fun t h => by
          rw [HCN.out most (by omega)] at h
          have := HX2.out
          split at h <;> first | (have h2 := Cnt.ok.inj h; omega) | cases h)
        rw [HCN.out most (by omega), if_pos hfull, HEX.out] at h
        exact h
      have hgt := hfull
      clear HCN HEX hfull
      go_enter Try.func3, Try.ntmps3
      go_wp2_with (first
        | (go_at_call 8; with_reducible refine (HG.out _).mono ?_; rintro e w2 ⟨rfl, hb⟩; have HB := Lib.hid hb; have HE := Lib.hid (encode_any A0 x X cap0 0 w2 (H0.out.more (Nat.le_refl _) |>.next hb) HX.out HXC.out M0.out (by have := HX2.out; omega)); clear hb)
        | (go_at_call 9; with_reducible refine (HS0.out _).mono ?_; rintro e w4 ⟨rfl, rfl⟩))
      (with_reducible refine HE.out.mono ?_)
      rintro e w3 ⟨v, rfl, ho, hb⟩
      rw [HCC.out] at ho
      obtain ⟨A1, c1, rfl, hc1, hm1, hr1⟩ := ho.form_n C HCL.out
      have hb3 := HB.out.trans (hb.mono HB.out.size)
      have HR1 := Lib.hid (show RB w3.drew w3.drew.heap.size A1 c from hr1)
      have HRB : Hid (RB w3.drew w3.drew.heap.size A0 x) := (H0.out.next hb3.drew)
      have HRR := Lib.hid (refruns_any A0 x X cap0 w3.drew HRB.out HX.out HXC.out M0.out (by have := HX2.out; omega))
      rw [HCC.out] at HRR
      have q1 : (convert 22 9 (.slice A1 C c1)).run Try.prog w3.drew = .ok (.string s) w3.drew := by rw [← HSS.out]; exact conv_rb HR1.out C c1 HCL.out
      have HB3 : Hid (Below w.heap.size w w3.drew) := hb3.drew
      have HC1 := Lib.hid hc1; have HM1 := Lib.hid hm1
      clear ho hb hr1 hb3 HE HB HG HS0 hm1
      go_wp2_with fail
      go_region_with (first
        | (go_at_call 11; refine (HRR.out).mono ?_; rintro e w7 ⟨v, rfl, ho, hb⟩; obtain ⟨A7, c7, rfl, hc7, hm7, hr7⟩ := ho.form_n C HCL.out; have q2 : (convert 22 9 (.slice A7 C c7)).run Try.prog w7 = .ok (.string s) w7 := (by rw [← HSS.out]; exact conv_rb hr7 C c7 HCL.out); have q3 : (convert 22 9 (.slice A1 C c1)).run Try.prog w7 = .ok (.string s) w7 := (by rw [← HSS.out]; exact conv_rb (HR1.out.next hb) C c1 HCL.out); have HB7 := Lib.hid (HB3.out.trans (hb.mono HB3.out.size)); have HR7 := Lib.hid (HR1.out.next hb); have HQ7 := Lib.hid (HRB.out.next hb); clear ho hb hr7 hm7))
      all_goals
        go_wp2_with fail
        (with_reducible refine (HD.out _ _ _ HR7.out HC1.out HM1.out).mono ?_)
        rintro e w8 ⟨rfl, hb⟩
        have HB8 := Lib.hid (HB7.out.trans (hb.mono HB7.out.size))
        clear hb
        go_wp2
        go_ret
        exact ⟨rfl, HB8.out⟩
    · have HD : Hid (∀ W A1 c1, RB W W.heap.size A1 c → C ≤ c1 → c1 ≤ maxLen → Calls Try.prog 12 #[.slice A1 C c1, .int .i64 most] W fun e w' => (∃ v, e = .returned (.tuple #[v, .int .i64 0]) ∧ OB w' W.heap.size v x) ∧ Below W.heap.size W w') := fun W A1 c1 hr hc hm => by
        have h := dec_any A1 c C c1 most most W (by omega) (by have := B2.out; omega) hr HCL.out hc hm HC4.out (fun t h => by
          rw [HCN.out most (by omega)] at h
          have := HX2.out
          split at h <;> first | (have h2 := Cnt.ok.inj h; omega) | cases h)
        rw [HCN.out most (by omega), if_neg hfull, HEX.out] at h
        exact h
      have hgt := hfull
      clear HCN HEX hfull
      go_enter Try.func3, Try.ntmps3
      go_wp2_with (first
        | (go_at_call 8; with_reducible refine (HG.out _).mono ?_; rintro e w2 ⟨rfl, hb⟩; have HB := Lib.hid hb; have HE := Lib.hid (encode_any A0 x X cap0 0 w2 (H0.out.more (Nat.le_refl _) |>.next hb) HX.out HXC.out M0.out (by have := HX2.out; omega)); clear hb)
        | (go_at_call 9; with_reducible refine (HS0.out _).mono ?_; rintro e w4 ⟨rfl, rfl⟩))
      (with_reducible refine HE.out.mono ?_)
      rintro e w3 ⟨v, rfl, ho, hb⟩
      rw [HCC.out] at ho
      obtain ⟨A1, c1, rfl, hc1, hm1, hr1⟩ := ho.form_n C HCL.out
      have hb3 := HB.out.trans (hb.mono HB.out.size)
      have HR1 := Lib.hid (show RB w3.drew w3.drew.heap.size A1 c from hr1)
      have HRB : Hid (RB w3.drew w3.drew.heap.size A0 x) := (H0.out.next hb3.drew)
      have HRR := Lib.hid (refruns_any A0 x X cap0 w3.drew HRB.out HX.out HXC.out M0.out (by have := HX2.out; omega))
      rw [HCC.out] at HRR
      have q1 : (convert 22 9 (.slice A1 C c1)).run Try.prog w3.drew = .ok (.string s) w3.drew := by rw [← HSS.out]; exact conv_rb HR1.out C c1 HCL.out
      have HB3 : Hid (Below w.heap.size w w3.drew) := hb3.drew
      have HC1 := Lib.hid hc1; have HM1 := Lib.hid hm1
      clear ho hb hr1 hb3 HE HB HG HS0 hm1
      go_wp2_with fail
      go_region_with (first
        | (go_at_call 11; refine (HRR.out).mono ?_; rintro e w7 ⟨v, rfl, ho, hb⟩; obtain ⟨A7, c7, rfl, hc7, hm7, hr7⟩ := ho.form_n C HCL.out; have q2 : (convert 22 9 (.slice A7 C c7)).run Try.prog w7 = .ok (.string s) w7 := (by rw [← HSS.out]; exact conv_rb hr7 C c7 HCL.out); have q3 : (convert 22 9 (.slice A1 C c1)).run Try.prog w7 = .ok (.string s) w7 := (by rw [← HSS.out]; exact conv_rb (HR1.out.next hb) C c1 HCL.out); have HB7 := Lib.hid (HB3.out.trans (hb.mono HB3.out.size)); have HR7 := Lib.hid (HR1.out.next hb); have HQ7 := Lib.hid (HRB.out.next hb); clear ho hb hr7 hm7))
      all_goals
        go_wp2_with fail
        (with_reducible refine (HD.out _ _ _ HR7.out HC1.out HM1.out).mono ?_)
        rintro e w8 ⟨⟨v8, rfl, ho⟩, hb⟩
        obtain ⟨A8, c8, rfl, -, -, hr8⟩ := ho.form_n X HX.out
        have p1 : (convert 22 9 (.slice A8 X c8)).run Try.prog w8 = .ok (.string t) w8 := by rw [← HTT.out]; exact conv_rb hr8 X c8 HX.out
        have p2 : (convert 22 9 (.slice A0 X cap0)).run Try.prog w8 = .ok (.string t) w8 := by rw [← HTT.out]; exact conv_rb (HQ7.out.next hb) X cap0 HX.out
        have HB8 := Lib.hid (HB7.out.trans (hb.mono HB7.out.size))
        clear hb ho hr8
        go_wp2
        go_ret
        exact ⟨rfl, HB8.out⟩
end Go.Proofs.Ytifmohdfpfcikaa
