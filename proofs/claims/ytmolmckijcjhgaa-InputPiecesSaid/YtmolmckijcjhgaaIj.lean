/- WALK of the law InputPieces. -/
import Derived.Test.YtmolmckijcjhgaaIh
import Derived.Test.YtmolmckijcjhgaaKi
namespace Go.Proofs.Ytmolmckijcjhgaa
set_option maxRecDepth 100000
open Go.RowKit
set_option linter.unusedVariables false
set_option linter.unusedSimpArgs false

/-- what a line of x's first H holds behind a Put of x's F to T -/
theorem piece_eq (x : List UInt8) (H F T X : Nat) (hX : x.length = X) (hF : F ≤ H) (hH : H ≤ X) (hT : F ≤ T) (hTX : T ≤ X) : x.take H ++ (((x.drop F).take (T - F)).drop (min (H - F) (T - F))) = x.take (max H T) := by
  by_cases h : T ≤ H
  · have e : ((x.drop F).take (T - F)).drop (min (H - F) (T - F)) = [] := List.drop_eq_nil_of_le (by rw [List.length_take, List.length_drop]; omega)
    rw [e, List.append_nil, Nat.max_eq_left h]
  · rw [Nat.min_eq_left (by omega), List.drop_take, List.drop_drop, show F + (H - F) = H by omega, show T - F - (H - F) = T - H by omega, Nat.max_eq_right (by omega), ← List.take_add, show H + (T - H) = T by omega]
/-- the law's way to a place -/
theorem way (z : Int) (d : Nat) (hd : 0 < d) : ∃ (t : Int) (F : Nat), z.tmod (d : Int) = t ∧ -(d : Int) < t ∧ t < (d : Int) ∧ (t + (d : Int)).tmod (d : Int) = (F : Int) ∧ (t + (d : Int)) % (d : Int) = (F : Int) ∧ F < d := by
  have h1 : z.tmod (d : Int) < (d : Int) := Int.tmod_lt_of_pos _ (by omega)
  have h2 : -(d : Int) < z.tmod (d : Int) := by
    have := Int.lt_tmod_of_pos z (b := (d : Int)) (by omega)
    exact this
  have h3 : 0 ≤ (z.tmod (d : Int) + (d : Int)) % (d : Int) := Int.emod_nonneg _ (by omega)
  have h4 : (z.tmod (d : Int) + (d : Int)) % (d : Int) < (d : Int) := Int.emod_lt_of_pos _ (by omega)
  refine ⟨_, ((z.tmod (d : Int) + (d : Int)) % (d : Int)).toNat, rfl, h2, h1, ?_, ?_, by omega⟩
  · rw [Int.tmod_eq_emod_of_nonneg (by omega)]; omega
  · omega

set_option maxHeartbeats 4000000 in
theorem pieces_law (A0 : Option Addr) (l0 : List UInt8) (cap0 : Nat) (A1 : Option Addr) (z1 : List Int) (cap1 : Nat) (A2 : Option Addr) (z2 : List Int) (cap2 : Nat) (w : World) (h0 : RB w w.heap.size A0 l0) (k0 : l0.length ≤ cap0) (m0 : cap0 ≤ maxLen)
    (h1 : RI w w.heap.size A1 z1) (k1 : z1.length ≤ cap1) (m1 : cap1 ≤ maxLen) (b1 : ∀ z ∈ z1, -9223372036854775808 ≤ z ∧ z ≤ 9223372036854775807)
    (h2 : RI w w.heap.size A2 z2) (k2 : z2.length ≤ cap2) (m2 : cap2 ≤ maxLen) (b2 : ∀ z ∈ z2, -9223372036854775808 ≤ z ∧ z ≤ 9223372036854775807) :
    Calls Try.prog 6 #[.slice A0 l0.length cap0, .slice A1 z1.length cap1, .slice A2 z2.length cap2] w fun e w' => e = .returned (.bool true) ∧ Below w.heap.size w w' := by
  have HG := Lib.hid (begun13_any w)
  obtain ⟨x, hx⟩ : ∃ x, l0.take 60 = x := ⟨_, rfl⟩
  obtain ⟨X, hX⟩ : ∃ X, x.length = X := ⟨_, rfl⟩
  have hX40 : X ≤ 60 ∧ X ≤ cap0 := by rw [← hx, List.length_take] at hX; omega
  obtain ⟨hX60, hXc⟩ := hX40
  have HS0 := Lib.hid (fun W => short_n A0 l0 l0.length cap0 60 W rfl (by omega) k0 m0 X (by rw [hx, hX]) 60 rfl)
  have R0 : RB w w.heap.size A0 x := by rw [← hx]; exact h0.take 60
  have H0 := Lib.hid R0; have H1 := Lib.hid h1; have H2 := Lib.hid h2; have HX := Lib.hid hX
  have M0 := Lib.hid m0
  obtain ⟨n0, hn0⟩ : ∃ n0, l0.length = n0 := ⟨_, rfl⟩
  rw [hn0] at HS0 k0 ⊢
  have B1 := Lib.hid b1; have B2 := Lib.hid b2
  clear h0 h1 h2 hx hX R0 hn0 b1 b2
  unfold maxLen at m0 m1 m2
  go_enter Try.func6, Try.ntmps6
  go_wp2_with (first
    | (go_at_call 8; with_reducible refine (HG.out).mono ?_; rintro e w3 ⟨rfl, hb⟩)
    | (go_at_call 13; with_reducible refine (HS0.out _).mono ?_; rintro e w4 ⟨rfl, rfl⟩))
  refine (new_0 _).mono ?_
  rintro e w4 ⟨rfl, hm, hb4⟩
  have hs3 := hb.size
  have HB := Lib.hid (hb.trans (hb4.mono hs3))
  have HM : Hid (LM w4 w3.heap.size (0 : Nat) (x.take 0)) := hm
  have HS := Lib.hid hs3
  clear hb hb4 hs3 HG HS0 hm k0
  go_wp2_with fail
  go_loopw [9, 10] (fun hv i wr => ∃ k H : Nat, i = .int .i64 k ∧ hv = .int .i64 H ∧ k ≤ 40 ∧ H ≤ X ∧ Hid (LM wr w3.heap.size H (x.take H)) ∧ Hid (Below w.heap.size w wr)) (fun _ i _ => 40 - (intOf i).toNat)
  case atStart => exact ⟨0, 0, rfl, rfl, by omega, by omega, HM, HB⟩
  case round =>
    obtain ⟨k, H, rfl, rfl, hk, hH, HL, HBW⟩ := hrel
    clear HM HB
    by_cases g1 : k < z1.length ∧ k < z2.length ∧ k < 40 ∧ X ≠ 0
    · obtain ⟨c1, c2, c3, c4⟩ := g1
      have c1' : (k : Int) < (z1.length : Int) := by omega
      have c2' : (k : Int) < (z2.length : Int) := by omega
      have c3' : (k : Int) < 40 := by omega
      have c4' : ¬ (X : Int) = 0 := by omega
      have c4b : ((X : Int) == 0) = false := by simp; omega
      have hX1 : (1 : Int) ≤ (X : Int) := by omega
      obtain ⟨p1, o1, rfl, -, hc1⟩ := (H1.out.below HBW.out) (by omega)
      obtain ⟨p2, o2, rfl, -, hc2⟩ := (H2.out.below HBW.out) (by omega)
      have d1 := hc1 k c1
      have d2 := hc2 k c2
      obtain ⟨v1, hv1⟩ : ∃ v, z1[k] = v := ⟨_, rfl⟩
      obtain ⟨v2, hv2⟩ : ∃ v, z2[k] = v := ⟨_, rfl⟩
      have bv1 := B1.out v1 (by rw [← hv1]; exact List.getElem_mem _)
      have bv2 := B2.out v2 (by rw [← hv2]; exact List.getElem_mem _)
      rw [hv1] at d1; rw [hv2] at d2
      obtain ⟨t1, F, y1, y2, y3, y4, y5, hF⟩ := way v1 X (by omega)
      obtain ⟨t2, G, u1, u2, u3, u4, u5, hGG⟩ := way v2 9 (by omega)
      have y2' : -60 ≤ t1 := by omega
      have y3' : t1 ≤ 60 := by omega
      have u1' : v2.tmod 9 = t2 := u1
      have u2' : -9 ≤ t2 := by omega
      have u3' : t2 ≤ 9 := by omega
      have u4' : (t2 + 9).tmod 9 = (G : Int) := u4
      have u5' : (t2 + 9) % 9 = (G : Int) := u5
      obtain ⟨T, hT⟩ : ∃ T, min X (F + G) = T := ⟨_, rfl⟩
      have hT' : min (X : Int) ((F : Int) + (G : Int)) = (T : Int) := by omega
      have hFT : F ≤ T := by omega
      have hTX : T ≤ X := by omega
      have hne : ¬ cap0 = F := by omega
      have hTc : T ≤ cap0 := by omega
      have BV1 := Lib.hid bv1; have BV2 := Lib.hid bv2; have HT := Lib.hid hT
      clear hc1 hc2 hv1 hv2 bv1 bv2 hT u1 u2 u3 u4 u5 y2 y3
      by_cases hFH : H < F
      · have hfh : (H : Int) < (F : Int) := by omega
        have HP := Lib.hid (put_more wr w3.heap.size H (x.take H) HL.out F (.slice (A0.map (·.add F)) (T - F) (cap0 - F)) hfh)
        go_wp2_with (go_at_call 10; with_reducible refine (HP.out).mono ?_; rintro e w6 ⟨rfl, rfl⟩)
        go_roundw
        case rel => exact ⟨k + 1, H, by go_num, rfl, by omega, hH, HL, HBW⟩
        case measure => simp [intOf]; omega
      · obtain ⟨p, hp⟩ : ∃ p, min (H - F) (T - F) = p := ⟨_, rfl⟩
        obtain ⟨m, hm⟩ : ∃ m, T - F - p = m := ⟨_, rfl⟩
        obtain ⟨H2, hH2⟩ : ∃ H2, max H T = H2 := ⟨_, rfl⟩
        have hHm : H + m = H2 := by omega
        have hyl : ((x.drop F).take (T - F)).length = T - F := by rw [List.length_take, List.length_drop, HX.out]; omega
        have hxl : (x.take H).length = H := by rw [List.length_take, HX.out]; omega
        have hrb : RB wr w.heap.size (A0.map (·.add F)) ((x.drop F).take (T - F)) := ((H0.out.below HBW.out).tail F cap0 (by rw [HX.out]; omega) (by rw [HX.out]; exact hXc) hne).take (T - F)
        have hpt := put_on wr w3.heap.size (x.take H) ((x.drop F).take (T - F)) (A0.map (·.add F)) (cap0 - F) w.heap.size F p H (T - F) m hxl hyl HL.out hrb (by omega) (by unfold maxLen; omega) (by omega) hp hm (by omega)
        rw [← hp, piece_eq x H F T X HX.out (by omega) hH hFT hTX, hH2, hHm] at hpt
        have HP := Lib.hid hpt
        have e1 : max 0 ((T : Int) - (H : Int)) = (m : Int) := by omega
        have e2 : max (H : Int) (T : Int) = (H2 : Int) := by omega
        have hfh : ¬ (H : Int) < (F : Int) := by omega
        have HH2 := Lib.hid hH2
        have HBO := Lib.hid HBW.out
        clear hpt hrb hxl hyl hp hm hH2 hHm HL HBW
        go_wp2_with (go_at_call 10; with_reducible refine (HP.out).mono ?_; rintro e w6 ⟨rfl, hm, hg⟩; have HM := Lib.hid hm; have HBN := Lib.hid (below_own HBO.out hg HS.out); clear hm hg)
        go_roundw
        case rel => exact ⟨k + 1, H2, by go_num, rfl, by omega, by have := HH2.out; omega, HM, HBN⟩
        case measure => simp [intOf]; omega
    · have hcases : (¬ k < z1.length) ∨ (k < z1.length ∧ ¬ k < z2.length) ∨ (k < z1.length ∧ k < z2.length ∧ ¬ k < 40) ∨ (k < z1.length ∧ k < z2.length ∧ k < 40 ∧ X = 0) := by omega
      clear g1
      rcases hcases with c1 | ⟨c1, c2⟩ | ⟨c1, c2, c3⟩ | ⟨c1, c2, c3, c4⟩
      · have c1' : ¬ (k : Int) < (z1.length : Int) := by omega
        obtain ⟨y, hy⟩ : ∃ y, x.take H = y := ⟨_, rfl⟩
        have hyl : y.length = H := by rw [← hy, List.length_take, HX.out]; omega
        rw [hy] at HL
        have HRX := Lib.hid (show RB wr.drew w.heap.size A0 y by rw [← hy]; exact (H0.out.below HBW.out).take H)
        have HAL := Lib.hid (all_any wr.drew w3.heap.size H y HL.out hyl (by omega))
        obtain ⟨s, hs⟩ : ∃ s, str y = s := ⟨_, rfl⟩
        have q1 : (convert 28 9 (.slice A0 H cap0)).run Try.prog wr.drew = .ok (.string s) wr.drew := by rw [← hs]; exact conv_rb HRX.out H cap0 hyl
        have HYL := Lib.hid hyl; have HSS := Lib.hid hs
        have HLE := Lib.hid (Nat.le_trans HBW.out.size (Nat.le_refl _) : w.heap.size ≤ wr.drew.heap.size)
        have HBD : Hid (Below w.heap.size w wr.drew) := Lib.hid ⟨HBW.out.os, HBW.out.tape, HBW.out.output, HBW.out.size, HBW.out.block⟩
        have hHc : H ≤ cap0 := by omega
        clear hy hyl hs
        go_wp2_with fail
        go_region_with (first
          | (go_at_call 14; refine (HAL.out).mono ?_; rintro e w7 ⟨v, rfl, ho, hb⟩; obtain ⟨A7, c7, rfl, hc7, hm7, hr7⟩ := ho.form_n H HYL.out; have q2 : (convert 28 9 (.slice A7 H c7)).run Try.prog w7 = .ok (.string s) w7 := (by rw [← HSS.out]; exact conv_own ho HYL.out); have q3 : (convert 28 9 (.slice A0 H cap0)).run Try.prog w7 = .ok (.string s) w7 := (by rw [← HSS.out]; exact conv_rb (HRX.out.below (hb.mono HLE.out)) H cap0 HYL.out); have HB7 := Lib.hid (HBD.out.trans (hb.mono HLE.out)); clear ho hb hr7))
        all_goals
          go_wp2_with fail
          go_ret
          exact ⟨rfl, HB7.out⟩
      · have c1' : (k : Int) < (z1.length : Int) := by omega
        have c2' : ¬ (k : Int) < (z2.length : Int) := by omega
        obtain ⟨y, hy⟩ : ∃ y, x.take H = y := ⟨_, rfl⟩
        have hyl : y.length = H := by rw [← hy, List.length_take, HX.out]; omega
        rw [hy] at HL
        have HRX := Lib.hid (show RB wr.drew w.heap.size A0 y by rw [← hy]; exact (H0.out.below HBW.out).take H)
        have HAL := Lib.hid (all_any wr.drew w3.heap.size H y HL.out hyl (by omega))
        obtain ⟨s, hs⟩ : ∃ s, str y = s := ⟨_, rfl⟩
        have q1 : (convert 28 9 (.slice A0 H cap0)).run Try.prog wr.drew = .ok (.string s) wr.drew := by rw [← hs]; exact conv_rb HRX.out H cap0 hyl
        have HYL := Lib.hid hyl; have HSS := Lib.hid hs
        have HLE := Lib.hid (Nat.le_trans HBW.out.size (Nat.le_refl _) : w.heap.size ≤ wr.drew.heap.size)
        have HBD : Hid (Below w.heap.size w wr.drew) := Lib.hid ⟨HBW.out.os, HBW.out.tape, HBW.out.output, HBW.out.size, HBW.out.block⟩
        have hHc : H ≤ cap0 := by omega
        clear hy hyl hs
        go_wp2_with fail
        go_region_with (first
          | (go_at_call 14; refine (HAL.out).mono ?_; rintro e w7 ⟨v, rfl, ho, hb⟩; obtain ⟨A7, c7, rfl, hc7, hm7, hr7⟩ := ho.form_n H HYL.out; have q2 : (convert 28 9 (.slice A7 H c7)).run Try.prog w7 = .ok (.string s) w7 := (by rw [← HSS.out]; exact conv_own ho HYL.out); have q3 : (convert 28 9 (.slice A0 H cap0)).run Try.prog w7 = .ok (.string s) w7 := (by rw [← HSS.out]; exact conv_rb (HRX.out.below (hb.mono HLE.out)) H cap0 HYL.out); have HB7 := Lib.hid (HBD.out.trans (hb.mono HLE.out)); clear ho hb hr7))
        all_goals
          go_wp2_with fail
          go_ret
          exact ⟨rfl, HB7.out⟩
      · have c1' : (k : Int) < (z1.length : Int) := by omega
        have c2' : (k : Int) < (z2.length : Int) := by omega
        have c3' : ¬ (k : Int) < 40 := by omega
        obtain ⟨y, hy⟩ : ∃ y, x.take H = y := ⟨_, rfl⟩
        have hyl : y.length = H := by rw [← hy, List.length_take, HX.out]; omega
        rw [hy] at HL
        have HRX := Lib.hid (show RB wr.drew w.heap.size A0 y by rw [← hy]; exact (H0.out.below HBW.out).take H)
        have HAL := Lib.hid (all_any wr.drew w3.heap.size H y HL.out hyl (by omega))
        obtain ⟨s, hs⟩ : ∃ s, str y = s := ⟨_, rfl⟩
        have q1 : (convert 28 9 (.slice A0 H cap0)).run Try.prog wr.drew = .ok (.string s) wr.drew := by rw [← hs]; exact conv_rb HRX.out H cap0 hyl
        have HYL := Lib.hid hyl; have HSS := Lib.hid hs
        have HLE := Lib.hid (Nat.le_trans HBW.out.size (Nat.le_refl _) : w.heap.size ≤ wr.drew.heap.size)
        have HBD : Hid (Below w.heap.size w wr.drew) := Lib.hid ⟨HBW.out.os, HBW.out.tape, HBW.out.output, HBW.out.size, HBW.out.block⟩
        have hHc : H ≤ cap0 := by omega
        clear hy hyl hs
        go_wp2_with fail
        go_region_with (first
          | (go_at_call 14; refine (HAL.out).mono ?_; rintro e w7 ⟨v, rfl, ho, hb⟩; obtain ⟨A7, c7, rfl, hc7, hm7, hr7⟩ := ho.form_n H HYL.out; have q2 : (convert 28 9 (.slice A7 H c7)).run Try.prog w7 = .ok (.string s) w7 := (by rw [← HSS.out]; exact conv_own ho HYL.out); have q3 : (convert 28 9 (.slice A0 H cap0)).run Try.prog w7 = .ok (.string s) w7 := (by rw [← HSS.out]; exact conv_rb (HRX.out.below (hb.mono HLE.out)) H cap0 HYL.out); have HB7 := Lib.hid (HBD.out.trans (hb.mono HLE.out)); clear ho hb hr7))
        all_goals
          go_wp2_with fail
          go_ret
          exact ⟨rfl, HB7.out⟩
      · have c1' : (k : Int) < (z1.length : Int) := by omega
        have c2' : (k : Int) < (z2.length : Int) := by omega
        have c3' : (k : Int) < 40 := by omega
        have c4' : ((X : Int) == 0) = true := by simp; omega
        have C4 := Lib.hid c4; clear c4
        obtain ⟨y, hy⟩ : ∃ y, x.take H = y := ⟨_, rfl⟩
        have hyl : y.length = H := by rw [← hy, List.length_take, HX.out]; omega
        rw [hy] at HL
        have HRX := Lib.hid (show RB wr.drew w.heap.size A0 y by rw [← hy]; exact (H0.out.below HBW.out).take H)
        have HAL := Lib.hid (all_any wr.drew w3.heap.size H y HL.out hyl (by omega))
        obtain ⟨s, hs⟩ : ∃ s, str y = s := ⟨_, rfl⟩
        have q1 : (convert 28 9 (.slice A0 H cap0)).run Try.prog wr.drew = .ok (.string s) wr.drew := by rw [← hs]; exact conv_rb HRX.out H cap0 hyl
        have HYL := Lib.hid hyl; have HSS := Lib.hid hs
        have HLE := Lib.hid (Nat.le_trans HBW.out.size (Nat.le_refl _) : w.heap.size ≤ wr.drew.heap.size)
        have HBD : Hid (Below w.heap.size w wr.drew) := Lib.hid ⟨HBW.out.os, HBW.out.tape, HBW.out.output, HBW.out.size, HBW.out.block⟩
        have hHc : H ≤ cap0 := by omega
        clear hy hyl hs
        go_wp2_with fail
        go_region_with (first
          | (go_at_call 14; refine (HAL.out).mono ?_; rintro e w7 ⟨v, rfl, ho, hb⟩; obtain ⟨A7, c7, rfl, hc7, hm7, hr7⟩ := ho.form_n H HYL.out; have q2 : (convert 28 9 (.slice A7 H c7)).run Try.prog w7 = .ok (.string s) w7 := (by rw [← HSS.out]; exact conv_own ho HYL.out); have q3 : (convert 28 9 (.slice A0 H cap0)).run Try.prog w7 = .ok (.string s) w7 := (by rw [← HSS.out]; exact conv_rb (HRX.out.below (hb.mono HLE.out)) H cap0 HYL.out); have HB7 := Lib.hid (HBD.out.trans (hb.mono HLE.out)); clear ho hb hr7))
        all_goals
          go_wp2_with fail
          go_ret
          exact ⟨rfl, HB7.out⟩
end Go.Proofs.Ytmolmckijcjhgaa
