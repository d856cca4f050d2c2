/- WALK of the law RunsTwins. -/
import Derived.Test.YtifmohdfpfcikaaJl
import Derived.Test.YtifmohdfpfcikaaKr
namespace Go.Proofs.Ytifmohdfpfcikaa
set_option maxRecDepth 100000
open Go.RowKit
set_option linter.unusedVariables false
set_option linter.unusedSimpArgs false

theorem str_beq (a b : List UInt8) : ((str a).toList == (str b).toList) = decide (a = b) := by
  rw [str_toList, str_toList, Bool.eq_iff_iff, beq_iff_eq, decide_eq_true_iff]
set_option maxHeartbeats 4000000 in
theorem twins_law (A0 : Option Addr) (l0 : List UInt8) (cap0 : Nat) (A1 : Option Addr) (l1 : List UInt8) (cap1 : Nat) (w : World) (h0 : RB w w.heap.size A0 l0) (k0 : l0.length ≤ cap0) (m0 : cap0 ≤ maxLen) (h1 : RB w w.heap.size A1 l1) (k1 : l1.length ≤ cap1) (m1 : cap1 ≤ maxLen) :
    Calls Try.prog 6 #[.slice A0 l0.length cap0, .slice A1 l1.length cap1] w fun e w' => e = .returned (.bool true) ∧ Below w.heap.size w w' := by
  have HG := Lib.hid begun14_any
  obtain ⟨x, hx⟩ : ∃ x, l0.take 60 = x := ⟨_, rfl⟩
  obtain ⟨y, hy⟩ : ∃ y, l1.take 60 = y := ⟨_, rfl⟩
  obtain ⟨X, hX⟩ : ∃ X, x.length = X := ⟨_, rfl⟩
  obtain ⟨Y, hY⟩ : ∃ Y, y.length = Y := ⟨_, rfl⟩
  have hX2 : X ≤ 60 ∧ X ≤ cap0 := by rw [← hx, List.length_take] at hX; omega
  have hY2 : Y ≤ 60 ∧ Y ≤ cap1 := by rw [← hy, List.length_take] at hY; omega
  obtain ⟨hX60, hXc⟩ := hX2
  obtain ⟨hY60, hYc⟩ := hY2
  have HS0 := Lib.hid (fun W => short_n A0 l0 l0.length cap0 60 W rfl (by omega) k0 m0 X (by rw [hx, hX]) 60 rfl)
  have HS1 := Lib.hid (fun W => short_n A1 l1 l1.length cap1 60 W rfl (by omega) k1 m1 Y (by rw [hy, hY]) 60 rfl)
  have R0 : RB w w.heap.size A0 x := by rw [← hx]; exact h0.take 60
  have R1 : RB w w.heap.size A1 y := by rw [← hy]; exact h1.take 60
  obtain ⟨ca, hca⟩ : ∃ c, encG 0 (groups x) = c := ⟨_, rfl⟩
  obtain ⟨cb, hcb⟩ : ∃ c, encG 0 (groups y) = c := ⟨_, rfl⟩
  obtain ⟨CA, hCA⟩ : ∃ C, ca.length = C := ⟨_, rfl⟩
  obtain ⟨CB, hCB⟩ : ∃ C, cb.length = C := ⟨_, rfl⟩
  obtain ⟨sA, hsA⟩ : ∃ s, str ca = s := ⟨_, rfl⟩
  obtain ⟨sB, hsB⟩ : ∃ s, str cb = s := ⟨_, rfl⟩
  obtain ⟨tx, htx⟩ : ∃ s, str x = s := ⟨_, rfl⟩
  obtain ⟨ty, hty⟩ : ∃ s, str y = s := ⟨_, rfl⟩
  obtain ⟨d, hd⟩ : ∃ d : Bool, decide (x = y) = d := ⟨_, rfl⟩
  have e1 : (tx.toList == ty.toList) = d := by rw [← htx, ← hty, str_beq, hd]
  have e2 : (sA.toList == sB.toList) = d := by
    rw [← hsA, ← hsB, str_beq, ← hd, ← hca, ← hcb]
    by_cases h : x = y
    · rw [h]; simp
    · rw [decide_eq_false h, decide_eq_false (fun e => h (enc_inj x y (by omega) (by omega) e))]
  have HEA : Hid (∀ W, RB W W.heap.size A0 x → Calls Try.prog 10 #[.slice A0 X cap0] W fun e w' => ∃ v, e = .returned v ∧ OB w' W.heap.size v ca ∧ Below W.heap.size W w') := fun W h => by rw [← hca]; exact encode_any A0 x X cap0 0 W h hX hXc m0 (by omega)
  have HEB : Hid (∀ W, RB W W.heap.size A1 y → Calls Try.prog 10 #[.slice A1 Y cap1] W fun e w' => ∃ v, e = .returned v ∧ OB w' W.heap.size v cb ∧ Below W.heap.size W w') := fun W h => by rw [← hcb]; exact encode_any A1 y Y cap1 0 W h hY hYc m1 (by omega)
  obtain ⟨n0, hn0⟩ : ∃ n0, l0.length = n0 := ⟨_, rfl⟩
  obtain ⟨n1, hn1⟩ : ∃ n1, l1.length = n1 := ⟨_, rfl⟩
  rw [hn0] at HS0 k0 ⊢; rw [hn1] at HS1 k1 ⊢
  have H0 := Lib.hid R0; have H1 := Lib.hid R1; have HX := Lib.hid hX; have HY := Lib.hid hY; have HCA := Lib.hid hCA; have HCB := Lib.hid hCB; have HSA := Lib.hid hsA; have HSB := Lib.hid hsB; have HTX := Lib.hid htx; have HTY := Lib.hid hty
  clear h0 h1 hx hy hX hY R0 R1 hca hcb hCA hCB hsA hsB htx hty hd hn0 hn1 k0 k1 hX60 hY60 m0 m1 hXc hYc
  go_enter Try.func6, Try.ntmps6
  go_wp2_with (first
    | (go_at_call 8; with_reducible refine (HG.out _).mono ?_; rintro e w2 ⟨rfl, hb⟩; have HB := Lib.hid hb; clear hb)
    | (go_at_call 9; with_reducible refine (HS0.out _).mono ?_; rintro e w4 ⟨rfl, rfl⟩)
    | (go_at_call 9; with_reducible refine (HS1.out _).mono ?_; rintro e w4 ⟨rfl, rfl⟩))
  have HBB : Hid (Below w.heap.size w w2.drew) := HB.out.drew
  have HRA : Hid (RB w2.drew w2.drew.heap.size A0 x) := H0.out.next HBB.out
  have HRB : Hid (RB w2.drew w2.drew.heap.size A1 y) := H1.out.next HBB.out
  have ka : (convert 22 9 (.slice A0 X cap0)).run Try.prog w2.drew = .ok (.string tx) w2.drew := by rw [← HTX.out]; exact conv_rb HRA.out X cap0 HX.out
  have kb : (convert 22 9 (.slice A1 Y cap1)).run Try.prog w2.drew = .ok (.string ty) w2.drew := by rw [← HTY.out]; exact conv_rb HRB.out Y cap1 HY.out
  have HK := Lib.hid (And.intro ka kb)
  clear ka kb HB HG HS0 HS1 H0 H1
  refine wp_region_held_drew (S := (fun w' => (convert 22 9 (.slice A0 X cap0)).run Try.prog w' = .ok (.string tx) w' ∧ (convert 22 9 (.slice A1 Y cap1)).run Try.prog w' = .ok (.string ty) w')) (by kernel_rfl) (HK.out) (fun hHeld => ?_)
  refine held_take (i := 0) (v := ?_) rfl (by kernel_rfl) (by kernel_rfl) (by kernel_rfl) (fun _ _ _ h => h) (by rfl) hHeld ?_ ?_
  rotate_left 1
  · (intro w hSw; (try dsimp only at hSw); go_simp; try (with_reducible rfl))
  try simp only [Act.put, List.setIfInBounds_toArray, List.set_cons_zero, List.set_cons_succ]
  refine held_take (i := 3) (v := ?_) rfl (by kernel_rfl) (by kernel_rfl) (by kernel_rfl) (fun _ _ _ h => h) (by rfl) hHeld ?_ ?_
  rotate_left 1
  · (intro w hSw; (try dsimp only at hSw); go_simp; try (with_reducible rfl))
  try simp only [Act.put, List.setIfInBounds_toArray, List.set_cons_zero, List.set_cons_succ]
  refine held_take (i := 7) (v := ?_) rfl (by kernel_rfl) (by kernel_rfl) (by kernel_rfl) (fun _ _ _ h => h) (by rfl) hHeld ?_ ?_
  rotate_left 1
  · (intro w hSw; (try dsimp only at hSw); go_simp; try (with_reducible rfl))
  try simp only [Act.put, List.setIfInBounds_toArray, List.set_cons_zero, List.set_cons_succ]
  refine held_take (i := 8) (v := ?_) rfl (by kernel_rfl) (by kernel_rfl) (by kernel_rfl) (fun _ _ _ h => h) (by rfl) hHeld ?_ ?_
  rotate_left 1
  · (intro w hSw; (try dsimp only at hSw); go_simp; try (with_reducible rfl))
  try simp only [Act.put, List.setIfInBounds_toArray, List.set_cons_zero, List.set_cons_succ]
  refine held_take (i := 9) (v := ?_) rfl (by kernel_rfl) (by kernel_rfl) (by kernel_rfl) (fun _ _ _ h => h) (by rfl) hHeld ?_ ?_
  rotate_left 1
  · (intro w hSw; (try dsimp only at hSw); go_simp; try (with_reducible rfl))
  try simp only [Act.put, List.setIfInBounds_toArray, List.set_cons_zero, List.set_cons_succ]
  refine held_take (i := 10) (v := ?_) rfl (by kernel_rfl) (by kernel_rfl) (by kernel_rfl) (fun _ _ _ h => h) (by rfl) hHeld ?_ ?_
  rotate_left 1
  · (intro w hSw; (try dsimp only at hSw); go_simp; try (with_reducible rfl))
  try simp only [Act.put, List.setIfInBounds_toArray, List.set_cons_zero, List.set_cons_succ]
  refine held_take (i := 11) (v := ?_) rfl (by kernel_rfl) (by kernel_rfl) (by kernel_rfl) (fun _ _ _ h => h) (by rfl) hHeld ?_ ?_
  rotate_left 1
  · (intro w hSw; (try dsimp only at hSw); go_simp; try (with_reducible rfl))
  try simp only [Act.put, List.setIfInBounds_toArray, List.set_cons_zero, List.set_cons_succ]
  refine held_one (i := 1) rfl (by kernel_rfl) (by rfl) (fun K hK => ?_)
  go_simp
  (with_reducible refine (HEA.out _ HRA.out).mono ?_)
  rintro e5 w5 ⟨v5, rfl, h5, b5⟩
  obtain ⟨AA5, cA5, rfl, _, _, rA⟩ := h5.form_n CA HCA.out
  replace HRA := Lib.hid (HRA.out.next b5)
  replace HRB := Lib.hid (HRB.out.next b5)
  have qA : (convert 22 9 (.slice AA5 CA cA5)).run Try.prog w5 = .ok (.string sA) w5 := by rw [← HSA.out]; exact conv_rb rA CA cA5 HCA.out
  have HRA5 := Lib.hid rA
  have ka : (convert 22 9 (.slice A0 X cap0)).run Try.prog w5 = .ok (.string tx) w5 := by rw [← HTX.out]; exact conv_rb HRA.out X cap0 HX.out
  have kb : (convert 22 9 (.slice A1 Y cap1)).run Try.prog w5 = .ok (.string ty) w5 := by rw [← HTY.out]; exact conv_rb HRB.out Y cap1 HY.out
  replace HBB := Lib.hid (HBB.out.trans (b5.mono HBB.out.size))
  have HK := Lib.hid (And.intro ka kb)
  clear ka kb
  clear h5 b5 rA
  refine hK.out _ _ (HK.out) (fun hHeld2 => ?_)
  clear hK K hHeld; have hHeld := hHeld2; clear hHeld2
  try simp only [Act.put, List.setIfInBounds_toArray, List.set_cons_zero, List.set_cons_succ]
  refine held_two (i := 2) (j := 4) rfl rfl (by kernel_rfl) (by rfl) (by rfl) (fun K hK => ?_) (fun K hK => ?_)
  · go_simp
    refine hK.out _ _ (HK.out) (fun hHeld2 => ?_)
    clear hK K hHeld; have hHeld := hHeld2; clear hHeld2
    try simp only [Act.put, List.setIfInBounds_toArray, List.set_cons_zero, List.set_cons_succ]
    refine held_one (i := 4) rfl (by kernel_rfl) (by rfl) (fun K hK => ?_)
    go_simp
    (with_reducible refine (HEB.out _ HRB.out).mono ?_)
    rintro e5 w5 ⟨v5, rfl, h5, b5⟩
    obtain ⟨AB5, cB5, rfl, _, _, rB⟩ := h5.form_n CB HCB.out
    replace HRA := Lib.hid (HRA.out.next b5)
    replace HRB := Lib.hid (HRB.out.next b5)
    have qB : (convert 22 9 (.slice AB5 CB cB5)).run Try.prog w5 = .ok (.string sB) w5 := by rw [← HSB.out]; exact conv_rb rB CB cB5 HCB.out
    have HRB5 := Lib.hid rB
    replace HRA5 := Lib.hid (HRA5.out.next b5)
    replace qA : (convert 22 9 (.slice AA5 CA cA5)).run Try.prog w5 = .ok (.string sA) w5 := by rw [← HSA.out]; exact conv_rb HRA5.out CA cA5 HCA.out
    have ka : (convert 22 9 (.slice A0 X cap0)).run Try.prog w5 = .ok (.string tx) w5 := by rw [← HTX.out]; exact conv_rb HRA.out X cap0 HX.out
    have kb : (convert 22 9 (.slice A1 Y cap1)).run Try.prog w5 = .ok (.string ty) w5 := by rw [← HTY.out]; exact conv_rb HRB.out Y cap1 HY.out
    replace HBB := Lib.hid (HBB.out.trans (b5.mono HBB.out.size))
    have HK := Lib.hid (And.intro ka kb)
    clear ka kb
    clear h5 b5 rB
    refine hK.out _ _ (HK.out) (fun hHeld2 => ?_)
    clear hK K hHeld; have hHeld := hHeld2; clear hHeld2
    try simp only [Act.put, List.setIfInBounds_toArray, List.set_cons_zero, List.set_cons_succ]
    refine held_one (i := 5) rfl (by kernel_rfl) (by rfl) (fun K hK => ?_)
    go_simp
    refine hK.out _ _ (HK.out) (fun hHeld2 => ?_)
    clear hK K hHeld; have hHeld := hHeld2; clear hHeld2
    try simp only [Act.put, List.setIfInBounds_toArray, List.set_cons_zero, List.set_cons_succ]
    refine held_take (i := 6) (v := ?_) rfl (by kernel_rfl) (by kernel_rfl) (by kernel_rfl) (fun _ _ _ h => h) (by rfl) hHeld ?_ ?_
    rotate_left 1
    · (intro w hSw; (try dsimp only at hSw); go_simp; try (with_reducible rfl))
    try simp only [Act.put, List.setIfInBounds_toArray, List.set_cons_zero, List.set_cons_succ]
    refine held_take (i := 12) (v := ?_) rfl (by kernel_rfl) (by kernel_rfl) (by kernel_rfl) (fun _ _ _ h => h) (by rfl) hHeld ?_ ?_
    rotate_left 1
    · (intro w hSw; (try dsimp only at hSw); go_simp; try (with_reducible rfl))
    try simp only [Act.put, List.setIfInBounds_toArray, List.set_cons_zero, List.set_cons_succ]
    refine held_take (i := 13) (v := ?_) rfl (by kernel_rfl) (by kernel_rfl) (by kernel_rfl) (fun _ _ _ h => h) (by rfl) hHeld ?_ ?_
    rotate_left 1
    · (intro w hSw; (try dsimp only at hSw); go_simp; try (with_reducible rfl))
    try simp only [Act.put, List.setIfInBounds_toArray, List.set_cons_zero, List.set_cons_succ]
    refine wpAnyH_done (by kernel_rfl) ?_ _
    skip
    go_wp2
    go_ret
    exact ⟨by first | rfl | (simp [e1, e2]; done), HBB.out⟩
  · go_simp
    (with_reducible refine (HEB.out _ HRB.out).mono ?_)
    rintro e5 w5 ⟨v5, rfl, h5, b5⟩
    obtain ⟨AB5, cB5, rfl, _, _, rB⟩ := h5.form_n CB HCB.out
    replace HRA := Lib.hid (HRA.out.next b5)
    replace HRB := Lib.hid (HRB.out.next b5)
    have qB : (convert 22 9 (.slice AB5 CB cB5)).run Try.prog w5 = .ok (.string sB) w5 := by rw [← HSB.out]; exact conv_rb rB CB cB5 HCB.out
    have HRB5 := Lib.hid rB
    replace HRA5 := Lib.hid (HRA5.out.next b5)
    replace qA : (convert 22 9 (.slice AA5 CA cA5)).run Try.prog w5 = .ok (.string sA) w5 := by rw [← HSA.out]; exact conv_rb HRA5.out CA cA5 HCA.out
    have ka : (convert 22 9 (.slice A0 X cap0)).run Try.prog w5 = .ok (.string tx) w5 := by rw [← HTX.out]; exact conv_rb HRA.out X cap0 HX.out
    have kb : (convert 22 9 (.slice A1 Y cap1)).run Try.prog w5 = .ok (.string ty) w5 := by rw [← HTY.out]; exact conv_rb HRB.out Y cap1 HY.out
    replace HBB := Lib.hid (HBB.out.trans (b5.mono HBB.out.size))
    have HK := Lib.hid (And.intro ka kb)
    clear ka kb
    clear h5 b5 rB
    refine hK.out _ _ (HK.out) (fun hHeld2 => ?_)
    clear hK K hHeld; have hHeld := hHeld2; clear hHeld2
    try simp only [Act.put, List.setIfInBounds_toArray, List.set_cons_zero, List.set_cons_succ]
    refine held_two (i := 2) (j := 5) rfl rfl (by kernel_rfl) (by rfl) (by rfl) (fun K hK => ?_) (fun K hK => ?_)
    · go_simp
      refine hK.out _ _ (HK.out) (fun hHeld2 => ?_)
      clear hK K hHeld; have hHeld := hHeld2; clear hHeld2
      try simp only [Act.put, List.setIfInBounds_toArray, List.set_cons_zero, List.set_cons_succ]
      refine held_one (i := 5) rfl (by kernel_rfl) (by rfl) (fun K hK => ?_)
      go_simp
      refine hK.out _ _ (HK.out) (fun hHeld2 => ?_)
      clear hK K hHeld; have hHeld := hHeld2; clear hHeld2
      try simp only [Act.put, List.setIfInBounds_toArray, List.set_cons_zero, List.set_cons_succ]
      refine held_take (i := 6) (v := ?_) rfl (by kernel_rfl) (by kernel_rfl) (by kernel_rfl) (fun _ _ _ h => h) (by rfl) hHeld ?_ ?_
      rotate_left 1
      · (intro w hSw; (try dsimp only at hSw); go_simp; try (with_reducible rfl))
      try simp only [Act.put, List.setIfInBounds_toArray, List.set_cons_zero, List.set_cons_succ]
      refine held_take (i := 12) (v := ?_) rfl (by kernel_rfl) (by kernel_rfl) (by kernel_rfl) (fun _ _ _ h => h) (by rfl) hHeld ?_ ?_
      rotate_left 1
      · (intro w hSw; (try dsimp only at hSw); go_simp; try (with_reducible rfl))
      try simp only [Act.put, List.setIfInBounds_toArray, List.set_cons_zero, List.set_cons_succ]
      refine held_take (i := 13) (v := ?_) rfl (by kernel_rfl) (by kernel_rfl) (by kernel_rfl) (fun _ _ _ h => h) (by rfl) hHeld ?_ ?_
      rotate_left 1
      · (intro w hSw; (try dsimp only at hSw); go_simp; try (with_reducible rfl))
      try simp only [Act.put, List.setIfInBounds_toArray, List.set_cons_zero, List.set_cons_succ]
      refine wpAnyH_done (by kernel_rfl) ?_ _
      skip
      go_wp2
      go_ret
      exact ⟨by first | rfl | (simp [e1, e2]; done), HBB.out⟩
    · go_simp
      refine hK.out _ _ (HK.out) (fun hHeld2 => ?_)
      clear hK K hHeld; have hHeld := hHeld2; clear hHeld2
      try simp only [Act.put, List.setIfInBounds_toArray, List.set_cons_zero, List.set_cons_succ]
      refine held_one (i := 2) rfl (by kernel_rfl) (by rfl) (fun K hK => ?_)
      go_simp
      refine hK.out _ _ (HK.out) (fun hHeld2 => ?_)
      clear hK K hHeld; have hHeld := hHeld2; clear hHeld2
      try simp only [Act.put, List.setIfInBounds_toArray, List.set_cons_zero, List.set_cons_succ]
      refine held_take (i := 6) (v := ?_) rfl (by kernel_rfl) (by kernel_rfl) (by kernel_rfl) (fun _ _ _ h => h) (by rfl) hHeld ?_ ?_
      rotate_left 1
      · (intro w hSw; (try dsimp only at hSw); go_simp; try (with_reducible rfl))
      try simp only [Act.put, List.setIfInBounds_toArray, List.set_cons_zero, List.set_cons_succ]
      refine held_take (i := 12) (v := ?_) rfl (by kernel_rfl) (by kernel_rfl) (by kernel_rfl) (fun _ _ _ h => h) (by rfl) hHeld ?_ ?_
      rotate_left 1
      · (intro w hSw; (try dsimp only at hSw); go_simp; try (with_reducible rfl))
      try simp only [Act.put, List.setIfInBounds_toArray, List.set_cons_zero, List.set_cons_succ]
      refine held_take (i := 13) (v := ?_) rfl (by kernel_rfl) (by kernel_rfl) (by kernel_rfl) (fun _ _ _ h => h) (by rfl) hHeld ?_ ?_
      rotate_left 1
      · (intro w hSw; (try dsimp only at hSw); go_simp; try (with_reducible rfl))
      try simp only [Act.put, List.setIfInBounds_toArray, List.set_cons_zero, List.set_cons_succ]
      refine wpAnyH_done (by kernel_rfl) ?_ _
      skip
      go_wp2
      go_ret
      exact ⟨by first | rfl | (simp [e1, e2]; done), HBB.out⟩
end Go.Proofs.Ytifmohdfpfcikaa
