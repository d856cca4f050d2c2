/- WALKS: tells; the law RunsAny. -/
import Derived.Test.YtifmohdfpfcikaaJl
import Derived.Test.YtifmohdfpfcikaaKr
namespace Go.Proofs.Ytifmohdfpfcikaa
set_option maxRecDepth 100000
open Go.RowKit
set_option linter.unusedVariables false
set_option linter.unusedSimpArgs false

theorem refun_any (A : Option Addr) (l : List UInt8) (n cap : Nat) (m M : Int) (w : World) (hM : (m ≤ 0 ∧ M = 0) ∨ (0 < m ∧ M = m)) (hM1 : M ≤ 2147483647) (hr : RB w w.heap.size A l) (hn : l.length = n) (hc : n ≤ cap) (hm : cap ≤ maxLen) :
    Calls Try.prog 19 #[.slice A n cap, .int .i64 m] w fun e w' => UnAns (cnt M 0 (items true l)) (expand 0 (items true l)) w w' e ∧ Below w.heap.size w w' := by
  rcases hM with ⟨h, rfl⟩ | ⟨h, e⟩
  · exact refun_neg A l n cap m w h hM1 hr hn hc hm
  · subst e; exact refun_pos A l n cap M w h hM1 hr hn hc hm
set_option maxHeartbeats 4000000 in
theorem tells_any (A : Option Addr) (l : List UInt8) (n cap : Nat) (m M : Int) (w : World) (hM : (m ≤ 0 ∧ M = 0) ∨ (0 < m ∧ M = m)) (hM1 : M ≤ 5000) (hr : RB w w.heap.size A l) (hn : l.length = n) (hc : n ≤ cap) (hm : cap ≤ maxLen) (hl : n ≤ 4096) :
    Calls Try.prog 13 #[.slice A n cap, .int .i64 m] w fun e w' => e = .returned (.bool true) ∧ Below w.heap.size w w' := by
  have hpos : ∀ x ∈ items true l, 0 ≤ x.1 := fun x hx => (items_in l true x hx).1
  have hD := dec_any A l n cap m M w (by omega) (by omega) hr hn hc hm hl (fun t h => by
    have := cnt_le M _ 0 t (by omega) hpos h
    omega)
  have hU : ∀ W, RB W W.heap.size A l → _ := fun W h => refun_any A l n cap m M W hM (by omega) h hn hc hm
  have HR := Lib.hid hr; have HN := Lib.hid hn; have HM := Lib.hid hM
  cases hcn : cnt M 0 (items true l) with
  | form =>
    rw [hcn] at hD
    simp only [hcn] at hU
    have HD : Hid (Calls Try.prog 12 #[.slice A n cap, .int .i64 m] w fun e w' => e = .returned (.tuple #[.slice none 0 0, .int .i64 1]) ∧ Below w.heap.size w w') := hD
    have HU : Hid (∀ W, RB W W.heap.size A l → Calls Try.prog 19 #[.slice A n cap, .int .i64 m] W fun e w' => e = .returned (.tuple #[.slice none 0 0, .int .i64 1]) ∧ Below W.heap.size W w') := hU
    clear hD hU hcn hpos hr hn hM hM1 hm
    go_enter Try.func13, Try.ntmps13
    go_wp2_with fail
    (with_reducible refine HD.out.mono ?_)
    rintro e w1 ⟨rfl, hb1⟩
    have HR1 := Lib.hid (HR.out.next hb1)
    have HB1 := Lib.hid hb1
    clear hb1 HD
    go_wp2_with fail
    (with_reducible refine (HU.out _ HR1.out).mono ?_)
    rintro e w2 ⟨rfl, hb2⟩
    have HB2 := Lib.hid (HB1.out.trans (hb2.mono HB1.out.size))
    have q1 : (convert 22 9 (.slice none 0 0)).run Try.prog w2.drew = .ok (.string (str [])) w2.drew := conv_rb (RB.nil w2.drew 0 none) 0 0 rfl
    clear hb2 HU
    go_wp2_with fail
    go_region
    go_wp2
    go_ret
    exact ⟨rfl, HB2.out.drew⟩
  | full =>
    rw [hcn] at hD
    simp only [hcn] at hU
    have HD : Hid (Calls Try.prog 12 #[.slice A n cap, .int .i64 m] w fun e w' => e = .returned (.tuple #[.slice none 0 0, .int .i64 4]) ∧ Below w.heap.size w w') := hD
    have HU : Hid (∀ W, RB W W.heap.size A l → Calls Try.prog 19 #[.slice A n cap, .int .i64 m] W fun e w' => e = .returned (.tuple #[.slice none 0 0, .int .i64 4]) ∧ Below W.heap.size W w') := hU
    clear hD hU hcn hpos hr hn hM hM1 hm
    go_enter Try.func13, Try.ntmps13
    go_wp2_with fail
    (with_reducible refine HD.out.mono ?_)
    rintro e w1 ⟨rfl, hb1⟩
    have HR1 := Lib.hid (HR.out.next hb1)
    have HB1 := Lib.hid hb1
    clear hb1 HD
    go_wp2_with fail
    (with_reducible refine (HU.out _ HR1.out).mono ?_)
    rintro e w2 ⟨rfl, hb2⟩
    have HB2 := Lib.hid (HB1.out.trans (hb2.mono HB1.out.size))
    have q1 : (convert 22 9 (.slice none 0 0)).run Try.prog w2.drew = .ok (.string (str [])) w2.drew := conv_rb (RB.nil w2.drew 0 none) 0 0 rfl
    clear hb2 HU
    go_wp2_with fail
    go_region
    go_wp2
    go_ret
    exact ⟨rfl, HB2.out.drew⟩
  | ok t =>
    rw [hcn] at hD
    simp only [hcn] at hU
    obtain ⟨x, hx⟩ : ∃ x, expand 0 (items true l) = x := ⟨_, rfl⟩
    obtain ⟨X, hX⟩ : ∃ X, x.length = X := ⟨_, rfl⟩
    have hX5 : X ≤ 8192 := by
      have h1 := expand_len M _ 0 t 0 hpos hcn
      have h2 := cnt_le M _ 0 t (by omega) hpos hcn
      rw [hx, hX] at h1
      omega
    have hback := enc_back l M t hcn
    rw [hx] at hback hD hU
    have HD : Hid (Calls Try.prog 12 #[.slice A n cap, .int .i64 m] w fun e w' => (∃ v, e = .returned (.tuple #[v, .int .i64 0]) ∧ OB w' w.heap.size v x) ∧ Below w.heap.size w w') := hD
    have HU : Hid (∀ W, RB W W.heap.size A l → Calls Try.prog 19 #[.slice A n cap, .int .i64 m] W fun e w' => (∃ v, e = .returned (.tuple #[v, .int .i64 0]) ∧ OB w' W.heap.size v x) ∧ Below W.heap.size W w') := hU
    obtain ⟨s, hs⟩ : ∃ s, str l = s := ⟨_, rfl⟩
    obtain ⟨y, hy⟩ : ∃ y, str x = y := ⟨_, rfl⟩
    have HBK := Lib.hid hback; have HX := Lib.hid hX; have HX5 := Lib.hid hX5; have HS := Lib.hid hs; have HY := Lib.hid hy
    clear hD hU hcn hpos hr hM hM1 hm hback hx hX hX5 hs hy
    go_enter Try.func13, Try.ntmps13
    go_wp2_with fail
    (with_reducible refine HD.out.mono ?_)
    rintro e w1 ⟨⟨v1, rfl, ho1⟩, hb1⟩
    obtain ⟨A1, c1, rfl, hc1, hm1, hr1⟩ := ho1.form_n X HX.out
    have HR1 := Lib.hid (HR.out.next hb1)
    have HB1 := Lib.hid hb1
    have HO1 := Lib.hid hr1; have HM1 := Lib.hid hm1; have HC1 := Lib.hid hc1
    clear hb1 HD ho1 hr1 hm1
    go_wp2_with fail
    (with_reducible refine (HU.out _ HR1.out).mono ?_)
    rintro e w2 ⟨⟨v2, rfl, ho2⟩, hb2⟩
    obtain ⟨A2, c2, rfl, hc2, hm2, hr2⟩ := ho2.form_n X HX.out
    have HB2 : Hid (Below w.heap.size w w2.drew) := (HB1.out.trans (hb2.mono HB1.out.size)).drew
    have HR2 : Hid (RB w2.drew w2.drew.heap.size A l) := HR1.out.next hb2.drew
    have HP1 : Hid (RB w2.drew w2.drew.heap.size A1 x) := HO1.out.next hb2.drew
    have HP2 : Hid (RB w2.drew w2.drew.heap.size A2 x) := hr2
    have q1 : (convert 22 9 (.slice A1 X c1)).run Try.prog w2.drew = .ok (.string y) w2.drew := by rw [← HY.out]; exact conv_rb HP1.out X c1 HX.out
    have q2 : (convert 22 9 (.slice A2 X c2)).run Try.prog w2.drew = .ok (.string y) w2.drew := by rw [← HY.out]; exact conv_rb HP2.out X c2 HX.out
    have q3 : (convert 22 9 (.slice A n cap)).run Try.prog w2.drew = .ok (.string s) w2.drew := by rw [← HS.out]; exact conv_rb HR2.out n cap HN.out
    have HEN := Lib.hid (encode_any A1 x X c1 0 w2.drew HP1.out HX.out HC1.out HM1.out HX5.out)
    rw [HBK.out] at HEN
    clear hb2 HU ho2 hr2 hm2
    go_wp2_with fail
    refine wp_region_held_drew (S := (fun w' => (convert 22 9 (.slice A1 X c1)).run Try.prog w' = .ok (.string y) w' ∧ (convert 22 9 (.slice A2 X c2)).run Try.prog w' = .ok (.string y) w' ∧ (convert 22 9 (.slice A n cap)).run Try.prog w' = .ok (.string s) w')) (by kernel_rfl) (⟨q1, q2, q3⟩) (fun hHeld => ?_)
    refine held_take (i := 0) (v := ?_) rfl (by kernel_rfl) (by kernel_rfl) (by kernel_rfl) (fun _ _ _ h => h) (by rfl) hHeld ?_ ?_
    rotate_left 1
    · (intro w hSw; (try dsimp only at hSw); go_simp; try (with_reducible rfl))
    try simp only [Act.put, List.setIfInBounds_toArray, List.set_cons_zero, List.set_cons_succ]
    refine held_take (i := 1) (v := ?_) rfl (by kernel_rfl) (by kernel_rfl) (by kernel_rfl) (fun _ _ _ h => h) (by rfl) hHeld ?_ ?_
    rotate_left 1
    · (intro w hSw; (try dsimp only at hSw); go_simp; try (with_reducible rfl))
    try simp only [Act.put, List.setIfInBounds_toArray, List.set_cons_zero, List.set_cons_succ]
    refine held_take (i := 2) (v := ?_) rfl (by kernel_rfl) (by kernel_rfl) (by kernel_rfl) (fun _ _ _ h => h) (by rfl) hHeld ?_ ?_
    rotate_left 1
    · (intro w hSw; (try dsimp only at hSw); go_simp; try (with_reducible rfl))
    try simp only [Act.put, List.setIfInBounds_toArray, List.set_cons_zero, List.set_cons_succ]
    refine held_take (i := 3) (v := ?_) rfl (by kernel_rfl) (by kernel_rfl) (by kernel_rfl) (fun _ _ _ h => h) (by rfl) hHeld ?_ ?_
    rotate_left 1
    · (intro w hSw; (try dsimp only at hSw); go_simp; try (with_reducible rfl))
    try simp only [Act.put, List.setIfInBounds_toArray, List.set_cons_zero, List.set_cons_succ]
    refine held_take (i := 4) (v := ?_) rfl (by kernel_rfl) (by kernel_rfl) (by kernel_rfl) (fun _ _ _ h => h) (by rfl) hHeld ?_ ?_
    rotate_left 1
    · (intro w hSw; (try dsimp only at hSw); go_simp; try (with_reducible rfl))
    try simp only [Act.put, List.setIfInBounds_toArray, List.set_cons_zero, List.set_cons_succ]
    refine held_take (i := 5) (v := ?_) rfl (by kernel_rfl) (by kernel_rfl) (by kernel_rfl) (fun _ _ _ h => h) (by rfl) hHeld ?_ ?_
    rotate_left 1
    · (intro w hSw; (try dsimp only at hSw); go_simp; try (with_reducible rfl))
    try simp only [Act.put, List.setIfInBounds_toArray, List.set_cons_zero, List.set_cons_succ]
    refine held_take (i := 6) (v := ?_) rfl (by kernel_rfl) (by kernel_rfl) (by kernel_rfl) (fun _ _ _ h => h) (by rfl) hHeld ?_ ?_
    rotate_left 1
    · (intro w hSw; (try dsimp only at hSw); go_simp; try (with_reducible rfl))
    try simp only [Act.put, List.setIfInBounds_toArray, List.set_cons_zero, List.set_cons_succ]
    refine held_take (i := 7) (v := ?_) rfl (by kernel_rfl) (by kernel_rfl) (by kernel_rfl) (fun _ _ _ h => h) (by rfl) hHeld ?_ ?_
    rotate_left 1
    · (intro w hSw; (try dsimp only at hSw); go_simp; try (with_reducible rfl))
    try simp only [Act.put, List.setIfInBounds_toArray, List.set_cons_zero, List.set_cons_succ]
    refine held_take (i := 8) (v := ?_) rfl (by kernel_rfl) (by kernel_rfl) (by kernel_rfl) (fun _ _ _ h => h) (by rfl) hHeld ?_ ?_
    rotate_left 1
    · (intro w hSw; (try dsimp only at hSw); go_simp; try (with_reducible rfl))
    try simp only [Act.put, List.setIfInBounds_toArray, List.set_cons_zero, List.set_cons_succ]
    refine held_take (i := 9) (v := ?_) rfl (by kernel_rfl) (by kernel_rfl) (by kernel_rfl) (fun _ _ _ h => h) (by rfl) hHeld ?_ ?_
    rotate_left 1
    · (intro w hSw; (try dsimp only at hSw); go_simp; try (with_reducible rfl))
    try simp only [Act.put, List.setIfInBounds_toArray, List.set_cons_zero, List.set_cons_succ]
    refine held_take (i := 10) (v := ?_) rfl (by kernel_rfl) (by kernel_rfl) (by kernel_rfl) (fun _ _ _ h => h) (by rfl) hHeld ?_ ?_
    rotate_left 1
    · (intro w hSw; (try dsimp only at hSw); go_simp; try (with_reducible rfl))
    try simp only [Act.put, List.setIfInBounds_toArray, List.set_cons_zero, List.set_cons_succ]
    refine held_take (i := 11) (v := ?_) rfl (by kernel_rfl) (by kernel_rfl) (by kernel_rfl) (fun _ _ _ h => h) (by rfl) hHeld ?_ ?_
    rotate_left 1
    · (intro w hSw; (try dsimp only at hSw); go_simp; try (with_reducible rfl))
    try simp only [Act.put, List.setIfInBounds_toArray, List.set_cons_zero, List.set_cons_succ]
    refine held_take (i := 12) (v := ?_) rfl (by kernel_rfl) (by kernel_rfl) (by kernel_rfl) (fun _ _ _ h => h) (by rfl) hHeld ?_ ?_
    rotate_left 1
    · (intro w hSw; (try dsimp only at hSw); go_simp; try (with_reducible rfl))
    try simp only [Act.put, List.setIfInBounds_toArray, List.set_cons_zero, List.set_cons_succ]
    refine held_take (i := 13) (v := ?_) rfl (by kernel_rfl) (by kernel_rfl) (by kernel_rfl) (fun _ _ _ h => h) (by rfl) hHeld ?_ ?_
    rotate_left 1
    · (intro w hSw; (try dsimp only at hSw); go_simp; try (with_reducible rfl))
    try simp only [Act.put, List.setIfInBounds_toArray, List.set_cons_zero, List.set_cons_succ]
    refine held_take (i := 14) (v := ?_) rfl (by kernel_rfl) (by kernel_rfl) (by kernel_rfl) (fun _ _ _ h => h) (by rfl) hHeld ?_ ?_
    rotate_left 1
    · (intro w hSw; (try dsimp only at hSw); go_simp; try (with_reducible rfl))
    try simp only [Act.put, List.setIfInBounds_toArray, List.set_cons_zero, List.set_cons_succ]
    refine held_take (i := 17) (v := ?_) rfl (by kernel_rfl) (by kernel_rfl) (by kernel_rfl) (fun _ _ _ h => h) (by rfl) hHeld ?_ ?_
    rotate_left 1
    · (intro w hSw; (try dsimp only at hSw); go_simp; try (with_reducible rfl))
    try simp only [Act.put, List.setIfInBounds_toArray, List.set_cons_zero, List.set_cons_succ]
    refine held_take (i := 18) (v := ?_) rfl (by kernel_rfl) (by kernel_rfl) (by kernel_rfl) (fun _ _ _ h => h) (by rfl) hHeld ?_ ?_
    rotate_left 1
    · (intro w hSw; (try dsimp only at hSw); go_simp; try (with_reducible rfl))
    try simp only [Act.put, List.setIfInBounds_toArray, List.set_cons_zero, List.set_cons_succ]
    refine held_one (i := 15) rfl (by kernel_rfl) (by rfl) (fun K hK => ?_)
    go_simp
    (with_reducible refine (HEN.out).mono ?_)
    rintro e w7 ⟨v, rfl, ho, hb⟩
    obtain ⟨A7, c7, rfl, hc7, hm7, hr7⟩ := ho.form_n n HN.out
    have p1 : (convert 22 9 (.slice A1 X c1)).run Try.prog w7 = .ok (.string y) w7 := (by rw [← HY.out]; exact conv_rb (HP1.out.next hb) X c1 HX.out)
    have p2 : (convert 22 9 (.slice A2 X c2)).run Try.prog w7 = .ok (.string y) w7 := (by rw [← HY.out]; exact conv_rb (HP2.out.next hb) X c2 HX.out)
    have p3 : (convert 22 9 (.slice A n cap)).run Try.prog w7 = .ok (.string s) w7 := (by rw [← HS.out]; exact conv_rb (HR2.out.next hb) n cap HN.out)
    have p4 : (convert 22 9 (.slice A7 n c7)).run Try.prog w7 = .ok (.string s) w7 := (by rw [← HS.out]; exact conv_rb hr7 n c7 HN.out)
    have HB7 := Lib.hid (HB2.out.trans (hb.mono HB2.out.size))
    have HK := Lib.hid (And.intro p1 (And.intro p2 p3))
    clear p1 p2 p3 ho hb hr7 hm7
    refine hK.out _ _ (HK.out) (fun hHeld2 => ?_)
    clear hK K hHeld; have hHeld := hHeld2; clear hHeld2
    try simp only [Act.put, List.setIfInBounds_toArray, List.set_cons_zero, List.set_cons_succ]
    refine held_one (i := 16) rfl (by kernel_rfl) (by rfl) (fun K hK => ?_)
    go_simp
    refine hK.out _ _ (HK.out) (fun hHeld2 => ?_)
    clear hK K hHeld; have hHeld := hHeld2; clear hHeld2
    try simp only [Act.put, List.setIfInBounds_toArray, List.set_cons_zero, List.set_cons_succ]
    refine held_take (i := 19) (v := ?_) rfl (by kernel_rfl) (by kernel_rfl) (by kernel_rfl) (fun _ _ _ h => h) (by rfl) hHeld ?_ ?_
    rotate_left 1
    · (intro w hSw; (try dsimp only at hSw); go_simp; try (with_reducible rfl))
    try simp only [Act.put, List.setIfInBounds_toArray, List.set_cons_zero, List.set_cons_succ]
    refine held_take (i := 20) (v := ?_) rfl (by kernel_rfl) (by kernel_rfl) (by kernel_rfl) (fun _ _ _ h => h) (by rfl) hHeld ?_ ?_
    rotate_left 1
    · (intro w hSw; (try dsimp only at hSw); go_simp; try (with_reducible rfl))
    try simp only [Act.put, List.setIfInBounds_toArray, List.set_cons_zero, List.set_cons_succ]
    refine held_take (i := 21) (v := ?_) rfl (by kernel_rfl) (by kernel_rfl) (by kernel_rfl) (fun _ _ _ h => h) (by rfl) hHeld ?_ ?_
    rotate_left 1
    · (intro w hSw; (try dsimp only at hSw); go_simp; try (with_reducible rfl))
    try simp only [Act.put, List.setIfInBounds_toArray, List.set_cons_zero, List.set_cons_succ]
    refine held_take (i := 22) (v := ?_) rfl (by kernel_rfl) (by kernel_rfl) (by kernel_rfl) (fun _ _ _ h => h) (by rfl) hHeld ?_ ?_
    rotate_left 1
    · (intro w hSw; (try dsimp only at hSw); go_simp; try (with_reducible rfl))
    try simp only [Act.put, List.setIfInBounds_toArray, List.set_cons_zero, List.set_cons_succ]
    refine wpAnyH_done (by kernel_rfl) ?_ _
    skip
    go_wp2
    go_ret
    exact ⟨rfl, HB7.out⟩
end Go.Proofs.Ytifmohdfpfcikaa
