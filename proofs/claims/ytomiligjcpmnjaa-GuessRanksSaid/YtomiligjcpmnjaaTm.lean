/- WALK of the law GuessFirst. -/
import Derived.Test.YtomiligjcpmnjaaTl
import Derived.Test.YtomiligjcpmnjaaFv
namespace Go.Proofs.Ytomiligjcpmnjaa
set_option maxRecDepth 100000
open Go.RowKit Go.Maps
set_option linter.unusedVariables false
set_option linter.unusedSimpArgs false

theorem cel_other (b : Kd) (r r' t : Nat) (ls : List (List UInt8)) (F p0 i p : Nat) (h : ¬ p = p0) : celP b r t ls F p0 i p = celP b r' t ls F p0 i p := by
  unfold celP
  rw [decide_eq_false h]
  unfold fullP
  rw [begP_f, begP_f]
theorem lst_snoc (l : List UInt8) (y : UInt8) : lst (l ++ [y]) = y := by unfold lst; simp [List.getD]
theorem cel_first {ls : List (List UInt8)} {F p0 : Nat} (h : First ls F p0) (r i : Nat) (hi : i < 3) : celP kL r (F + 3) ls F p0 i p0 = rkA kL r (ls.getD p0 []) := by
  unfold celP
  rw [decide_eq_true rfl]
  unfold fullP
  rw [begP_t]
  have hl := h.2.1
  generalize ls.getD p0 [] = l at hl ⊢
  obtain ⟨y, hy⟩ : ∃ y, rkA kL r l = y := ⟨_, rfl⟩
  rw [hy]
  rw [List.length_append, List.length_singleton, hl, show F + 3 - (F + 1) = 2 by omega]
  obtain ⟨c, hc⟩ : ∃ c, chN kL 2 (l ++ [y]) = c := ⟨_, rfl⟩
  have hcl : c.length = 2 := by rw [← hc]; exact chN_len _ _ _
  have hcm : ∀ x ∈ c, x = y := fun x hx => by
    rw [← hc] at hx
    have := chN_last (b := kL) rfl 2 (l ++ [y]) x hx
    rw [lst_snoc] at this
    exact this
  rw [hc]
  by_cases e : i = 0
  · subst e
    simp only [List.getD]
    rw [List.getElem?_append_left (by rw [List.length_append, hl]; simp), List.getElem?_append_right (by omega)]
    simp [hl]
  · simp only [List.getD]
    rw [List.getElem?_append_right (by rw [List.length_append, hl]; simp; omega)]
    have hlt : F + i - (l ++ [y]).length < c.length := by rw [List.length_append, hl, hcl]; simp; omega
    rw [List.getElem?_eq_getElem hlt]
    exact hcm _ (List.getElem_mem hlt)
theorem rkA_ne (b : Kd) (r : Nat) (l : List UInt8) (h1 : 1 ≤ r) (h2 : r ≤ 255) : rkA b 0 l ≠ rkA b r l := fun e => by
  unfold rkA at e
  have := rk_get_ah (sc b l) (0 % 256) (r % 256) (by omega) (by omega)
  rw [e] at this
  exact ah_irr this
theorem three_nil {xs : List Ln} (h : xs.map Ln.l = List.replicate 3 (zB 0)) : ∃ a b c, xs = [⟨a, []⟩, ⟨b, []⟩, ⟨c, []⟩] := by
  have hl : xs.length = 3 := by have := congrArg List.length h; simpa using this
  match xs, hl with
  | [⟨a, x⟩, ⟨b, y⟩, ⟨c, z⟩], _ =>
    simp [zB, List.replicate] at h
    obtain ⟨rfl, rfl, rfl⟩ := h
    exact ⟨a, b, c, rfl⟩
set_option maxHeartbeats 4000000 in
theorem first_law (A0 : Option Addr) (l0 : List UInt8) (cap0 : Nat) (A1 : Option Addr) (l1 : List UInt8) (cap1 : Nat) (A2 : Option Addr) (l2 : List UInt8) (cap2 : Nat) (r : Int) (w : World) (h0 : RB w w.heap.size A0 l0) (k0 : l0.length ≤ cap0) (m0 : cap0 ≤ maxLen) (h1 : RB w w.heap.size A1 l1) (k1 : l1.length ≤ cap1) (m1 : cap1 ≤ maxLen) (h2 : RB w w.heap.size A2 l2) (k2 : l2.length ≤ cap2) (m2 : cap2 ≤ maxLen) :
    Calls Try.prog 7 #[.slice A0 l0.length cap0, .slice A1 l1.length cap1, .slice A2 l2.length cap2, .int .i64 r] w fun e w' => e = .returned (.bool true) ∧ Below w.heap.size w w' := by
  have HG := Lib.hid (begun19_any w)
  obtain ⟨a, ha⟩ : ∃ p, l0.take 6 = p := ⟨_, rfl⟩
  obtain ⟨X, hX⟩ : ∃ L, a.length = L := ⟨_, rfl⟩
  obtain ⟨hX6, hXc⟩ : X ≤ 6 ∧ X ≤ cap0 := by rw [← ha, List.length_take] at hX; omega
  obtain ⟨b, hb⟩ : ∃ p, l1.take 6 = p := ⟨_, rfl⟩
  obtain ⟨Y, hY⟩ : ∃ L, b.length = L := ⟨_, rfl⟩
  obtain ⟨hY6, hYc⟩ : Y ≤ 6 ∧ Y ≤ cap1 := by rw [← hb, List.length_take] at hY; omega
  obtain ⟨c, hc⟩ : ∃ p, l2.take 6 = p := ⟨_, rfl⟩
  obtain ⟨Z, hZ⟩ : ∃ L, c.length = L := ⟨_, rfl⟩
  obtain ⟨hZ6, hZc⟩ : Z ≤ 6 ∧ Z ≤ cap2 := by rw [← hc, List.length_take] at hZ; omega
  have HS0 := Lib.hid (fun W => short_n A0 l0 l0.length cap0 6 W rfl (by omega) k0 m0 X (by rw [ha, hX]) 6 rfl)
  have HS1 := Lib.hid (fun W => short_n A1 l1 l1.length cap1 6 W rfl (by omega) k1 m1 Y (by rw [hb, hY]) 6 rfl)
  have HS2 := Lib.hid (fun W => short_n A2 l2 l2.length cap2 6 W rfl (by omega) k2 m2 Z (by rw [hc, hZ]) 6 rfl)
  have HA : Hid (RB w w.heap.size A0 a) := by rw [← ha]; exact h0.take 6
  have HB : Hid (RB w w.heap.size A1 b) := by rw [← hb]; exact h1.take 6
  have HC : Hid (RB w w.heap.size A2 c) := by rw [← hc]; exact h2.take 6
  have HM0 := Lib.hid m0; have HM1 := Lib.hid m1; have HM2 := Lib.hid m2
  obtain ⟨n00, hn00⟩ : ∃ n00, l0.length = n00 := ⟨_, rfl⟩
  obtain ⟨n01, hn01⟩ : ∃ n01, l1.length = n01 := ⟨_, rfl⟩
  obtain ⟨n02, hn02⟩ : ∃ n02, l2.length = n02 := ⟨_, rfl⟩
  rw [hn00] at HS0 ⊢
  rw [hn01] at HS1 ⊢
  rw [hn02] at HS2 ⊢
  have HXL := Lib.hid hX; have HYL := Lib.hid hY; have HZL := Lib.hid hZ
  clear h0 k0 m0 h1 k1 m1 h2 k2 m2 ha hb hc hn00 hn01 hn02 hX hY hZ
  go_enter Try.func7, Try.ntmps7
  go_wp2_with fail
  (with_reducible refine HG.out.mono ?_)
  rintro e w2 ⟨rfl, hb2⟩
  have HB2 := Lib.hid hb2
  clear hb2 HG
  go_wp2_with fail
  (with_reducible refine (HS0.out _).mono ?_)
  rintro e w3 ⟨rfl, rfl⟩
  go_wp2_with fail
  (with_reducible refine (HS1.out _).mono ?_)
  rintro e w3 ⟨rfl, rfl⟩
  go_wp2_with fail
  (with_reducible refine (HS2.out _).mono ?_)
  rintro e w3 ⟨rfl, rfl⟩
  clear HS0 HS1 HS2
  by_cases g1 : r < 1
  · go_wp2_with fail
    go_ret
    exact ⟨rfl, HB2.out⟩
  by_cases g2 : 255 < r
  · go_wp2_with fail
    go_ret
    exact ⟨rfl, HB2.out⟩
  obtain ⟨R, rfl⟩ : ∃ R : Nat, r = R := ⟨r.toNat, by omega⟩
  have HN := Lib.hid (qf_new w w2 HB2.out noB (no_noB w w2) 3 0 3 0 (by omega) (by omega))
  have hd1 : decide ((R : Int) < 1) = false := decide_eq_false g1
  have hd2 : decide ((255 : Int) < (R : Int)) = false := decide_eq_false g2
  go_wp2_with fail
  (with_reducible refine HN.out.mono ?_)
  rintro e w3 ⟨q, rr, xs, rfl, F3, hmp, -⟩
  obtain ⟨pa, pb, pc, rfl⟩ := three_nil hmp
  obtain ⟨w4, hw4⟩ : ∃ w4, w3.alloc (.cells #[.slice A0 X cap0, .slice A1 Y cap1, .slice A2 Z cap2] 23) = w4 := ⟨_, rfl⟩
  have b4 : Below w3.heap.size w3 w4 := by rw [← hw4]; exact (Below.refl _ _).alloc (Nat.le_refl _) _
  have s4 : w4.heap.size = w3.heap.size + 1 := by rw [← hw4]; simp
  have hrow : w4.heap[w3.heap.size]? = some (.cells #[.slice A0 X cap0, .slice A1 Y cap1, .slice A2 Z cap2] 23 (0, 0)) := by rw [← hw4]; exact heap_alloc_last w3 _
  obtain ⟨B, hB⟩ : ∃ B, w3.heap.size = B := ⟨_, rfl⟩
  have F4 : QF w w4 q rr _ (fun k => k = B) := F3.add b4 (fun k hk => .inr ⟨by omega, by omega⟩)
  rw [hB] at hrow
  have HF4 := Lib.hid F4; have HR4 := Lib.hid hrow
  -- the row of all three, as long as its block stands
  have HALL : Hid (∀ wx : World, wx.heap[B]? = some (.cells #[.slice A0 X cap0, .slice A1 Y cap1, .slice A2 Z cap2] 23 (0, 0)) → wx.cell? ⟨B, 0, none⟩ = some (.slice A0 X cap0) ∧ wx.cell? ⟨B, 1, none⟩ = some (.slice A1 Y cap1) ∧ wx.cell? ⟨B, 2, none⟩ = some (.slice A2 Z cap2)) := fun wx hx => by
    refine ⟨?_, ?_, ?_⟩ <;> (rw [cell_of_row _ _ _ _ _ _ hx]; rfl)
  clear HN hmp F3 b4 s4 hrow F4 hd1 hd2
  go_wp2_with fail
  clear hB hw4
  go_loopw [12] (fun v wr => ∃ p : Nat, v = .int .i64 (p : Int) ∧ p ≤ 3 ∧ Hid (QF w wr q rr [⟨pa, if 0 < p then a else []⟩, ⟨pb, if 1 < p then b else []⟩, ⟨pc, if 2 < p then c else []⟩] (fun k => k = B)) ∧ Hid (wr.heap[B]? = some (.cells #[.slice A0 X cap0, .slice A1 Y cap1, .slice A2 Z cap2] 23 (0, 0)))) (fun v _ => 3 - (intOf v).toNat)
  case atStart => exact ⟨0, rfl, by omega, HF4, HR4⟩
  case round =>
    clear HF4 HR4
    obtain ⟨p, rfl, hp, HF, HR⟩ := hrel
    obtain rfl | rfl | rfl | rfl : p = 0 ∨ p = 1 ∨ p = 2 ∨ p = 3 := by omega
    · have F0 : QF w wr.drew q rr [⟨pa, []⟩, ⟨pb, []⟩, ⟨pc, []⟩] (fun k => k = B) := HF.out.drew
      have L0 := Lib.hid (line_in wr.drew q rr _ F0.qm 0 0 rfl ⟨pa, []⟩ rfl)
      have HP := Lib.hid (qf_put F0 0 pa [] a rfl 0 A0 cap0 w.heap.size X HXL.out (HA.out.below F0.be) hXc HM0.out X 0 a (putP_nil a X HXL.out (by omega)))
      have c0 : wr.drew.cell? ⟨B, 0, none⟩ = some (.slice A0 X cap0) := (HALL.out wr HR.out).1
      clear F0 HF
      go_wp2_with fail
      refine wp_region_held_drew (S := (fun w' => w'.cell? ⟨B, 0, none⟩ = some (.slice A0 X cap0))) (by kernel_rfl) (c0) (fun hHeld => ?_)
      refine held_take (i := 0) (v := ?_) rfl (by kernel_rfl) (by kernel_rfl) (by kernel_rfl) (fun _ _ _ h => h) (by rfl) hHeld ?_ ?_
      rotate_left 1
      · (intro w hSw; (try dsimp only at hSw); go_simp; try (with_reducible rfl))
      try simp only [Act.put, List.setIfInBounds_toArray, List.set_cons_zero, List.set_cons_succ]
      refine held_take (i := 1) (v := ?_) rfl (by kernel_rfl) (by kernel_rfl) (by kernel_rfl) (fun _ _ _ h => h) (by rfl) hHeld ?_ ?_
      rotate_left 1
      · (intro w hSw; (try dsimp only at hSw); go_simp; try (with_reducible rfl))
      try simp only [Act.put, List.setIfInBounds_toArray, List.set_cons_zero, List.set_cons_succ]
      refine held_take (i := 3) (v := ?_) rfl (by kernel_rfl) (by kernel_rfl) (by kernel_rfl) (fun _ _ _ h => h) (by rfl) hHeld ?_ ?_
      rotate_left 1
      · (intro w hSw; (try dsimp only at hSw); go_simp; try (with_reducible rfl))
      try simp only [Act.put, List.setIfInBounds_toArray, List.set_cons_zero, List.set_cons_succ]
      refine held_take (i := 4) (v := ?_) rfl (by kernel_rfl) (by kernel_rfl) (by kernel_rfl) (fun _ _ _ h => h) (by rfl) hHeld ?_ ?_
      rotate_left 1
      · (intro w hSw; (try dsimp only at hSw); go_simp; try (with_reducible rfl))
      try simp only [Act.put, List.setIfInBounds_toArray, List.set_cons_zero, List.set_cons_succ]
      refine held_take (i := 5) (v := ?_) rfl (by kernel_rfl) (by kernel_rfl) (by kernel_rfl) (fun _ _ _ h => h) (by rfl) hHeld ?_ ?_
      rotate_left 1
      · (intro w hSw; (try dsimp only at hSw); go_simp; try (with_reducible rfl))
      try simp only [Act.put, List.setIfInBounds_toArray, List.set_cons_zero, List.set_cons_succ]
      refine held_take (i := 6) (v := ?_) rfl (by kernel_rfl) (by kernel_rfl) (by kernel_rfl) (fun _ _ _ h => h) (by rfl) hHeld ?_ ?_
      rotate_left 1
      · (intro w hSw; (try dsimp only at hSw); go_simp; try (with_reducible rfl))
      try simp only [Act.put, List.setIfInBounds_toArray, List.set_cons_zero, List.set_cons_succ]
      refine held_one (i := 2) rfl (by kernel_rfl) (by rfl) (fun K hK => ?_)
      go_simp
      (with_reducible refine L0.out.mono ?_)
      rintro e wl ⟨rfl, rfl⟩
      refine hK.out _ _ (c0) (fun hHeld2 => ?_)
      clear hK K hHeld; have hHeld := hHeld2; clear hHeld2
      try simp only [Act.put, List.setIfInBounds_toArray, List.set_cons_zero, List.set_cons_succ]
      refine held_one (i := 7) rfl (by kernel_rfl) (by rfl) (fun K hK => ?_)
      go_simp
      (with_reducible refine HP.out.mono ?_)
      rintro e wp ⟨rfl, FP, SP⟩
      have HFP := Lib.hid FP; have HRP := Lib.hid ((SP B rfl).trans HR.out)
      clear c0
      have c0 := (HALL.out wp HRP.out).1
      clear FP SP
      refine hK.out _ _ (c0) (fun hHeld2 => ?_)
      clear hK K hHeld; have hHeld := hHeld2; clear hHeld2
      try simp only [Act.put, List.setIfInBounds_toArray, List.set_cons_zero, List.set_cons_succ]
      refine wpAnyH_done (by kernel_rfl) ?_ _
      go_wp2_with fail
      exact ⟨⟨1, rfl, by omega, HFP, HRP⟩, by simp [intOf]⟩
    · have F0 : QF w wr.drew q rr [⟨pa, a⟩, ⟨pb, []⟩, ⟨pc, []⟩] (fun k => k = B) := HF.out.drew
      have L0 := Lib.hid (line_in wr.drew q rr _ F0.qm 1 1 rfl ⟨pb, []⟩ rfl)
      have HP := Lib.hid (qf_put F0 1 pb [] b rfl 0 A1 cap1 w.heap.size Y HYL.out (HB.out.below F0.be) hYc HM1.out Y 0 b (putP_nil b Y HYL.out (by omega)))
      have c0 : wr.drew.cell? ⟨B, 1, none⟩ = some (.slice A1 Y cap1) := (HALL.out wr HR.out).2.1
      clear F0 HF
      go_wp2_with fail
      refine wp_region_held_drew (S := (fun w' => w'.cell? ⟨B, 1, none⟩ = some (.slice A1 Y cap1))) (by kernel_rfl) (c0) (fun hHeld => ?_)
      refine held_take (i := 0) (v := ?_) rfl (by kernel_rfl) (by kernel_rfl) (by kernel_rfl) (fun _ _ _ h => h) (by rfl) hHeld ?_ ?_
      rotate_left 1
      · (intro w hSw; (try dsimp only at hSw); go_simp; try (with_reducible rfl))
      try simp only [Act.put, List.setIfInBounds_toArray, List.set_cons_zero, List.set_cons_succ]
      refine held_take (i := 1) (v := ?_) rfl (by kernel_rfl) (by kernel_rfl) (by kernel_rfl) (fun _ _ _ h => h) (by rfl) hHeld ?_ ?_
      rotate_left 1
      · (intro w hSw; (try dsimp only at hSw); go_simp; try (with_reducible rfl))
      try simp only [Act.put, List.setIfInBounds_toArray, List.set_cons_zero, List.set_cons_succ]
      refine held_take (i := 3) (v := ?_) rfl (by kernel_rfl) (by kernel_rfl) (by kernel_rfl) (fun _ _ _ h => h) (by rfl) hHeld ?_ ?_
      rotate_left 1
      · (intro w hSw; (try dsimp only at hSw); go_simp; try (with_reducible rfl))
      try simp only [Act.put, List.setIfInBounds_toArray, List.set_cons_zero, List.set_cons_succ]
      refine held_take (i := 4) (v := ?_) rfl (by kernel_rfl) (by kernel_rfl) (by kernel_rfl) (fun _ _ _ h => h) (by rfl) hHeld ?_ ?_
      rotate_left 1
      · (intro w hSw; (try dsimp only at hSw); go_simp; try (with_reducible rfl))
      try simp only [Act.put, List.setIfInBounds_toArray, List.set_cons_zero, List.set_cons_succ]
      refine held_take (i := 5) (v := ?_) rfl (by kernel_rfl) (by kernel_rfl) (by kernel_rfl) (fun _ _ _ h => h) (by rfl) hHeld ?_ ?_
      rotate_left 1
      · (intro w hSw; (try dsimp only at hSw); go_simp; try (with_reducible rfl))
      try simp only [Act.put, List.setIfInBounds_toArray, List.set_cons_zero, List.set_cons_succ]
      refine held_take (i := 6) (v := ?_) rfl (by kernel_rfl) (by kernel_rfl) (by kernel_rfl) (fun _ _ _ h => h) (by rfl) hHeld ?_ ?_
      rotate_left 1
      · (intro w hSw; (try dsimp only at hSw); go_simp; try (with_reducible rfl))
      try simp only [Act.put, List.setIfInBounds_toArray, List.set_cons_zero, List.set_cons_succ]
      refine held_one (i := 2) rfl (by kernel_rfl) (by rfl) (fun K hK => ?_)
      go_simp
      (with_reducible refine L0.out.mono ?_)
      rintro e wl ⟨rfl, rfl⟩
      refine hK.out _ _ (c0) (fun hHeld2 => ?_)
      clear hK K hHeld; have hHeld := hHeld2; clear hHeld2
      try simp only [Act.put, List.setIfInBounds_toArray, List.set_cons_zero, List.set_cons_succ]
      refine held_one (i := 7) rfl (by kernel_rfl) (by rfl) (fun K hK => ?_)
      go_simp
      (with_reducible refine HP.out.mono ?_)
      rintro e wp ⟨rfl, FP, SP⟩
      have HFP := Lib.hid FP; have HRP := Lib.hid ((SP B rfl).trans HR.out)
      clear c0
      have c0 := (HALL.out wp HRP.out).2.1
      clear FP SP
      refine hK.out _ _ (c0) (fun hHeld2 => ?_)
      clear hK K hHeld; have hHeld := hHeld2; clear hHeld2
      try simp only [Act.put, List.setIfInBounds_toArray, List.set_cons_zero, List.set_cons_succ]
      refine wpAnyH_done (by kernel_rfl) ?_ _
      go_wp2_with fail
      exact ⟨⟨2, rfl, by omega, HFP, HRP⟩, by simp [intOf]⟩
    · have F0 : QF w wr.drew q rr [⟨pa, a⟩, ⟨pb, b⟩, ⟨pc, []⟩] (fun k => k = B) := HF.out.drew
      have L0 := Lib.hid (line_in wr.drew q rr _ F0.qm 2 2 rfl ⟨pc, []⟩ rfl)
      have HP := Lib.hid (qf_put F0 2 pc [] c rfl 0 A2 cap2 w.heap.size Z HZL.out (HC.out.below F0.be) hZc HM2.out Z 0 c (putP_nil c Z HZL.out (by omega)))
      have c0 : wr.drew.cell? ⟨B, 2, none⟩ = some (.slice A2 Z cap2) := (HALL.out wr HR.out).2.2
      clear F0 HF
      go_wp2_with fail
      refine wp_region_held_drew (S := (fun w' => w'.cell? ⟨B, 2, none⟩ = some (.slice A2 Z cap2))) (by kernel_rfl) (c0) (fun hHeld => ?_)
      refine held_take (i := 0) (v := ?_) rfl (by kernel_rfl) (by kernel_rfl) (by kernel_rfl) (fun _ _ _ h => h) (by rfl) hHeld ?_ ?_
      rotate_left 1
      · (intro w hSw; (try dsimp only at hSw); go_simp; try (with_reducible rfl))
      try simp only [Act.put, List.setIfInBounds_toArray, List.set_cons_zero, List.set_cons_succ]
      refine held_take (i := 1) (v := ?_) rfl (by kernel_rfl) (by kernel_rfl) (by kernel_rfl) (fun _ _ _ h => h) (by rfl) hHeld ?_ ?_
      rotate_left 1
      · (intro w hSw; (try dsimp only at hSw); go_simp; try (with_reducible rfl))
      try simp only [Act.put, List.setIfInBounds_toArray, List.set_cons_zero, List.set_cons_succ]
      refine held_take (i := 3) (v := ?_) rfl (by kernel_rfl) (by kernel_rfl) (by kernel_rfl) (fun _ _ _ h => h) (by rfl) hHeld ?_ ?_
      rotate_left 1
      · (intro w hSw; (try dsimp only at hSw); go_simp; try (with_reducible rfl))
      try simp only [Act.put, List.setIfInBounds_toArray, List.set_cons_zero, List.set_cons_succ]
      refine held_take (i := 4) (v := ?_) rfl (by kernel_rfl) (by kernel_rfl) (by kernel_rfl) (fun _ _ _ h => h) (by rfl) hHeld ?_ ?_
      rotate_left 1
      · (intro w hSw; (try dsimp only at hSw); go_simp; try (with_reducible rfl))
      try simp only [Act.put, List.setIfInBounds_toArray, List.set_cons_zero, List.set_cons_succ]
      refine held_take (i := 5) (v := ?_) rfl (by kernel_rfl) (by kernel_rfl) (by kernel_rfl) (fun _ _ _ h => h) (by rfl) hHeld ?_ ?_
      rotate_left 1
      · (intro w hSw; (try dsimp only at hSw); go_simp; try (with_reducible rfl))
      try simp only [Act.put, List.setIfInBounds_toArray, List.set_cons_zero, List.set_cons_succ]
      refine held_take (i := 6) (v := ?_) rfl (by kernel_rfl) (by kernel_rfl) (by kernel_rfl) (fun _ _ _ h => h) (by rfl) hHeld ?_ ?_
      rotate_left 1
      · (intro w hSw; (try dsimp only at hSw); go_simp; try (with_reducible rfl))
      try simp only [Act.put, List.setIfInBounds_toArray, List.set_cons_zero, List.set_cons_succ]
      refine held_one (i := 2) rfl (by kernel_rfl) (by rfl) (fun K hK => ?_)
      go_simp
      (with_reducible refine L0.out.mono ?_)
      rintro e wl ⟨rfl, rfl⟩
      refine hK.out _ _ (c0) (fun hHeld2 => ?_)
      clear hK K hHeld; have hHeld := hHeld2; clear hHeld2
      try simp only [Act.put, List.setIfInBounds_toArray, List.set_cons_zero, List.set_cons_succ]
      refine held_one (i := 7) rfl (by kernel_rfl) (by rfl) (fun K hK => ?_)
      go_simp
      (with_reducible refine HP.out.mono ?_)
      rintro e wp ⟨rfl, FP, SP⟩
      have HFP := Lib.hid FP; have HRP := Lib.hid ((SP B rfl).trans HR.out)
      clear c0
      have c0 := (HALL.out wp HRP.out).2.2
      clear FP SP
      refine hK.out _ _ (c0) (fun hHeld2 => ?_)
      clear hK K hHeld; have hHeld := hHeld2; clear hHeld2
      try simp only [Act.put, List.setIfInBounds_toArray, List.set_cons_zero, List.set_cons_succ]
      refine wpAnyH_done (by kernel_rfl) ?_ _
      go_wp2_with fail
      exact ⟨⟨3, rfl, by omega, HFP, HRP⟩, by simp [intOf]⟩
    · have HF5 : Hid (QF w wr q rr [⟨pa, a⟩, ⟨pb, b⟩, ⟨pc, c⟩] (fun k => k = B)) := HF
      clear HF
      obtain ⟨xs, hxs⟩ : ∃ xs : List Ln, [⟨pa, a⟩, ⟨pb, b⟩, ⟨pc, c⟩] = xs := ⟨_, rfl⟩
      rw [hxs] at HF5
      have hxl : Hid (xs.length = 3) := by rw [← hxs]; rfl
      obtain ⟨F, hF⟩ : ∃ F, frontN xs = F := ⟨_, rfl⟩
      have hF6 : F ≤ 6 := by
        have := frontN_mem xs ⟨pa, a⟩ (by rw [← hxs]; simp)
        rw [hF] at this
        have h2 : a.length = X := HXL.out
        have h3 : F ≤ a.length := this
        omega
      obtain ⟨p0, hp0⟩ := first_lines xs F hF
      obtain ⟨ls, hls⟩ : ∃ ls, xs.map Ln.l = ls := ⟨_, rfl⟩
      have hls3 : ls = [a, b, c] := by rw [← hls, ← hxs]; rfl
      have hlen : Hid (ls.length = 3) := by rw [hls3]; rfl
      rw [hls] at hp0
      have HP0 := Lib.hid (hp0 (by omega))
      have hp03 : p0 < 3 := by have := HP0.out.1; rw [hlen.out] at this; exact this
      have HPM : Hid (∀ wx, Below w.heap.size w wx → wx.heap[B]? = some (.cells #[.slice A0 X cap0, .slice A1 Y cap1, .slice A2 Z cap2] 23 (0, 0)) → ∀ (j : Nat) (l : List UInt8), ls[j]? = some l → ∃ aj cj, wx.cell? ⟨B, j, none⟩ = some (.slice aj l.length cj) ∧ PM wx aj l l.length cj) := fun wx hb hx j l hj => by
        obtain ⟨q0, q1, q2⟩ := HALL.out wx hx
        have hB := hb.size
        rw [hls3] at hj
        obtain rfl | rfl | rfl | hj3 : j = 0 ∨ j = 1 ∨ j = 2 ∨ 3 ≤ j := by omega
        · obtain rfl := Option.some.inj hj
          refine ⟨A0, cap0, by rw [HXL.out]; exact q0, rfl, by rw [HXL.out]; exact hXc, HM0.out, RB.more (HA.out.below hb) hB⟩
        · obtain rfl := Option.some.inj hj
          refine ⟨A1, cap1, by rw [HYL.out]; exact q1, rfl, by rw [HYL.out]; exact hYc, HM1.out, RB.more (HB.out.below hb) hB⟩
        · obtain rfl := Option.some.inj hj
          refine ⟨A2, cap2, by rw [HZL.out]; exact q2, rfl, by rw [HZL.out]; exact hZc, HM2.out, RB.more (HC.out.below hb) hB⟩
        · rw [List.getElem?_eq_none (by simpa using hj3)] at hj; cases hj
      have HLL : Hid (∀ l ∈ ls, l.length ≤ 6) := fun l hl => by
        rw [hls3] at hl
        rcases List.mem_cons.1 hl with rfl | hl
        · rw [HXL.out]; exact hX6
        rcases List.mem_cons.1 hl with rfl | hl
        · rw [HYL.out]; exact hY6
        · obtain rfl := List.mem_singleton.1 hl
          rw [HZL.out]; exact hZ6
      obtain ⟨w6, hw6⟩ : ∃ w6, wr.alloc (.cells #[.int .i64 1, .int .i64 0, .slice none 0 0] 39) = w6 := ⟨_, rfl⟩
      have b6 : Below wr.heap.size wr w6 := by rw [← hw6]; exact (Below.refl _ _).alloc (Nat.le_refl _) _
      have s6 : w6.heap.size = wr.heap.size + 1 := by rw [← hw6]; simp
      have BX6 : Hid (Box3 w6 wr.heap.size 1 0 none 0 0) := by rw [← hw6]; exact by_box wr 1 0 none 0 0
      have F6 := Lib.hid (HF5.out.belows b6)
      have HR6 : Hid (w6.heap[B]? = some (.cells #[.slice A0 X cap0, .slice A1 Y cap1, .slice A2 Z cap2] 23 (0, 0))) := (b6.block B (Array.getElem?_eq_some_iff.1 HR.out).1).trans HR.out
      have hBl : Hid (B < w6.heap.size) := (Array.getElem?_eq_some_iff.1 HR6.out).1
      have HFr := Lib.hid (front_any w6 q rr xs F6.out.qm (by rw [hxl.out]; omega) (by rw [hxl.out]; omega) F hF)
      obtain ⟨T, hT⟩ : ∃ T : Int, (F : Int) + 3 = T := ⟨_, rfl⟩
      have hAG : ∀ (r : Nat) (z : Int), z = (r : Int) → ∀ wx, Below w6.heap.size w6 wx → Calls Try.prog 13 #[pB q, .agg #[.int .i64 1, .int .i64 0, .slice none 0 0], .int .i64 z, .int .i64 T] wx fun e w' => ∃ A' c', e = .returned (.slice A' 3 c') ∧ RR w' w'.heap.size A' (rowsP kL r (F + 3) ls F p0) ∧ Below wx.heap.size wx w' := fun r z hz wx hx => by
        have := ahead_gen wx q rr xs (F6.out.belows hx).qm 3 hxl.out (by omega) (by omega) F hF 1 0 none 0 0 [] (pm_none wx) z T p0 (by rw [hls]; exact hp0) true (by decide) _ rfl
        rw [hls, aheadG_in (by omega) (by omega) (by omega), show z.toNat = r by omega, show T.toNat = F + 3 by omega, rowsP_len, show F + 3 - F = 3 by omega] at this
        exact this
      have HA1 := Lib.hid (hAG 0 0 rfl)
      have HA2 := Lib.hid (hAG R R rfl)
      have hwr : IntKind.i64.wrap ((F : Int) + 3) = T := by rw [IntKind.wrap_i64]; omega
      have S6 := Lib.hid s6
      have HW6 := Lib.hid hw6
      rw [← hw6] at HFr
      clear hAG hT s6 hw6 b6 hF hp0 hls hls3 hxs HF5 HR HA HB HC HM0 HM1 HM2 HXL HYL HZL hXc hYc hZc hX6 hY6 hZ6 HALL HB2 hp
      go_wp2_with (go_at_call 18; with_reducible refine HFr.out.mono ?_; rintro e w7 ⟨rfl, rfl⟩)
      rw [HW6.out]
      have FX : Hid (∀ wx, Below w6.heap.size w6 wx → wx.cell? ⟨wr.heap.size, 0, none⟩ = some (.int .i64 1) ∧ wx.cell? ⟨wr.heap.size, 1, none⟩ = some (.int .i64 0) ∧ wx.cell? ⟨wr.heap.size, 2, none⟩ = some (.slice none 0 0)) := fun wx hx => BX6.out wx (by rw [← S6.out]; exact hx)
      have hbc : Below w6.heap.size w6 w6.drew := (Below.refl _ _).drew
      obtain ⟨c0, c1, c2⟩ := FX.out _ hbc
      clear BX6 HFr
      refine wp_region_held_drew (S := (fun w' => w'.cell? ⟨wr.heap.size, 0, none⟩ = some (.int .i64 1) ∧ w'.cell? ⟨wr.heap.size, 1, none⟩ = some (.int .i64 0) ∧ w'.cell? ⟨wr.heap.size, 2, none⟩ = some (.slice none 0 0))) (by kernel_rfl) (⟨c0, c1, c2⟩) (fun hHeld => ?_)
      refine held_take (i := 0) (v := ?_) rfl (by kernel_rfl) (by kernel_rfl) (by kernel_rfl) (fun _ _ _ h => h) (by rfl) hHeld ?_ ?_
      rotate_left 1
      · (intro w hSw; (try dsimp only at hSw); go_simp; try (with_reducible rfl))
      try simp only [Act.put, List.setIfInBounds_toArray, List.set_cons_zero, List.set_cons_succ]
      refine held_take (i := 1) (v := ?_) rfl (by kernel_rfl) (by kernel_rfl) (by kernel_rfl) (fun _ _ _ h => h) (by rfl) hHeld ?_ ?_
      rotate_left 1
      · (intro w hSw; (try dsimp only at hSw); go_simp; try (with_reducible rfl))
      try simp only [Act.put, List.setIfInBounds_toArray, List.set_cons_zero, List.set_cons_succ]
      refine held_take (i := 2) (v := ?_) rfl (by kernel_rfl) (by kernel_rfl) (by kernel_rfl) (fun _ _ _ h => h) (by rfl) hHeld ?_ ?_
      rotate_left 1
      · (intro w hSw; (try dsimp only at hSw); go_simp; try (with_reducible rfl))
      try simp only [Act.put, List.setIfInBounds_toArray, List.set_cons_zero, List.set_cons_succ]
      refine held_take (i := 3) (v := ?_) rfl (by kernel_rfl) (by kernel_rfl) (by kernel_rfl) (fun _ _ _ h => h) (by rfl) hHeld ?_ ?_
      rotate_left 1
      · (intro w hSw; (try dsimp only at hSw); go_simp; try (with_reducible rfl))
      try simp only [Act.put, List.setIfInBounds_toArray, List.set_cons_zero, List.set_cons_succ]
      refine held_take (i := 5) (v := ?_) rfl (by kernel_rfl) (by kernel_rfl) (by kernel_rfl) (fun _ _ _ h => h) (by rfl) hHeld ?_ ?_
      rotate_left 1
      · (intro w hSw; (try dsimp only at hSw); go_simp; try (with_reducible rfl))
      try simp only [Act.put, List.setIfInBounds_toArray, List.set_cons_zero, List.set_cons_succ]
      refine held_take (i := 6) (v := ?_) rfl (by kernel_rfl) (by kernel_rfl) (by kernel_rfl) (fun _ _ _ h => h) (by rfl) hHeld ?_ ?_
      rotate_left 1
      · (intro w hSw; (try dsimp only at hSw); go_simp; try (with_reducible rfl))
      try simp only [Act.put, List.setIfInBounds_toArray, List.set_cons_zero, List.set_cons_succ]
      refine held_take (i := 7) (v := ?_) rfl (by kernel_rfl) (by kernel_rfl) (by kernel_rfl) (fun _ _ _ h => h) (by rfl) hHeld ?_ ?_
      rotate_left 1
      · (intro w hSw; (try dsimp only at hSw); go_simp; try (with_reducible rfl))
      try simp only [Act.put, List.setIfInBounds_toArray, List.set_cons_zero, List.set_cons_succ]
      refine held_take (i := 8) (v := ?_) rfl (by kernel_rfl) (by kernel_rfl) (by kernel_rfl) (fun _ _ _ h => h) (by rfl) hHeld ?_ ?_
      rotate_left 1
      · (intro w hSw; (try dsimp only at hSw); go_simp; try (with_reducible rfl))
      try simp only [Act.put, List.setIfInBounds_toArray, List.set_cons_zero, List.set_cons_succ]
      refine held_take (i := 9) (v := ?_) rfl (by kernel_rfl) (by kernel_rfl) (by kernel_rfl) (fun _ _ _ h => h) (by rfl) hHeld ?_ ?_
      rotate_left 1
      · (intro w hSw; (try dsimp only at hSw); go_simp; try (with_reducible rfl))
      try simp only [Act.put, List.setIfInBounds_toArray, List.set_cons_zero, List.set_cons_succ]
      refine held_one (i := 4) rfl (by kernel_rfl) (by rfl) (fun K hK => ?_)
      go_simp
      (with_reducible refine (HA1.out _ hbc).mono ?_)
      rintro e wa ⟨A3, k3, rfl, rr3, b5⟩
      have hbw3 := b5
      replace hbc := hbc.trans (b5.mono hbc.size)
      clear c0 c1 c2 b5
      obtain ⟨c0, c1, c2⟩ := FX.out _ hbc
      refine hK.out _ _ (⟨c0, c1, c2⟩) (fun hHeld2 => ?_)
      clear hK K hHeld; have hHeld := hHeld2; clear hHeld2
      try simp only [Act.put, List.setIfInBounds_toArray, List.set_cons_zero, List.set_cons_succ]
      refine held_one (i := 10) rfl (by kernel_rfl) (by rfl) (fun K hK => ?_)
      go_simp
      (with_reducible refine (HA2.out _ hbc).mono ?_)
      rintro e wb ⟨A4, k4, rfl, rr4, b5⟩
      have hbw4 := b5
      replace hbc := hbc.trans (b5.mono hbc.size)
      clear c0 c1 c2 b5
      obtain ⟨c0, c1, c2⟩ := FX.out _ hbc
      refine hK.out _ _ (⟨c0, c1, c2⟩) (fun hHeld2 => ?_)
      clear hK K hHeld; have hHeld := hHeld2; clear hHeld2
      try simp only [Act.put, List.setIfInBounds_toArray, List.set_cons_zero, List.set_cons_succ]
      refine held_take (i := 11) (v := ?_) rfl (by kernel_rfl) (by kernel_rfl) (by kernel_rfl) (fun _ _ _ h => h) (by rfl) hHeld ?_ ?_
      rotate_left 1
      · (intro w hSw; (try dsimp only at hSw); go_simp; try (with_reducible rfl))
      try simp only [Act.put, List.setIfInBounds_toArray, List.set_cons_zero, List.set_cons_succ]
      refine held_take (i := 12) (v := ?_) rfl (by kernel_rfl) (by kernel_rfl) (by kernel_rfl) (fun _ _ _ h => h) (by rfl) hHeld ?_ ?_
      rotate_left 1
      · (intro w hSw; (try dsimp only at hSw); go_simp; try (with_reducible rfl))
      try simp only [Act.put, List.setIfInBounds_toArray, List.set_cons_zero, List.set_cons_succ]
      refine wpAnyH_done (by kernel_rfl) ?_ _
      have R3 : Hid (RR wb wb.heap.size A3 (rowsP kL 0 (F + 3) ls F p0)) := rr3.then_ (Nat.le_refl _) hbw4
      have R4 := Lib.hid rr4
      have HBb := Lib.hid hbc
      have HBw : Hid (Below w.heap.size w wb) := F6.out.be.trans (hbc.mono F6.out.be.size)
      have HRb : Hid (wb.heap[B]? = some (.cells #[.slice A0 X cap0, .slice A1 Y cap1, .slice A2 Z cap2] 23 (0, 0))) := (hbc.block B hBl.out).trans HR6.out
      obtain ⟨wB, rfl⟩ : ∃ wB, wB = wr := ⟨wr, rfl⟩
      clear rr3 rr4 hbw3 hbw4 hbc HA1 HA2 c0 c1 c2 F6 HR6 hwr
      go_wp2_with fail
      go_loopw [17] (fun v wr => ∃ j : Nat, v = .int .i64 (j : Int) ∧ j ≤ p0 ∧ wr = wb) (fun v _ => p0 - (intOf v).toNat)
      case atStart => exact ⟨0, rfl, by omega, rfl⟩
      case round =>
        obtain ⟨j, rfl, hj, rfl⟩ := hrel
        obtain ⟨l, hl⟩ : ∃ l, ls[j]? = some l := ⟨_, List.getElem?_eq_getElem (by rw [hlen.out]; omega)⟩
        obtain ⟨aj, cj, cc, hpm⟩ := HPM.out _ HBw.out HRb.out j l hl
        obtain ⟨L, hL⟩ : ∃ L, l.length = L := ⟨_, rfl⟩
        rw [hL] at cc
        have hLj : Hid ((ls.getD j []).length = L) := by show _ = _; rw [List.getD, hl]; exact hL
        have hL6 : L ≤ 6 := by rw [← hL]; exact HLL.out l (List.mem_of_getElem? hl)
        have hj3 : (j : Int) < 3 := by omega
        have hj3' : ¬ (3 : Int) ≤ (j : Int) := by omega
        have hdj : decide ((3 : Int) ≤ (j : Int)) = false := decide_eq_false hj3'
        by_cases hlt : j < p0
        · have hne : ((L : Int) != (F : Int)) = true := by
            have := HP0.out.2.2 j hlt
            rw [hLj.out] at this
            simp; omega
          clear hl hL hpm
          go_wp2_with fail
          exact ⟨⟨j + 1, by go_num, by omega, trivial⟩, by simp [intOf]; omega⟩
        · obtain rfl : j = p0 := by omega
          have hLF : L = F := by
            have := HP0.out.2.1
            rw [hLj.out] at this
            exact this
          have hne : ((L : Int) != (F : Int)) = false := by rw [hLF]; simp
          have hx0 : ls.getD j [] = l := by rw [List.getD, hl]; rfl
          have HX0 := Lib.hid hx0
          have HLn := Lib.hid hL
          have HL0 := Lib.hid hl
          clear hl hL hpm hx0 hLF
          go_wp2_with fail
          clear hne hdj hj3'
          obtain ⟨wq, rfl⟩ : ∃ wq, wq = wr := ⟨wr, rfl⟩
          go_loopw [18, 19, 20] (fun v0 v1 v2 wr2 => ∃ i : Nat, v0 = .int .i64 (i : Int) ∧ i ≤ 3 ∧ Hid (Below wq.heap.size wq wr2)) (fun v0 _ _ _ => 3 - (intOf v0).toNat)
          case atStart => exact ⟨0, rfl, by omega, Below.refl _ _⟩
          case round =>
            obtain ⟨i, rfl, hi, HW2⟩ := hrel
            by_cases hlt2 : i < 3
            · obtain ⟨g1, a1, k1, e1, x1, y1⟩ := (R3.out.then_ (Nat.le_refl _) HW2.out).at i _ (rowsP_get kL 0 (F + 3) ls F j i (by omega)) 3 ((rowP_len ..).trans hlen.out)
              obtain ⟨g2, a2, k2, e2, x2, y2⟩ := (R4.out.then_ (Nat.le_refl _) HW2.out).at i _ (rowsP_get kL R (F + 3) ls F j i (by omega)) 3 ((rowP_len ..).trans hlen.out)
              subst e1 e2
              have hi3 : (i : Int) < 3 := by omega
              clear y1 y2
              go_wp2_with fail
              clear x1 x2
              obtain ⟨wi, rfl⟩ : ∃ wi, wi = wr := ⟨wr, rfl⟩
              go_loopw [19, 20] (fun v1 v2 wr2 => ∃ p : Nat, v1 = .int .i64 (p : Int) ∧ p ≤ 3 ∧ Hid (Below wq.heap.size wq wr2)) (fun v1 _ _ => 3 - (intOf v1).toNat)
              case atStart => exact ⟨0, rfl, by omega, HW2⟩
              case round =>
                obtain ⟨p, rfl, hp, HW3⟩ := hrel
                by_cases hlt3 : p < 3
                · obtain ⟨g1', a1', k1', e1, x1, y1⟩ := (R3.out.then_ (Nat.le_refl _) HW3.out).at i _ (rowsP_get kL 0 (F + 3) ls F j i (by omega)) 3 ((rowP_len ..).trans hlen.out)
                  obtain ⟨g2', a2', k2', e2, x2, y2⟩ := (R4.out.then_ (Nat.le_refl _) HW3.out).at i _ (rowsP_get kL R (F + 3) ls F j i (by omega)) 3 ((rowP_len ..).trans hlen.out)
                  obtain rfl : g1' = g1 := by injection e1 with e; injection e with e; exact e.symm
                  obtain rfl : g2' = g2 := by injection e2 with e; injection e with e; exact e.symm
                  obtain ⟨b1, o1, rfl, -, -⟩ := y1 (by rw [rowP_len, hlen.out]; omega)
                  obtain ⟨b2, o2, rfl, -, -⟩ := y2 (by rw [rowP_len, hlen.out]; omega)
                  have z1 := y1.cell_ p (by rw [rowP_len, hlen.out]; exact hlt3)
                  have z2 := y2.cell_ p (by rw [rowP_len, hlen.out]; exact hlt3)
                  rw [List.getD, rowP_get _ _ _ _ _ _ _ _ (by rw [hlen.out]; exact hlt3), Option.getD_some] at z1 z2
                  have hp3 : (p : Int) < 3 := by omega
                  have hp2 : Hid (p + 1 ≤ 3) := hlt3
                  have HWd : Hid (Below wq.heap.size wq wr.drew) := HW3.out.drew
                  by_cases hpj : p = j
                  · subst hpj
                    have hne : rkA kL 0 l ≠ rkA kL R l := rkA_ne kL R l (by omega) (by omega)
                    rw [cel_first HP0.out 0 i hlt2, HX0.out] at z1
                    rw [cel_first HP0.out R i hlt2, HX0.out] at z2
                    obtain ⟨cx, hcx⟩ : ∃ cx : Int, ((rkA kL 0 l).toNat : Int) = cx := ⟨_, rfl⟩
                    obtain ⟨cy, hcy⟩ : ∃ cy : Int, ((rkA kL R l).toNat : Int) = cy := ⟨_, rfl⟩
                    have hxy : ((cx : Int) == (cy : Int)) = false := by
                      have : cx ≠ cy := fun e => hne (UInt8.toNat_inj.1 (by omega))
                      simpa using this
                    rw [hcx] at z1
                    rw [hcy] at z2
                    have hpp : ((p : Int) != (p : Int)) = false := by simp
                    clear y1 y2 e1 e2 hcx hcy hne
                    go_wp2_with fail
                    go_big_region
                    all_goals go_wp2_with fail
                    all_goals exact ⟨⟨p + 1, by go_num, hp2.out, HWd⟩, by simp [intOf]; omega⟩
                  · rw [cel_other kL R 0 (F + 3) ls F j i p hpj] at z2
                    obtain ⟨cx, hcx⟩ : ∃ cx : Int, ((celP kL 0 (F + 3) ls F j i p).toNat : Int) = cx := ⟨_, rfl⟩
                    rw [hcx] at z1 z2
                    have hxy : ((cx : Int) == (cx : Int)) = true := by simp
                    have hpp : ((p : Int) != (j : Int)) = true := by simp; omega
                    clear y1 y2 e1 e2 hcx
                    go_wp2_with fail
                    go_big_region
                    all_goals go_wp2_with fail
                    all_goals exact ⟨⟨p + 1, by go_num, hp2.out, HWd⟩, by simp [intOf]; omega⟩
                · have hp3 : ¬ (p : Int) < 3 := by omega
                  have hi2 : Hid (i + 1 ≤ 3) := hlt2
                  go_wp2_with fail
                  exact ⟨⟨i + 1, by go_num, hi2.out, HW3⟩, by simp [intOf]; omega⟩
            · have hi3 : ¬ (i : Int) < 3 := by omega
              have hB6 : Hid (Below w6.heap.size w6 wr.drew) := (HBb.out.trans (HW2.out.mono HBb.out.size)).drew
              have hBw : Hid (Below w.heap.size w wr.drew) := (HBw.out.trans (HW2.out.mono HBw.out.size)).drew
              have hRB : Hid (wr.drew.heap[B]? = some (.cells #[.slice A0 X cap0, .slice A1 Y cap1, .slice A2 Z cap2] 23 (0, 0))) := (HW2.out.block B (Array.getElem?_eq_some_iff.1 HRb.out).1).trans HRb.out
              obtain ⟨aj2, cj2, cB, hpm2⟩ := HPM.out _ hBw.out hRB.out j l HL0.out
              rw [HLn.out] at cB hpm2
              obtain ⟨S, hS⟩ : ∃ S, (rk (sc kL l)).take 256 = S := ⟨_, rfl⟩
              have HRk := Lib.hid (rank_at kL 1 0 rfl rfl none 0 0 aj2 l L cj2 256 wr.drew (km_nil _ kL (.inl ⟨rfl, rfl, rfl⟩) rfl) hpm2 (by omega) 256 (by decide) S hS)
              have HSl : Hid (S.length = 256) := by show _ = _; rw [← hS, List.length_take, rk_len]; rfl
              have HSr : Hid (S.getD R 0 = rkA kL R l) := by
                show _ = _
                rw [← hS]
                unfold rkA
                rw [show R % 256 = R by omega]
                simp only [List.getD, List.getElem?_take]
                rw [if_pos (by omega)]
              obtain ⟨c0, c1, c2⟩ := FX.out _ hB6.out
              have hBB : Hid (B < wr.drew.heap.size) := (Array.getElem?_eq_some_iff.1 hRB.out).1
              have hbc : Below w6.heap.size w6 wr.drew := hB6.out
              have hR256 : (R : Int) < 256 := by omega
              have hj30 : (0 : Int) ≤ (j : Int) := by omega
              clear hS hpm2
              go_wp2_with fail
              refine wp_region_held_drew (S := (fun w' => (w'.cell? ⟨wB.heap.size, 0, none⟩ = some (.int .i64 1) ∧ w'.cell? ⟨wB.heap.size, 1, none⟩ = some (.int .i64 0) ∧ w'.cell? ⟨wB.heap.size, 2, none⟩ = some (.slice none 0 0)) ∧ w'.cell? ⟨B, j, none⟩ = some (.slice aj2 L cj2))) (by kernel_rfl) (⟨⟨c0, c1, c2⟩, cB⟩) (fun hHeld => ?_)
              refine held_take (i := 0) (v := ?_) rfl (by kernel_rfl) (by kernel_rfl) (by kernel_rfl) (fun _ _ _ h => h) (by rfl) hHeld ?_ ?_
              rotate_left 1
              · (intro w hSw; (try dsimp only at hSw); go_simp; try (with_reducible rfl))
              try simp only [Act.put, List.setIfInBounds_toArray, List.set_cons_zero, List.set_cons_succ]
              refine held_take (i := 1) (v := ?_) rfl (by kernel_rfl) (by kernel_rfl) (by kernel_rfl) (fun _ _ _ h => h) (by rfl) hHeld ?_ ?_
              rotate_left 1
              · (intro w hSw; (try dsimp only at hSw); go_simp; try (with_reducible rfl))
              try simp only [Act.put, List.setIfInBounds_toArray, List.set_cons_zero, List.set_cons_succ]
              refine held_take (i := 2) (v := ?_) rfl (by kernel_rfl) (by kernel_rfl) (by kernel_rfl) (fun _ _ _ h => h) (by rfl) hHeld ?_ ?_
              rotate_left 1
              · (intro w hSw; (try dsimp only at hSw); go_simp; try (with_reducible rfl))
              try simp only [Act.put, List.setIfInBounds_toArray, List.set_cons_zero, List.set_cons_succ]
              refine held_take (i := 3) (v := ?_) rfl (by kernel_rfl) (by kernel_rfl) (by kernel_rfl) (fun _ _ _ h => h) (by rfl) hHeld ?_ ?_
              rotate_left 1
              · (intro w hSw; (try dsimp only at hSw); go_simp; try (with_reducible rfl))
              try simp only [Act.put, List.setIfInBounds_toArray, List.set_cons_zero, List.set_cons_succ]
              refine held_take (i := 4) (v := ?_) rfl (by kernel_rfl) (by kernel_rfl) (by kernel_rfl) (fun _ _ _ h => h) (by rfl) hHeld ?_ ?_
              rotate_left 1
              · (intro w hSw; (try dsimp only at hSw); go_simp; try (with_reducible rfl))
              try simp only [Act.put, List.setIfInBounds_toArray, List.set_cons_zero, List.set_cons_succ]
              refine held_one (i := 5) rfl (by kernel_rfl) (by rfl) (fun K hK => ?_)
              go_simp
              (with_reducible refine HRk.out.mono ?_)
              rintro e wk ⟨⟨gk, rfl, -, rk1⟩, b5⟩
              have hbk := b5
              replace hbc := hbc.trans (b5.mono hbc.size)
              replace cB := (b5.cell (p := ⟨B, j, none⟩) hBB.out).trans cB
              clear c0 c1 c2 b5
              obtain ⟨c0, c1, c2⟩ := FX.out _ hbc
              refine hK.out _ _ (⟨⟨c0, c1, c2⟩, cB⟩) (fun hHeld2 => ?_)
              clear hK K hHeld; have hHeld := hHeld2; clear hHeld2
              try simp only [Act.put, List.setIfInBounds_toArray, List.set_cons_zero, List.set_cons_succ]
              refine held_take (i := 6) (v := ?_) rfl (by kernel_rfl) (by kernel_rfl) (by kernel_rfl) (fun _ _ _ h => h) (by rfl) hHeld ?_ ?_
              rotate_left 1
              · (intro w hSw; (try dsimp only at hSw); go_simp; try (with_reducible rfl))
              try simp only [Act.put, List.setIfInBounds_toArray, List.set_cons_zero, List.set_cons_succ]
              refine wpAnyH_done (by kernel_rfl) ?_ _
              have HWk : Hid (Below wq.heap.size wq wk) := (HW2.out.drew).trans (hbk.mono HW2.out.drew.size)
              obtain ⟨g2, a2, k2, e2, x2, y2⟩ := (R4.out.then_ (Nat.le_refl _) HWk.out).at 0 _ (rowsP_get kL R (F + 3) ls F j 0 (by omega)) 3 ((rowP_len ..).trans hlen.out)
              subst e2
              obtain ⟨b2, o2, rfl, -, -⟩ := y2 (by rw [rowP_len, hlen.out]; omega)
              have z2 := y2.cell_ j (by rw [rowP_len, hlen.out]; omega)
              rw [List.getD, rowP_get _ _ _ _ _ _ _ _ (by rw [hlen.out]; omega), Option.getD_some, cel_first HP0.out R 0 (by omega), HX0.out] at z2
              have z3 := rk1.cell_ R (by rw [HSl.out]; omega)
              rw [HSr.out, Nat.zero_add] at z3
              obtain ⟨cy, hcy⟩ : ∃ cy : Int, ((rkA kL R l).toNat : Int) = cy := ⟨_, rfl⟩
              rw [hcy] at z2 z3
              have hxy : ((cy : Int) == (cy : Int)) = true := by simp
              have HBe : Hid (Below w.heap.size w wk.drew) := (hBw.out.trans (hbk.mono hBw.out.size)).drew
              have hj3z : (j : Int) < 3 := by omega
              clear hcy y2 rk1 hbk hbc c0 c1 c2 cB
              go_wp2_with fail
              go_big_region
              all_goals go_wp2_with fail
              all_goals go_ret
              all_goals exact ⟨rfl, HBe.out⟩
end Go.Proofs.Ytomiligjcpmnjaa
