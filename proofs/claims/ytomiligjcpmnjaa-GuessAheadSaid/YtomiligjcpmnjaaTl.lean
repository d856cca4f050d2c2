/- WALK of the law GuessMore. -/
import Derived.Test.YtomiligjcpmnjaaTk
import Derived.Test.YtomiligjcpmnjaaKs
namespace Go.Proofs.Ytomiligjcpmnjaa
set_option maxRecDepth 100000
open Go.RowKit Go.Maps
set_option linter.unusedVariables false
set_option linter.unusedSimpArgs false

theorem putP_nil (a : List UInt8) (X : Nat) (h : a.length = X) (hX : X ≤ 1000) : putP [] 0 a = ((X : Int), 0, a) := by
  unfold putP
  subst h
  rw [if_neg (by omega), if_neg (by simp)]
  have e1 : min (1000 - ([] : List UInt8).length) (a.length - min (([] : List UInt8).length - (0 : Int).toNat) a.length) = a.length := by simp; omega
  have e2 : min (([] : List UInt8).length - (0 : Int).toNat) a.length = 0 := by simp
  have e3 : min (1000 - ([] : List UInt8).length) a.length = a.length := by simp; omega
  simp only [e1, e2, e3, List.drop_zero, List.take_length, List.nil_append, Nat.sub_zero, Nat.lt_irrefl, if_false]
/-- a queue's front and its first, as the document has them -/
theorem front_lines (xs : List Ln) : frontN xs = frP (xs.map Ln.l) := by unfold frontN frP; rw [List.foldl_map]
theorem first_lines (xs : List Ln) (F : Nat) (hF : frontN xs = F) : ∃ p0, F < 1000 → First (xs.map Ln.l) F p0 := by
  by_cases h : F < 1000
  · rw [front_lines] at hF
    obtain ⟨p0, h0⟩ := first_ex (xs.map Ln.l) (by rw [hF]; exact h)
    rw [hF] at h0
    exact ⟨p0, fun _ => h0⟩
  · exact ⟨0, fun x => absurd x h⟩
theorem aheadG_in {b : Kd} {r t : Int} {ls : List (List UInt8)} {F p0 : Nat} (h1 : 0 ≤ r) (h2 : (F : Int) < t) (h3 : t ≤ 1000) : aheadG true b r t ls F p0 = rowsP b r.toNat t.toNat ls F p0 := by
  unfold aheadG; rw [if_pos ⟨h1, h2, h3, rfl⟩]
/-- how many rows there are -/
theorem aheadG_len {b : Kd} {r t : Int} {ls : List (List UInt8)} {F p0 T d : Nat} (h1 : 0 ≤ r) (ht : t = (T : Int)) (hT : T = F + d) (h3 : T ≤ 1000) : (aheadG true b r t ls F p0).length = d := by
  by_cases h : (F : Int) < t
  · rw [aheadG_in h1 h (by omega), rowsP_len]; omega
  · unfold aheadG; rw [if_neg (fun x => h x.2.1)]; simp; omega
set_option maxHeartbeats 4000000 in
theorem more_law (A0 : Option Addr) (l0 : List UInt8) (cap0 : Nat) (A1 : Option Addr) (l1 : List UInt8) (cap1 : Nat) (r le mo : Int) (w : World) (h0 : RB w w.heap.size A0 l0) (k0 : l0.length ≤ cap0) (m0 : cap0 ≤ maxLen) (h1 : RB w w.heap.size A1 l1) (k1 : l1.length ≤ cap1) (m1 : cap1 ≤ maxLen) :
    Calls Try.prog 6 #[.slice A0 l0.length cap0, .slice A1 l1.length cap1, .int .i64 r, .int .i64 le, .int .i64 mo] w fun e w' => e = .returned (.bool true) ∧ Below w.heap.size w w' := by
  have HG := Lib.hid (begun19_any w)
  obtain ⟨a, ha⟩ : ∃ p, l0.take 20 = p := ⟨_, rfl⟩
  obtain ⟨X, hX⟩ : ∃ L, a.length = L := ⟨_, rfl⟩
  obtain ⟨hX20, hXc⟩ : X ≤ 20 ∧ X ≤ cap0 := by rw [← ha, List.length_take] at hX; omega
  obtain ⟨b, hb⟩ : ∃ p, l1.take 20 = p := ⟨_, rfl⟩
  obtain ⟨Y, hY⟩ : ∃ L, b.length = L := ⟨_, rfl⟩
  obtain ⟨hY20, hYc⟩ : Y ≤ 20 ∧ Y ≤ cap1 := by rw [← hb, List.length_take] at hY; omega
  have HS0 := Lib.hid (fun W => short_n A0 l0 l0.length cap0 20 W rfl (by omega) k0 m0 X (by rw [ha, hX]) 20 rfl)
  have HS1 := Lib.hid (fun W => short_n A1 l1 l1.length cap1 20 W rfl (by omega) k1 m1 Y (by rw [hb, hY]) 20 rfl)
  have HA : Hid (RB w w.heap.size A0 a) := by rw [← ha]; exact h0.take 20
  have HB : Hid (RB w w.heap.size A1 b) := by rw [← hb]; exact h1.take 20
  have HM0 := Lib.hid m0; have HM1 := Lib.hid m1
  obtain ⟨n00, hn00⟩ : ∃ n00, l0.length = n00 := ⟨_, rfl⟩
  obtain ⟨n01, hn01⟩ : ∃ n01, l1.length = n01 := ⟨_, rfl⟩
  rw [hn00] at HS0 ⊢
  rw [hn01] at HS1 ⊢
  have HXL := Lib.hid hX; have HYL := Lib.hid hY
  clear h0 k0 m0 h1 k1 m1 ha hb hn00 hn01 hX hY
  go_enter Try.func6, Try.ntmps6
  go_wp2_with fail
  (with_reducible refine HG.out.mono ?_)
  rintro e w2 ⟨rfl, hb2⟩
  have HB2 := Lib.hid hb2
  clear hb2 HG
  go_wp2_with fail
  (with_reducible refine (HS0.out _).mono ?_)
  rintro e w3 ⟨rfl, rfl⟩
  go_wp2_with fail
  (with_reducible refine (HS1.out _).mono ?_)
  rintro e w3 ⟨rfl, rfl⟩
  clear HS0 HS1
  by_cases g1 : r < 0
  · go_wp2_with fail
    go_ret
    exact ⟨rfl, HB2.out⟩
  by_cases g2 : 300 < r
  · go_wp2_with fail
    go_ret
    exact ⟨rfl, HB2.out⟩
  by_cases g3 : le < 0
  · go_wp2_with fail
    go_ret
    exact ⟨rfl, HB2.out⟩
  by_cases g4 : mo < le
  · go_wp2_with fail
    go_ret
    exact ⟨rfl, HB2.out⟩
  by_cases g5 : 12 < mo
  · go_wp2_with fail
    go_ret
    exact ⟨rfl, HB2.out⟩
  obtain ⟨R, rfl⟩ : ∃ R : Nat, r = R := ⟨r.toNat, by omega⟩
  obtain ⟨d1, rfl⟩ : ∃ R : Nat, le = R := ⟨le.toNat, by omega⟩
  obtain ⟨d2, rfl⟩ : ∃ R : Nat, mo = R := ⟨mo.toNat, by omega⟩
  have hd12 : d1 ≤ d2 := by omega
  have hd2 : d2 ≤ 12 := by omega
  have HN := Lib.hid (qf_new w w2 HB2.out noB (no_noB w w2) 2 0 2 0 (by omega) (by omega))
  go_wp2_with fail
  (with_reducible refine HN.out.mono ?_)
  rintro e w3 ⟨q, rr, xs, rfl, F3, hmp, -⟩
  obtain ⟨pa, pb, rfl⟩ := two_nil hmp
  have L0 := Lib.hid (line_in w3 q rr _ F3.qm 0 0 rfl ⟨pa, []⟩ rfl)
  have HP := Lib.hid (qf_put F3 0 pa [] a rfl 0 A0 cap0 w.heap.size X HXL.out (HA.out.below F3.be) hXc HM0.out X 0 a (putP_nil a X HXL.out (by omega)))
  clear HN hmp F3
  go_wp2_with (go_at_call 20; with_reducible refine L0.out.mono ?_; rintro e w4 ⟨rfl, rfl⟩)
  (with_reducible refine HP.out.mono ?_)
  rintro e w4 ⟨rfl, F4, -⟩
  have L1 := Lib.hid (line_in w4 q rr _ F4.qm 1 1 rfl ⟨pb, []⟩ rfl)
  have HP2 := Lib.hid (qf_put F4 1 pb [] b rfl 0 A1 cap1 w.heap.size Y HYL.out (HB.out.below F4.be) hYc HM1.out Y 0 b (putP_nil b Y HYL.out (by omega)))
  clear HP F4 L0
  go_wp2_with (go_at_call 20; with_reducible refine L1.out.mono ?_; rintro e w5 ⟨rfl, rfl⟩)
  (with_reducible refine HP2.out.mono ?_)
  rintro e w5 ⟨rfl, F5, -⟩
  obtain ⟨xs, hxs⟩ : ∃ xs, ([⟨pa, []⟩, ⟨pb, []⟩].set 0 ⟨pa, a⟩).set 1 ⟨pb, b⟩ = (xs : List Ln) := ⟨_, rfl⟩
  rw [hxs] at F5
  have hx2 : xs = [⟨pa, a⟩, ⟨pb, b⟩] := hxs.symm
  have hxl : Hid (xs.length = 2) := by rw [hx2]; rfl
  obtain ⟨F, hF⟩ : ∃ F, frontN xs = F := ⟨_, rfl⟩
  have hF20 : F ≤ 20 := by
    have := frontN_mem xs ⟨pa, a⟩ (by rw [hx2]; simp)
    rw [hF] at this
    have h2 : a.length = X := HXL.out
    have h3 : F ≤ a.length := this
    omega
  obtain ⟨p0, hp0⟩ := first_lines xs F hF
  obtain ⟨ls, hls⟩ : ∃ ls, xs.map Ln.l = ls := ⟨_, rfl⟩
  rw [hls] at hp0
  obtain ⟨w6, hw6⟩ : ∃ w6, w5.alloc (.cells #[.int .i64 2, .int .i64 1, .slice none 0 0] 39) = w6 := ⟨_, rfl⟩
  have b6 : Below w5.heap.size w5 w6 := by rw [← hw6]; exact (Below.refl _ _).alloc (Nat.le_refl _) _
  have s6 : w6.heap.size = w5.heap.size + 1 := by rw [← hw6]; simp
  have BX6 : Hid (Box3 w6 w5.heap.size 2 1 none 0 0) := by rw [← hw6]; exact by_box w5 2 1 none 0 0
  have F6 := Lib.hid (F5.belows b6)
  have HFr := Lib.hid (front_any w6 q rr xs F6.out.qm (by rw [hxl.out]; omega) (by rw [hxl.out]; omega) F hF)
  have hAG : ∀ (d : Nat) (T : Int), (T : Int) = ((F + d : Nat) : Int) → F + d ≤ 1000 → ∀ wx, Below w6.heap.size w6 wx → Calls Try.prog 13 #[pB q, .agg #[.int .i64 2, .int .i64 1, .slice none 0 0], .int .i64 (R : Int), .int .i64 T] wx fun e w' => ∃ A' c', e = .returned (.slice A' d c') ∧ RR w' w'.heap.size A' (aheadG true ⟨2, 1, []⟩ R T ls F p0) ∧ Below wx.heap.size wx w' := fun d T hT h1000 wx hx => by
    have := ahead_gen wx q rr xs (F6.out.belows hx).qm 2 hxl.out (by omega) (by omega) F hF 2 1 none 0 0 [] (pm_none wx) R T p0 (by rw [hls]; exact hp0) true (by decide) _ rfl
    rw [hls] at this
    rw [aheadG_len (d := d) (T := F + d) (by omega) hT rfl h1000] at this
    exact this
  obtain ⟨T1, hT1⟩ : ∃ T1 : Int, (F : Int) + (d1 : Int) = T1 := ⟨_, rfl⟩
  obtain ⟨T2, hT2⟩ : ∃ T2 : Int, (F : Int) + (d2 : Int) = T2 := ⟨_, rfl⟩
  have HA1 := Lib.hid (hAG d1 T1 (by omega) (by omega))
  have HA2 := Lib.hid (hAG d2 T2 (by omega) (by omega))
  have hw1 : IntKind.i64.wrap ((F : Int) + (d1 : Int)) = T1 := by rw [IntKind.wrap_i64]; omega
  have hw2 : IntKind.i64.wrap ((F : Int) + (d2 : Int)) = T2 := by rw [IntKind.wrap_i64]; omega
  obtain ⟨R1, hR1⟩ : ∃ R1, aheadG true ⟨2, 1, []⟩ R T1 ls F p0 = R1 := ⟨_, rfl⟩
  obtain ⟨R2, hR2⟩ : ∃ R2, aheadG true ⟨2, 1, []⟩ R T2 ls F p0 = R2 := ⟨_, rfl⟩
  have HR : Hid (∀ i, i < d1 → ∃ s : List UInt8, R1[i]? = some s ∧ R2[i]? = some s) := fun i hi => by
    have e1 := aheadG_in (b := ⟨2, 1, []⟩) (r := (R : Int)) (t := T1) (ls := ls) (F := F) (p0 := p0) (by omega) (by omega) (by omega)
    have e2 := aheadG_in (b := ⟨2, 1, []⟩) (r := (R : Int)) (t := T2) (ls := ls) (F := F) (p0 := p0) (by omega) (by omega) (by omega)
    rw [hR1] at e1
    rw [hR2] at e2
    refine ⟨_, by rw [e1, rowsP_get _ _ _ _ _ _ _ (by omega)], ?_⟩
    rw [e2, rowsP_get _ _ _ _ _ _ _ (by omega), rowP_less _ _ T1.toNat T2.toNat ls F p0 i (by omega) (by omega)]
  rw [hR1] at HA1
  rw [hR2] at HA2
  have S6 := Lib.hid s6
  have HW6 := Lib.hid hw6
  rw [← hw6] at HFr
  clear hAG hT1 hT2 hR1 hR2 s6 hw6 b6 hF hp0 hls hx2 hxs F5 HP2 L1 HA HB HM0 HM1 HXL HYL hXc hYc hX20 hY20
  go_wp2_with (go_at_call 18; with_reducible refine HFr.out.mono ?_; rintro e w7 ⟨rfl, rfl⟩)
  rw [HW6.out]
  have FX : Hid (∀ wx, Below w6.heap.size w6 wx → wx.cell? ⟨w5.heap.size, 0, none⟩ = some (.int .i64 2) ∧ wx.cell? ⟨w5.heap.size, 1, none⟩ = some (.int .i64 1) ∧ wx.cell? ⟨w5.heap.size, 2, none⟩ = some (.slice none 0 0)) := fun wx hx => BX6.out wx (by rw [← S6.out]; exact hx)
  have hbc : Below w6.heap.size w6 w6.drew := (Below.refl _ _).drew
  obtain ⟨c0, c1, c2⟩ := FX.out _ hbc
  clear BX6 HFr
  refine wp_region_held_drew (S := (fun w' => w'.cell? ⟨w5.heap.size, 0, none⟩ = some (.int .i64 2) ∧ w'.cell? ⟨w5.heap.size, 1, none⟩ = some (.int .i64 1) ∧ w'.cell? ⟨w5.heap.size, 2, none⟩ = some (.slice none 0 0))) (by kernel_rfl) (⟨c0, c1, c2⟩) (fun hHeld => ?_)
  refine held_take (i := 0) (v := ?_) rfl (by kernel_rfl) (by kernel_rfl) (by kernel_rfl) (fun _ _ _ h => h) (by rfl) hHeld ?_ ?_
  rotate_left 1
  · (intro w hSw; (try dsimp only at hSw); go_simp; try (with_reducible rfl))
  try simp only [Act.put, List.setIfInBounds_toArray, List.set_cons_zero, List.set_cons_succ]
  refine held_take (i := 1) (v := ?_) rfl (by kernel_rfl) (by kernel_rfl) (by kernel_rfl) (fun _ _ _ h => h) (by rfl) hHeld ?_ ?_
  rotate_left 1
  · (intro w hSw; (try dsimp only at hSw); go_simp; try (with_reducible rfl))
  try simp only [Act.put, List.setIfInBounds_toArray, List.set_cons_zero, List.set_cons_succ]
  refine held_take (i := 2) (v := ?_) rfl (by kernel_rfl) (by kernel_rfl) (by kernel_rfl) (fun _ _ _ h => h) (by rfl) hHeld ?_ ?_
  rotate_left 1
  · (intro w hSw; (try dsimp only at hSw); go_simp; try (with_reducible rfl))
  try simp only [Act.put, List.setIfInBounds_toArray, List.set_cons_zero, List.set_cons_succ]
  refine held_take (i := 3) (v := ?_) rfl (by kernel_rfl) (by kernel_rfl) (by kernel_rfl) (fun _ _ _ h => h) (by rfl) hHeld ?_ ?_
  rotate_left 1
  · (intro w hSw; (try dsimp only at hSw); go_simp; try (with_reducible rfl))
  try simp only [Act.put, List.setIfInBounds_toArray, List.set_cons_zero, List.set_cons_succ]
  refine held_take (i := 4) (v := ?_) rfl (by kernel_rfl) (by kernel_rfl) (by kernel_rfl) (fun _ _ _ h => h) (by rfl) hHeld ?_ ?_
  rotate_left 1
  · (intro w hSw; (try dsimp only at hSw); go_simp; try (with_reducible rfl))
  try simp only [Act.put, List.setIfInBounds_toArray, List.set_cons_zero, List.set_cons_succ]
  refine held_take (i := 5) (v := ?_) rfl (by kernel_rfl) (by kernel_rfl) (by kernel_rfl) (fun _ _ _ h => h) (by rfl) hHeld ?_ ?_
  rotate_left 1
  · (intro w hSw; (try dsimp only at hSw); go_simp; try (with_reducible rfl))
  try simp only [Act.put, List.setIfInBounds_toArray, List.set_cons_zero, List.set_cons_succ]
  refine held_take (i := 7) (v := ?_) rfl (by kernel_rfl) (by kernel_rfl) (by kernel_rfl) (fun _ _ _ h => h) (by rfl) hHeld ?_ ?_
  rotate_left 1
  · (intro w hSw; (try dsimp only at hSw); go_simp; try (with_reducible rfl))
  try simp only [Act.put, List.setIfInBounds_toArray, List.set_cons_zero, List.set_cons_succ]
  refine held_take (i := 8) (v := ?_) rfl (by kernel_rfl) (by kernel_rfl) (by kernel_rfl) (fun _ _ _ h => h) (by rfl) hHeld ?_ ?_
  rotate_left 1
  · (intro w hSw; (try dsimp only at hSw); go_simp; try (with_reducible rfl))
  try simp only [Act.put, List.setIfInBounds_toArray, List.set_cons_zero, List.set_cons_succ]
  refine held_take (i := 9) (v := ?_) rfl (by kernel_rfl) (by kernel_rfl) (by kernel_rfl) (fun _ _ _ h => h) (by rfl) hHeld ?_ ?_
  rotate_left 1
  · (intro w hSw; (try dsimp only at hSw); go_simp; try (with_reducible rfl))
  try simp only [Act.put, List.setIfInBounds_toArray, List.set_cons_zero, List.set_cons_succ]
  refine held_take (i := 10) (v := ?_) rfl (by kernel_rfl) (by kernel_rfl) (by kernel_rfl) (fun _ _ _ h => h) (by rfl) hHeld ?_ ?_
  rotate_left 1
  · (intro w hSw; (try dsimp only at hSw); go_simp; try (with_reducible rfl))
  try simp only [Act.put, List.setIfInBounds_toArray, List.set_cons_zero, List.set_cons_succ]
  refine held_take (i := 11) (v := ?_) rfl (by kernel_rfl) (by kernel_rfl) (by kernel_rfl) (fun _ _ _ h => h) (by rfl) hHeld ?_ ?_
  rotate_left 1
  · (intro w hSw; (try dsimp only at hSw); go_simp; try (with_reducible rfl))
  try simp only [Act.put, List.setIfInBounds_toArray, List.set_cons_zero, List.set_cons_succ]
  refine held_take (i := 12) (v := ?_) rfl (by kernel_rfl) (by kernel_rfl) (by kernel_rfl) (fun _ _ _ h => h) (by rfl) hHeld ?_ ?_
  rotate_left 1
  · (intro w hSw; (try dsimp only at hSw); go_simp; try (with_reducible rfl))
  try simp only [Act.put, List.setIfInBounds_toArray, List.set_cons_zero, List.set_cons_succ]
  refine held_one (i := 6) rfl (by kernel_rfl) (by rfl) (fun K hK => ?_)
  go_simp
  (with_reducible refine (HA1.out _ hbc).mono ?_)
  rintro e wa ⟨A3, k3, rfl, rr3, b5⟩
  have hbw3 := b5
  replace hbc := hbc.trans (b5.mono hbc.size)
  clear c0 c1 c2 b5
  obtain ⟨c0, c1, c2⟩ := FX.out _ hbc
  refine hK.out _ _ (⟨c0, c1, c2⟩) (fun hHeld2 => ?_)
  clear hK K hHeld; have hHeld := hHeld2; clear hHeld2
  try simp only [Act.put, List.setIfInBounds_toArray, List.set_cons_zero, List.set_cons_succ]
  refine held_one (i := 13) rfl (by kernel_rfl) (by rfl) (fun K hK => ?_)
  go_simp
  (with_reducible refine (HA2.out _ hbc).mono ?_)
  rintro e wb ⟨A4, k4, rfl, rr4, b5⟩
  have hbw4 := b5
  replace hbc := hbc.trans (b5.mono hbc.size)
  clear c0 c1 c2 b5
  obtain ⟨c0, c1, c2⟩ := FX.out _ hbc
  refine hK.out _ _ (⟨c0, c1, c2⟩) (fun hHeld2 => ?_)
  clear hK K hHeld; have hHeld := hHeld2; clear hHeld2
  try simp only [Act.put, List.setIfInBounds_toArray, List.set_cons_zero, List.set_cons_succ]
  refine held_take (i := 14) (v := ?_) rfl (by kernel_rfl) (by kernel_rfl) (by kernel_rfl) (fun _ _ _ h => h) (by rfl) hHeld ?_ ?_
  rotate_left 1
  · (intro w hSw; (try dsimp only at hSw); go_simp; try (with_reducible rfl))
  try simp only [Act.put, List.setIfInBounds_toArray, List.set_cons_zero, List.set_cons_succ]
  refine held_take (i := 15) (v := ?_) rfl (by kernel_rfl) (by kernel_rfl) (by kernel_rfl) (fun _ _ _ h => h) (by rfl) hHeld ?_ ?_
  rotate_left 1
  · (intro w hSw; (try dsimp only at hSw); go_simp; try (with_reducible rfl))
  try simp only [Act.put, List.setIfInBounds_toArray, List.set_cons_zero, List.set_cons_succ]
  refine wpAnyH_done (by kernel_rfl) ?_ _
  have R3 : Hid (RR wb wb.heap.size A3 R1) := rr3.then_ (Nat.le_refl _) hbw4
  have R4 := Lib.hid rr4
  have HBb : Hid (Below w.heap.size w wb) := F6.out.be.trans (hbc.mono F6.out.be.size)
  have hn1 : ((d1 : Int) != (d1 : Int)) = false := by simp
  have hn2 : ((d2 : Int) != (d2 : Int)) = false := by simp
  clear rr3 rr4 hbw3 hbw4 hbc HA1 HA2 FX c0 c1 c2 F6 HB2
  go_wp2_with fail
  go_loopw [17] (fun v wr => ∃ i : Nat, v = .int .i64 i ∧ i ≤ d1 ∧ Hid (Below wb.heap.size wb wr)) (fun v _ => d1 - (intOf v).toNat)
  case atStart => exact ⟨0, rfl, by omega, Below.refl _ _⟩
  case round =>
    obtain ⟨i, rfl, hi, HBw⟩ := hrel
    by_cases hlt : i < d1
    · obtain ⟨s, e1, e2⟩ := HR.out i hlt
      obtain ⟨S, hS⟩ : ∃ S, s.length = S := ⟨_, rfl⟩
      have HBd := HBw.out.drew
      obtain ⟨g1, a1, k1, rfl, x1, y1⟩ := (R3.out.then_ (Nat.le_refl _) HBd).at i s e1 S hS
      obtain ⟨g2, a2, k2, rfl, x2, y2⟩ := (R4.out.then_ (Nat.le_refl _) HBd).at i s e2 S hS
      obtain ⟨t, ht⟩ : ∃ t, str s = t := ⟨_, rfl⟩
      have v1 : (convert 23 9 (.slice a1 S k1)).run Try.prog wr.drew = .ok (.string t) wr.drew := by rw [← ht]; exact conv_rb y1 S k1 hS
      have v2 : (convert 23 9 (.slice a2 S k2)).run Try.prog wr.drew = .ok (.string t) wr.drew := by rw [← ht]; exact conv_rb y2 S k2 hS
      have i1 : wr.cell? ⟨g1, i, none⟩ = some (.slice a1 S k1) := x1
      have i2 : wr.cell? ⟨g2, i, none⟩ = some (.slice a2 S k2) := x2
      have hltz : (i : Int) < (d1 : Int) := by omega
      have hltz2 : (i : Int) < (d2 : Int) := by omega
      have HBd2 := Lib.hid HBd
      clear e1 e2 y1 y2 ht hS x1 x2 HBd
      go_wp2_with fail
      go_big_region
      all_goals go_wp2_with fail
      all_goals exact ⟨⟨i + 1, by go_num, by omega, HBd2.out⟩, by simp [intOf]; omega⟩
    · obtain rfl : i = d1 := by omega
      have HBe := Lib.hid (HBb.out.trans (HBw.out.mono HBb.out.size))
      have hltz : ¬ (i : Int) < (i : Int) := by omega
      go_wp2_with fail
      go_ret
      exact ⟨rfl, HBe.out⟩
end Go.Proofs.Ytomiligjcpmnjaa
