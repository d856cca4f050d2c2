/- WALK of the law PredictChain. -/
import Derived.Test.YtphcbeccipjlgaaFx
import Derived.Test.YtphcbeccipjlgaaKr
namespace Go.Proofs.Ytphcbeccipjlgaa
set_option maxRecDepth 100000
open Go.RowKit Go.Maps
set_option linter.unusedVariables false
set_option linter.unusedSimpArgs false

set_option maxHeartbeats 4000000 in
theorem chain_law (z o : Int) (A0 : Option Addr) (l0 : List UInt8) (cap0 : Nat) (A1 : Option Addr) (l1 : List UInt8) (cap1 : Nat) (n at_ : Int) (w : World) (h0 : RB w w.heap.size A0 l0) (k0 : l0.length ≤ cap0) (m0 : cap0 ≤ maxLen) (h1 : RB w w.heap.size A1 l1) (k1 : l1.length ≤ cap1) (m1 : cap1 ≤ maxLen) :
    Calls Try.prog 8 #[.agg #[.int .i64 z, .int .i64 o, .slice A0 l0.length cap0], .slice A1 l1.length cap1, .int .i64 n, .int .i64 at_] w fun e w' => e = .returned (.bool true) ∧ Below w.heap.size w w' := by
  obtain ⟨tb, htb⟩ : ∃ p, l0.take 40 = p := ⟨_, rfl⟩
  obtain ⟨X, hX⟩ : ∃ L, tb.length = L := ⟨_, rfl⟩
  obtain ⟨hX40, hXc⟩ : X ≤ 40 ∧ X ≤ cap0 := by rw [← htb, List.length_take] at hX; omega
  obtain ⟨p, hp⟩ : ∃ p, l1.take 40 = p := ⟨_, rfl⟩
  obtain ⟨L, hL⟩ : ∃ L, p.length = L := ⟨_, rfl⟩
  obtain ⟨hL40, hLc⟩ : L ≤ 40 ∧ L ≤ cap1 := by rw [← hp, List.length_take] at hL; omega
  have HS1 := Lib.hid (fun W => short_n A1 l1 l1.length cap1 40 W rfl (by omega) k1 m1 L (by rw [hp, hL]) 40 rfl)
  have HCu := Lib.hid (fun W => cut_any z o A0 l0 l0.length cap0 X W rfl k0 m0 (by rw [htb, hX]))
  have HP : Hid (PM w A1 p L cap1) := ⟨hL, hLc, m1, by rw [← hp]; exact h1.take 40⟩
  have HT : Hid (PM w A0 tb X cap0) := ⟨hX, hXc, m0, by rw [← htb]; exact h0.take 40⟩
  obtain ⟨n00, hn00⟩ : ∃ n00, l0.length = n00 := ⟨_, rfl⟩
  obtain ⟨n01, hn01⟩ : ∃ n01, l1.length = n01 := ⟨_, rfl⟩
  rw [hn00] at HCu ⊢
  rw [hn01] at HS1 ⊢
  have HL := Lib.hid hL; have HXL := Lib.hid hX
  clear h0 k0 m0 h1 k1 m1 hp htb hn00 hn01 hL hX
  obtain ⟨w1, hw1⟩ : ∃ w1, w.alloc (.cells #[.int .i64 z, .int .i64 o, .slice A0 n00 cap0] 24) = w1 := ⟨_, rfl⟩
  have b1 : Below w.heap.size w w1 := by rw [← hw1]; exact (Below.refl _ _).alloc (Nat.le_refl _) _
  have s1 : w1.heap.size = w.heap.size + 1 := by rw [← hw1]; simp
  have hbox1 : w1.heap[w.heap.size]? = some (.cells #[.int .i64 z, .int .i64 o, .slice A0 n00 cap0] 24 (0, 0)) := by
    rw [← hw1]; exact heap_alloc_last w _
  have HG := Lib.hid (begun18_any w1)
  have HW := Lib.hid hw1; have B1 := Lib.hid b1; have S1 := Lib.hid s1; have HX1 := Lib.hid hbox1
  rw [← HW.out] at HG
  clear hw1 b1 s1 hbox1
  go_enter Try.func8, Try.ntmps8
  go_wp2_with fail
  (with_reducible refine HG.out.mono ?_)
  rintro e w2 ⟨rfl, hb2⟩
  rw [HW.out] at hb2
  have HB2 := Lib.hid (B1.out.trans (hb2.mono B1.out.size))
  have hbx2 : w2.heap[w.heap.size]? = some (.cells #[.int .i64 z, .int .i64 o, .slice A0 n00 cap0] 24 (0, 0)) := (hb2.block w.heap.size (by rw [S1.out]; omega)).trans HX1.out
  have c20 : w2.cell? ⟨w.heap.size, 0, none⟩ = some (.int .i64 z) := cell_of_row _ _ _ _ _ _ hbx2
  have c21 : w2.cell? ⟨w.heap.size, 1, none⟩ = some (.int .i64 o) := cell_of_row _ _ _ _ _ _ hbx2
  have c22 : w2.cell? ⟨w.heap.size, 2, none⟩ = some (.slice A0 n00 cap0) := cell_of_row _ _ _ _ _ _ hbx2
  have HBX2 := Lib.hid hbx2
  have Z2 : Hid (w.heap.size + 1 ≤ w2.heap.size) := by unfold Hid; rw [← S1.out]; exact hb2.size
  clear hb2 hbx2 HG HX1 B1 HW
  go_wp2_with fail
  (with_reducible refine (HCu.out _).mono ?_)
  rintro e w3 ⟨rfl, hb3⟩
  have HB3 := Lib.hid (HB2.out.trans (hb3.mono HB2.out.size))
  have hbx3 : w3.heap[w.heap.size]? = some (.cells #[.int .i64 z, .int .i64 o, .slice A0 n00 cap0] 24 (0, 0)) := (hb3.block w.heap.size (by have := Z2.out; omega)).trans HBX2.out
  have Z3 : Hid (w.heap.size + 1 ≤ w3.heap.size) := by unfold Hid; have := Z2.out; have := hb3.size; omega
  have HBX3 := Lib.hid hbx3
  clear hb3 hbx3 HBX2 c20 c21 c22 HB2 HCu
  go_wp2_with fail
  (with_reducible refine (HS1.out _).mono ?_)
  rintro e w3' ⟨rfl, rfl⟩
  have hbx3 := HBX3.out
  go_upto_region 5 with (with_reducible refine wpList_store_by rfl (.tmp 4) (.tmp 18) rfl w.heap.size (by with_unfolding_all rfl) z o z o A0 A0 n00 cap0 X cap0 hbx3 (by with_unfolding_all rfl) ?_; intro w4 hbx4 S4 R4)
  have HB4 : Hid (Below w.heap.size w w4) := HB3.out.grown R4 (by have := HB3.out.size; omega) (fun k e => by cases e; exact Nat.le_refl _)
  have Z4 : Hid (w.heap.size + 1 ≤ w4.heap.size) := by unfold Hid; rw [S4]; exact Z3.out
  have BX := Lib.hid (box3 hbx4)
  have HP4 := Lib.hid (HP.out.then_ HB4.out)
  have HT4 := Lib.hid (HT.out.then_ HB4.out)
  have c40 := (BX.out w4 (Below.refl _ _)).1
  have c41 := (BX.out w4 (Below.refl _ _)).2.1
  have c42 := (BX.out w4 (Below.refl _ _)).2.2
  obtain ⟨r, hr⟩ : ∃ r, mayB z o X = r := ⟨_, rfl⟩
  have HM := Lib.hid (mayBy_at z o A0 X cap0 w4 (Nat.le_trans HT4.out.nc HT4.out.cm) r hr)
  clear HB3 Z3 HBX3 S4 R4 HS1 HP HT hbx3
  cases r with
  | false =>
    clear hr
    go_wp2_with fail
    (with_reducible refine HM.out.mono ?_)
    rintro e w5 ⟨rfl, hb5⟩
    have HB5 := Lib.hid (HB4.out.trans (hb5.mono HB4.out.size))
    clear hb5
    go_wp2_with fail
    go_ret
    exact ⟨rfl, HB5.out⟩
  | true =>
    obtain ⟨b, hbk⟩ : ∃ b : Kd, b = Kd.mk z.toNat o.toNat tb := ⟨_, rfl⟩
    have hkd := may_kd hr HXL.out
    rw [← hbk] at hkd
    have HK4 : Hid (KM w4 b A0 X cap0) := ⟨hkd.1, by rw [hbk]; exact HXL.out, HT4.out.nc, HT4.out.cm, by rw [hbk]; exact HT4.out.t⟩
    have HZ := Lib.hid hkd.2.1
    have HO := Lib.hid hkd.2.2
    clear hr hkd hbk
    go_wp2_with fail
    (with_reducible refine HM.out.mono ?_)
    rintro e w5 ⟨rfl, hb5⟩
    have HB5 := Lib.hid (HB4.out.trans (hb5.mono HB4.out.size))
    have X5 : Hid (Below (w.heap.size + 1) w4 w5) := hb5.mono Z4.out
    have HK5 := Lib.hid (HK4.out.then_ hb5)
    have HP5 := Lib.hid (HP4.out.then_ hb5)
    clear hb5 HM HK4 HP4 HT4 c40 c41 c42
    by_cases g1 : n < 0
    · go_wp2_with fail
      go_ret
      exact ⟨rfl, HB5.out⟩
    by_cases g2 : 20 < n
    · go_wp2_with fail
      go_ret
      exact ⟨rfl, HB5.out⟩
    by_cases g3 : at_ < 0
    · go_wp2_with fail
      go_ret
      exact ⟨rfl, HB5.out⟩
    by_cases g4 : n < at_
    · go_wp2_with fail
      go_ret
      exact ⟨rfl, HB5.out⟩
    obtain ⟨m, rfl⟩ : ∃ m : Nat, n = m := ⟨n.toNat, by omega⟩
    obtain ⟨a, rfl⟩ : ∃ a : Nat, at_ = a := ⟨at_.toNat, by omega⟩
    have hm : m ≤ 20 := by omega
    have ham : a ≤ m := by omega
    obtain ⟨d, hd⟩ : ∃ d, chN b a p = d := ⟨_, rfl⟩
    obtain ⟨ma, hma⟩ : ∃ ma : Nat, (m : Int) - (a : Int) = ma := ⟨m - a, by omega⟩
    have hman : m = a + ma := by omega
    have hdl : d.length = a := by rw [← hd, chN_len]
    have hcd : chN b m p = d ++ chN b ma (p ++ d) := by rw [hman, chN_add, hd]
    obtain ⟨cc, hcc⟩ : ∃ cc, chN b m p = cc := ⟨_, rfl⟩
    have HD := Lib.hid hd; have HDL := Lib.hid hdl; have HCC := Lib.hid hcc
    rw [hcc] at hcd
    have HCD := Lib.hid hcd
    have HCL : Hid (cc.length = m) := by rw [← hcc]; exact chN_len _ _ _
    clear hd hdl hcd hcc hman
    have c50 := (BX.out w5 X5.out).1
    have c51 := (BX.out w5 X5.out).2.1
    have c52 := (BX.out w5 X5.out).2.2
    have H1 := Lib.hid (of_any z o A0 X cap0 w5)
    go_wp2_with fail
    (with_reducible refine H1.out.mono ?_)
    rintro e w6 ⟨rfl, hb6⟩
    have HB6 := Lib.hid (HB5.out.trans (hb6.mono HB5.out.size))
    have X6 : Hid (Below (w.heap.size + 1) w4 w6) := X5.out.trans (hb6.mono (by have := X5.out.size; have := Z4.out; omega))
    have HK6 := Lib.hid (HK5.out.then_ hb6)
    have HP6 := Lib.hid (HP5.out.then_ hb6)
    have H2 := Lib.hid (chain_at b z o HZ.out HO.out A0 X cap0 A1 p L cap1 m w6 HK6.out HP6.out (by omega) m (by omega) cc HCC.out)
    clear hb6 H1 HK5 HP5 c50 c51 c52 X5 HB5
    go_wp2_with fail
    (with_reducible refine H2.out.mono ?_)
    rintro e w7 ⟨⟨A7, c7, rfl, hmc7, hc7m, hr1⟩, hb7⟩
    have HB7 := Lib.hid (HB6.out.trans (hb7.mono HB6.out.size))
    have X7 : Hid (Below (w.heap.size + 1) w4 w7) := X6.out.trans (hb7.mono (by have := X6.out.size; have := Z4.out; omega))
    have HK7 := Lib.hid (HK6.out.then_ hb7)
    have HP7 := Lib.hid (HP6.out.then_ hb7)
    have HR1 := Lib.hid hr1
    have HC7 := Lib.hid hc7m
    have c70 := (BX.out w7 X7.out).1
    have c71 := (BX.out w7 X7.out).2.1
    have c72 := (BX.out w7 X7.out).2.2
    have H3 := Lib.hid (of_any z o A0 X cap0 w7)
    clear hb7 hr1 H2 HK6 HP6 X6 HB6 hc7m
    go_wp2_with fail
    (with_reducible refine H3.out.mono ?_)
    rintro e w8 ⟨rfl, hb8⟩
    have HB8 := Lib.hid (HB7.out.trans (hb8.mono HB7.out.size))
    have X8 : Hid (Below (w.heap.size + 1) w4 w8) := X7.out.trans (hb8.mono (by have := X7.out.size; have := Z4.out; omega))
    have HK8 := Lib.hid (HK7.out.then_ hb8)
    have HP8 := Lib.hid (HP7.out.then_ hb8)
    have HR8 := Lib.hid (HR1.out.then_ (Nat.le_refl _) hb8)
    have H4 := Lib.hid (chain_at b z o HZ.out HO.out A0 X cap0 A1 p L cap1 a w8 HK8.out HP8.out (by omega) a (by omega) d HD.out)
    clear hb8 H3 HK7 HP7 HR1 c70 c71 c72 X7 HB7
    go_wp2_with fail
    (with_reducible refine H4.out.mono ?_)
    rintro e w9 ⟨⟨A9, c9, rfl, hac9, hc9m, hr2⟩, hb9⟩
    have HB9 := Lib.hid (HB8.out.trans (hb9.mono HB8.out.size))
    have X9 : Hid (Below (w.heap.size + 1) w4 w9) := X8.out.trans (hb9.mono (by have := X8.out.size; have := Z4.out; omega))
    have HK9 := Lib.hid (HK8.out.then_ hb9)
    have HP9 := Lib.hid (HP8.out.then_ hb9)
    have HR9 := Lib.hid (HR8.out.then_ (Nat.le_refl _) hb9)
    have HR2 := Lib.hid hr2
    have hdr : Below w9.heap.size w9 w9.drew := (Below.refl _ _).drew
    have htk : cc.take a = d := by rw [HCD.out, List.take_append_of_le_length (by rw [HDL.out]; exact Nat.le_refl _), List.take_of_length_le (by rw [HDL.out]; exact Nat.le_refl _)]
    have cv2 := conv_rb (hr2.below hdr) a c9 HDL.out
    have cv1 := conv_rb ((HR9.out.take a).below hdr) a c7 (by rw [htk]; exact HDL.out)
    rw [htk] at cv1
    obtain ⟨ss, hss⟩ : ∃ ss, str d = ss := ⟨_, rfl⟩
    rw [hss] at cv1 cv2
    have HC9 := Lib.hid hc9m
    have hc7x := HC7.out
    unfold maxLen at hc7x
    have hac7 : a ≤ c7 := by omega
    clear hr2 hb9 H4 HK8 HP8 HR8 HB8 hss X8 hdr htk hc9m
    go_wp2_with fail
    go_big_region
    obtain ⟨wA, hwA⟩ : ∃ wA, w9.drew = wA := ⟨_, rfl⟩
    have hdr : Below w9.heap.size w9 wA := by rw [← hwA]; exact (Below.refl _ _).drew
    have BA := Lib.hid (HB9.out.trans (hdr.mono HB9.out.size))
    have XA : Hid (Below (w.heap.size + 1) w4 wA) := X9.out.trans (hdr.mono (by have := X9.out.size; have := Z4.out; omega))
    have KA := Lib.hid (HK9.out.then_ hdr)
    have PA := Lib.hid (HP9.out.then_ hdr)
    have R1A := Lib.hid (HR9.out.then_ (Nat.le_refl _) hdr)
    have R2A := Lib.hid (HR2.out.then_ (Nat.le_refl _) hdr)
    rw [hwA]
    clear cv1 cv2 hwA hdr HB9 X9 HK9 HP9 HR9 HR2
    by_cases hae : a = m
    · subst hae
      go_wp2_with fail
      go_ret
      exact ⟨rfl, BA.out⟩
    have haez : ((a : Int) == (m : Int)) = false := by simp; omega
    have hP1 : Hid (Value.slice A1 L cap1 = .slice A1 p.length cap1) := by rw [PA.out.len]; rfl
    have hP2 : Hid (Value.slice A9 a c9 = .slice A9 d.length c9) := by rw [HDL.out]; rfl
    have hl1 : Hid (([] : List UInt8).length + p.length ≤ 140737488355328) := by unfold Hid; rw [PA.out.len]; simp; omega
    have hl2 : Hid (([] ++ p).length + d.length ≤ 140737488355328) := by unfold Hid; rw [List.nil_append, PA.out.len, HDL.out]; omega
    go_upto_region 14 with (first
      | (at_builtin; refine wpList_append_bytes rfl (.const (.slice none 0 0)) (.tmp 67) rfl wA.heap.size _ [] p rfl (OB.nil _ _) wA.heap.size A1 cap1 hP1.out PA.out.t hl1.out (Nat.le_refl _) ?_; intro v1 wB O1 G1 E1; have hbB : Below wA.heap.size wA wB := (Below.refl _ _).grown G1 (Nat.le_refl _) (fun k e => by cases e); have R2B := R2A.out.below hbB)
      | (at_builtin; refine wpList_append_bytes rfl (.tmp 68) (.tmp 69) rfl wA.heap.size _ ([] ++ p) d rfl O1 wA.heap.size A9 c9 hP2.out R2B hl2.out hbB.size ?_; intro v2 wC O2 G2 E2; have hbC : Below wA.heap.size wA wC := hbB.grown G2 hbB.size O1.ge))
    have HB_C := Lib.hid (BA.out.trans (hbC.mono BA.out.size))
    have XC : Hid (Below (w.heap.size + 1) w4 wC) := XA.out.trans (hbC.mono (by have := XA.out.size; have := Z4.out; omega))
    have KC := Lib.hid (KA.out.then_ hbC)
    have R1C := Lib.hid (R1A.out.then_ (Nat.le_refl _) hbC)
    obtain ⟨pl, hpl⟩ : ∃ pl, p ++ d = pl := ⟨_, rfl⟩
    rw [List.nil_append, hpl] at O2
    have hpll : pl.length = L + a := by rw [← hpl, List.length_append, PA.out.len, HDL.out]
    obtain ⟨AC, cC, rfl, hlC, hmC, hrC⟩ := O2.form_n (L + a) hpll
    have PC : Hid (PM wC AC pl (L + a) cC) := ⟨hpll, hlC, hmC, hrC⟩
    have cC0 := (BX.out wC XC.out).1
    have cC1 := (BX.out wC XC.out).2.1
    have cC2 := (BX.out wC XC.out).2.2
    have HPL := Lib.hid hpl
    have H5 := Lib.hid (of_any z o A0 X cap0 wC)
    clear hbC hbB O1 O2 E1 E2 G1 G2 R2B hP1 hP2 hl1 hl2 BA XA KA PA R1A R2A hpl hpll hlC hmC hrC
    go_wp2_with fail
    (with_reducible refine H5.out.mono ?_)
    rintro e wD ⟨rfl, hbD⟩
    have KD := Lib.hid (KC.out.then_ hbD)
    have PD := Lib.hid (PC.out.then_ hbD)
    have R1D := Lib.hid (R1C.out.then_ (Nat.le_refl _) hbD)
    have HB_D := Lib.hid (HB_C.out.trans (hbD.mono HB_C.out.size))
    have XD : Hid (Below (w.heap.size + 1) w4 wD) := XC.out.trans (hbD.mono (by have := XC.out.size; have := Z4.out; omega))
    obtain ⟨y, hy⟩ : ∃ y, nxt b pl = y := ⟨_, rfl⟩
    have H6 := Lib.hid (rank_at b z o HZ.out HO.out A0 X cap0 AC pl (L + a) cC 1 wD KD.out PD.out (by omega) 1 (by decide) [y] (by obtain ⟨t, ht⟩ := rk_cons (sc b pl); rw [ht, ← hy]; rfl))
    have HYY := Lib.hid hy
    clear hbD H5 KC PC R1C HB_C XC cC0 cC1 cC2 hy
    go_wp2_with fail
    (with_reducible refine H6.out.mono ?_)
    rintro e wE ⟨⟨g, rfl, hgE, hrE⟩, hbE⟩
    have KE := Lib.hid (KD.out.then_ hbE)
    have PE := Lib.hid (PD.out.then_ hbE)
    have R1E := Lib.hid (R1D.out.then_ (Nat.le_refl _) hbE)
    have HB_E := Lib.hid (HB_D.out.trans (hbE.mono HB_D.out.size))
    have XE : Hid (Below (w.heap.size + 1) w4 wE) := XD.out.trans (hbE.mono (by have := XD.out.size; have := Z4.out; omega))
    have RE := Lib.hid hrE
    have ham2 : a < m := by omega
    obtain ⟨cb, co, rfl, hcb, -⟩ := R1E.out (by rw [HCL.out]; omega)
    have hma1 : ma = (ma - 1) + 1 := by omega
    have hca : cc.getD a 0 = y := by
      rw [HCD.out, HPL.out, List.getD, List.getElem?_append_right (by rw [HDL.out]; exact Nat.le_refl _), HDL.out, Nat.sub_self, hma1, chN, HYY.out]; rfl
    have htl : cc.drop a = chN b ma pl := by
      rw [HCD.out, HPL.out]
      exact List.drop_left' HDL.out
    obtain ⟨Y, hY⟩ : ∃ Y : Int, (y.toNat : Int) = Y := ⟨_, rfl⟩
    obtain ⟨tl, htl2⟩ : ∃ tl, chN b ma pl = tl := ⟨_, rfl⟩
    rw [htl2] at htl
    have htll : tl.length = ma := by rw [← htl2, chN_len]
    have hne : ¬ c7 = a := by omega
    have FX : Hid (∀ wx, Below wE.heap.size wE wx → wx.cell? ⟨w.heap.size, 0, none⟩ = some (.int .i64 z) ∧ wx.cell? ⟨w.heap.size, 1, none⟩ = some (.int .i64 o) ∧ wx.cell? ⟨w.heap.size, 2, none⟩ = some (.slice A0 X cap0) ∧
        wx.cell? ⟨g, 0, none⟩ = some (.int .u8 Y) ∧ wx.cell? ⟨cb, co + a, none⟩ = some (.int .u8 Y) ∧ (convert 22 9 (.slice (some ⟨cb, co + a, none⟩) ma (c7 - a))).run Try.prog wx = .ok (.string (str tl)) wx) := fun wx hx => by
      have hx1 := XE.out.trans (hx.mono (by have := XE.out.size; have := Z4.out; omega))
      have hc1 := (R1E.out.below hx).cell_ a (by rw [HCL.out]; exact ham2)
      rw [hca, hY] at hc1
      have hc2 := (RE.out.below hx).cell_ 0 (by simp)
      have h0 : ([y] : List UInt8).getD 0 0 = y := rfl
      rw [h0, hY] at hc2
      have hc3 := (R1E.out.below hx).cut a c7 (by rw [HCL.out]; exact ham) (by rw [HCL.out]; exact hmc7)
      rw [if_neg hne, htl] at hc3
      simp only [Option.map_some, Addr.add_lit] at hc3
      have hc4 := conv_rb hc3 ma (c7 - a) htll
      exact ⟨(BX.out wx hx1).1, (BX.out wx hx1).2.1, (BX.out wx hx1).2.2, by simpa using hc2, hc1, hc4⟩
    have H7 := Lib.hid (fun W => of_any z o A0 X cap0 W)
    have H8 : Hid (∀ wx, Below wE.heap.size wE wx → Calls Try.prog 19 #[.agg #[.int .i64 z, .int .i64 o, .slice A0 X cap0], .slice AC (L + a) cC, .int .i64 ma] wx fun e w' => (∃ A' c', e = .returned (.slice A' ma c') ∧ ma ≤ c' ∧ c' ≤ maxLen ∧ RB w' w'.heap.size A' tl) ∧ Below wx.heap.size wx w') := fun wx hx =>
      chain_at b z o HZ.out HO.out A0 X cap0 AC pl (L + a) cC ma wx (KE.out.then_ hx) (PE.out.then_ hx) (by omega) ma (by omega) tl htl2
    have HTLL := Lib.hid htll
    have hbc : Below wE.heap.size wE wE.drew := (Below.refl _ _).drew
    obtain ⟨p0, p1, p2, p3, p4, p5⟩ := FX.out _ hbc
    have hmaz : a ≤ m := ham
    have hmal : m - a = ma := by omega
    have hac7b : a ≤ c7 := hac7
    have hwm : IntKind.i64.wrap (ma : Int) = (ma : Int) := by rw [IntKind.wrap_i64]; omega
    clear hgE hrE hbE H6 KD PD R1D HB_D XD hca htl hY htl2 htll hcb hma1
    go_wp2_with fail
    refine wp_region_held_drew (S := (fun w' => w'.cell? ⟨w.heap.size, 0, none⟩ = some (.int .i64 z) ∧ w'.cell? ⟨w.heap.size, 1, none⟩ = some (.int .i64 o) ∧ w'.cell? ⟨w.heap.size, 2, none⟩ = some (.slice A0 X cap0) ∧ w'.cell? ⟨g, 0, none⟩ = some (.int .u8 Y) ∧ w'.cell? ⟨cb, co + a, none⟩ = some (.int .u8 Y) ∧ (convert 22 9 (.slice (some ⟨cb, co + a, none⟩) ma (c7 - a))).run Try.prog w' = .ok (.string (str tl)) w')) (by kernel_rfl) (⟨p0, p1, p2, p3, p4, p5⟩) (fun hHeld => ?_)
    refine held_take (i := 0) (v := ?_) rfl (by kernel_rfl) (by kernel_rfl) (by kernel_rfl) (fun _ _ _ h => h) (by rfl) hHeld ?_ ?_
    rotate_left 1
    · (intro w hSw; (try dsimp only at hSw); go_simp; try (with_reducible rfl))
    try simp only [Act.put, List.setIfInBounds_toArray, List.set_cons_zero, List.set_cons_succ]
    refine held_take (i := 1) (v := ?_) rfl (by kernel_rfl) (by kernel_rfl) (by kernel_rfl) (fun _ _ _ h => h) (by rfl) hHeld ?_ ?_
    rotate_left 1
    · (intro w hSw; (try dsimp only at hSw); go_simp; try (with_reducible rfl))
    try simp only [Act.put, List.setIfInBounds_toArray, List.set_cons_zero, List.set_cons_succ]
    refine held_take (i := 2) (v := ?_) rfl (by kernel_rfl) (by kernel_rfl) (by kernel_rfl) (fun _ _ _ h => h) (by rfl) hHeld ?_ ?_
    rotate_left 1
    · (intro w hSw; (try dsimp only at hSw); go_simp; try (with_reducible rfl))
    try simp only [Act.put, List.setIfInBounds_toArray, List.set_cons_zero, List.set_cons_succ]
    refine held_take (i := 3) (v := ?_) rfl (by kernel_rfl) (by kernel_rfl) (by kernel_rfl) (fun _ _ _ h => h) (by rfl) hHeld ?_ ?_
    rotate_left 1
    · (intro w hSw; (try dsimp only at hSw); go_simp; try (with_reducible rfl))
    try simp only [Act.put, List.setIfInBounds_toArray, List.set_cons_zero, List.set_cons_succ]
    refine held_take (i := 4) (v := ?_) rfl (by kernel_rfl) (by kernel_rfl) (by kernel_rfl) (fun _ _ _ h => h) (by rfl) hHeld ?_ ?_
    rotate_left 1
    · (intro w hSw; (try dsimp only at hSw); go_simp; try (with_reducible rfl))
    try simp only [Act.put, List.setIfInBounds_toArray, List.set_cons_zero, List.set_cons_succ]
    refine held_take (i := 5) (v := ?_) rfl (by kernel_rfl) (by kernel_rfl) (by kernel_rfl) (fun _ _ _ h => h) (by rfl) hHeld ?_ ?_
    rotate_left 1
    · (intro w hSw; (try dsimp only at hSw); go_simp; try (with_reducible rfl))
    try simp only [Act.put, List.setIfInBounds_toArray, List.set_cons_zero, List.set_cons_succ]
    refine held_take (i := 6) (v := ?_) rfl (by kernel_rfl) (by kernel_rfl) (by kernel_rfl) (fun _ _ _ h => h) (by rfl) hHeld ?_ ?_
    rotate_left 1
    · (intro w hSw; (try dsimp only at hSw); go_simp; try (with_reducible rfl))
    try simp only [Act.put, List.setIfInBounds_toArray, List.set_cons_zero, List.set_cons_succ]
    refine held_take (i := 7) (v := ?_) rfl (by kernel_rfl) (by kernel_rfl) (by kernel_rfl) (fun _ _ _ h => h) (by rfl) hHeld ?_ ?_
    rotate_left 1
    · (intro w hSw; (try dsimp only at hSw); go_simp; try (with_reducible rfl))
    try simp only [Act.put, List.setIfInBounds_toArray, List.set_cons_zero, List.set_cons_succ]
    refine held_take (i := 8) (v := ?_) rfl (by kernel_rfl) (by kernel_rfl) (by kernel_rfl) (fun _ _ _ h => h) (by rfl) hHeld ?_ ?_
    rotate_left 1
    · (intro w hSw; (try dsimp only at hSw); go_simp; try (with_reducible rfl))
    try simp only [Act.put, List.setIfInBounds_toArray, List.set_cons_zero, List.set_cons_succ]
    refine held_take (i := 9) (v := ?_) rfl (by kernel_rfl) (by kernel_rfl) (by kernel_rfl) (fun _ _ _ h => h) (by rfl) hHeld ?_ ?_
    rotate_left 1
    · (intro w hSw; (try dsimp only at hSw); go_simp; try (with_reducible rfl))
    try simp only [Act.put, List.setIfInBounds_toArray, List.set_cons_zero, List.set_cons_succ]
    refine held_take (i := 10) (v := ?_) rfl (by kernel_rfl) (by kernel_rfl) (by kernel_rfl) (fun _ _ _ h => h) (by rfl) hHeld ?_ ?_
    rotate_left 1
    · (intro w hSw; (try dsimp only at hSw); go_simp; try (with_reducible rfl))
    try simp only [Act.put, List.setIfInBounds_toArray, List.set_cons_zero, List.set_cons_succ]
    refine held_take (i := 11) (v := ?_) rfl (by kernel_rfl) (by kernel_rfl) (by kernel_rfl) (fun _ _ _ h => h) (by rfl) hHeld ?_ ?_
    rotate_left 1
    · (intro w hSw; (try dsimp only at hSw); go_simp; try (with_reducible rfl))
    try simp only [Act.put, List.setIfInBounds_toArray, List.set_cons_zero, List.set_cons_succ]
    refine held_take (i := 12) (v := ?_) rfl (by kernel_rfl) (by kernel_rfl) (by kernel_rfl) (fun _ _ _ h => h) (by rfl) hHeld ?_ ?_
    rotate_left 1
    · (intro w hSw; (try dsimp only at hSw); go_simp; try (with_reducible rfl))
    try simp only [Act.put, List.setIfInBounds_toArray, List.set_cons_zero, List.set_cons_succ]
    refine held_take (i := 13) (v := ?_) rfl (by kernel_rfl) (by kernel_rfl) (by kernel_rfl) (fun _ _ _ h => h) (by rfl) hHeld ?_ ?_
    rotate_left 1
    · (intro w hSw; (try dsimp only at hSw); go_simp; try (with_reducible rfl))
    try simp only [Act.put, List.setIfInBounds_toArray, List.set_cons_zero, List.set_cons_succ]
    refine held_take (i := 14) (v := ?_) rfl (by kernel_rfl) (by kernel_rfl) (by kernel_rfl) (fun _ _ _ h => h) (by rfl) hHeld ?_ ?_
    rotate_left 1
    · (intro w hSw; (try dsimp only at hSw); go_simp; try (with_reducible rfl))
    try simp only [Act.put, List.setIfInBounds_toArray, List.set_cons_zero, List.set_cons_succ]
    refine held_take (i := 16) (v := ?_) rfl (by kernel_rfl) (by kernel_rfl) (by kernel_rfl) (fun _ _ _ h => h) (by rfl) hHeld ?_ ?_
    rotate_left 1
    · (intro w hSw; (try dsimp only at hSw); go_simp; try (with_reducible rfl))
    try simp only [Act.put, List.setIfInBounds_toArray, List.set_cons_zero, List.set_cons_succ]
    refine held_take (i := 17) (v := ?_) rfl (by kernel_rfl) (by kernel_rfl) (by kernel_rfl) (fun _ _ _ h => h) (by rfl) hHeld ?_ ?_
    rotate_left 1
    · (intro w hSw; (try dsimp only at hSw); go_simp; try (with_reducible rfl))
    try simp only [Act.put, List.setIfInBounds_toArray, List.set_cons_zero, List.set_cons_succ]
    refine held_take (i := 18) (v := ?_) rfl (by kernel_rfl) (by kernel_rfl) (by kernel_rfl) (fun _ _ _ h => h) (by rfl) hHeld ?_ ?_
    rotate_left 1
    · (intro w hSw; (try dsimp only at hSw); go_simp; try (with_reducible rfl))
    try simp only [Act.put, List.setIfInBounds_toArray, List.set_cons_zero, List.set_cons_succ]
    refine held_take (i := 19) (v := ?_) rfl (by kernel_rfl) (by kernel_rfl) (by kernel_rfl) (fun _ _ _ h => h) (by rfl) hHeld ?_ ?_
    rotate_left 1
    · (intro w hSw; (try dsimp only at hSw); go_simp; try (with_reducible rfl))
    try simp only [Act.put, List.setIfInBounds_toArray, List.set_cons_zero, List.set_cons_succ]
    refine held_take (i := 22) (v := ?_) rfl (by kernel_rfl) (by kernel_rfl) (by kernel_rfl) (fun _ _ _ h => h) (by rfl) hHeld ?_ ?_
    rotate_left 1
    · (intro w hSw; (try dsimp only at hSw); go_simp; try (with_reducible rfl))
    try simp only [Act.put, List.setIfInBounds_toArray, List.set_cons_zero, List.set_cons_succ]
    refine held_take (i := 23) (v := ?_) rfl (by kernel_rfl) (by kernel_rfl) (by kernel_rfl) (fun _ _ _ h => h) (by rfl) hHeld ?_ ?_
    rotate_left 1
    · (intro w hSw; (try dsimp only at hSw); go_simp; try (with_reducible rfl))
    try simp only [Act.put, List.setIfInBounds_toArray, List.set_cons_zero, List.set_cons_succ]
    refine held_take (i := 24) (v := ?_) rfl (by kernel_rfl) (by kernel_rfl) (by kernel_rfl) (fun _ _ _ h => h) (by rfl) hHeld ?_ ?_
    rotate_left 1
    · (intro w hSw; (try dsimp only at hSw); go_simp; try (with_reducible rfl))
    try simp only [Act.put, List.setIfInBounds_toArray, List.set_cons_zero, List.set_cons_succ]
    refine held_take (i := 25) (v := ?_) rfl (by kernel_rfl) (by kernel_rfl) (by kernel_rfl) (fun _ _ _ h => h) (by rfl) hHeld ?_ ?_
    rotate_left 1
    · (intro w hSw; (try dsimp only at hSw); go_simp; try (with_reducible rfl))
    try simp only [Act.put, List.setIfInBounds_toArray, List.set_cons_zero, List.set_cons_succ]
    refine held_one (i := 15) rfl (by kernel_rfl) (by rfl) (fun K hK => ?_)
    go_simp
    (with_reducible refine (H7.out _).mono ?_)
    rintro e w5' ⟨rfl, b5⟩
    replace hbc := hbc.trans (b5.mono hbc.size)
    clear p0 p1 p2 p3 p4 p5 b5
    obtain ⟨p0, p1, p2, p3, p4, p5⟩ := FX.out _ hbc
    refine hK.out _ _ (⟨p0, p1, p2, p3, p4, p5⟩) (fun hHeld2 => ?_)
    clear hK K hHeld; have hHeld := hHeld2; clear hHeld2
    try simp only [Act.put, List.setIfInBounds_toArray, List.set_cons_zero, List.set_cons_succ]
    refine held_one (i := 20) rfl (by kernel_rfl) (by rfl) (fun K hK => ?_)
    go_simp
    try rw [hwm]
    (with_reducible refine (H8.out _ hbc).mono ?_)
    rintro e w6' ⟨⟨A6, c6, rfl, hc6, hm6, r6⟩, b6⟩
    have cv6 := conv_rb r6 ma c6 HTLL.out
    replace hbc := hbc.trans (b6.mono hbc.size)
    clear p0 p1 p2 p3 p4 p5 b6 r6
    obtain ⟨p0, p1, p2, p3, p4, p5⟩ := FX.out _ hbc
    refine hK.out _ _ (⟨p0, p1, p2, p3, p4, p5⟩) (fun hHeld2 => ?_)
    clear hK K hHeld; have hHeld := hHeld2; clear hHeld2
    try simp only [Act.put, List.setIfInBounds_toArray, List.set_cons_zero, List.set_cons_succ]
    refine held_one (i := 21) rfl (by kernel_rfl) (by rfl) (fun K hK => ?_)
    go_simp
    refine hK.out _ _ (⟨p0, p1, p2, p3, p4, p5⟩) (fun hHeld2 => ?_)
    clear hK K hHeld; have hHeld := hHeld2; clear hHeld2
    try simp only [Act.put, List.setIfInBounds_toArray, List.set_cons_zero, List.set_cons_succ]
    refine held_take (i := 26) (v := ?_) rfl (by kernel_rfl) (by kernel_rfl) (by kernel_rfl) (fun _ _ _ h => h) (by rfl) hHeld ?_ ?_
    rotate_left 1
    · (intro w hSw; (try dsimp only at hSw); go_simp; try (with_reducible rfl))
    try simp only [Act.put, List.setIfInBounds_toArray, List.set_cons_zero, List.set_cons_succ]
    refine held_take (i := 27) (v := ?_) rfl (by kernel_rfl) (by kernel_rfl) (by kernel_rfl) (fun _ _ _ h => h) (by rfl) hHeld ?_ ?_
    rotate_left 1
    · (intro w hSw; (try dsimp only at hSw); go_simp; try (with_reducible rfl))
    try simp only [Act.put, List.setIfInBounds_toArray, List.set_cons_zero, List.set_cons_succ]
    refine held_take (i := 28) (v := ?_) rfl (by kernel_rfl) (by kernel_rfl) (by kernel_rfl) (fun _ _ _ h => h) (by rfl) hHeld ?_ ?_
    rotate_left 1
    · (intro w hSw; (try dsimp only at hSw); go_simp; try (with_reducible rfl))
    try simp only [Act.put, List.setIfInBounds_toArray, List.set_cons_zero, List.set_cons_succ]
    refine wpAnyH_done (by kernel_rfl) ?_ _
    go_wp2_with fail
    go_ret
    exact ⟨by first | rfl | simp, HB_E.out.trans (hbc.mono HB_E.out.size)⟩
end Go.Proofs.Ytphcbeccipjlgaa
