/- WALK of the law PredictOrder. -/
import Derived.Test.YtphcbeccipjlgaaFv
namespace Go.Proofs.Ytphcbeccipjlgaa
set_option maxRecDepth 100000
open Go.RowKit Go.Maps
set_option linter.unusedVariables false
set_option linter.unusedSimpArgs false

theorem may_kd {z o : Int} {n : Nat} {tb : List UInt8} (h : mayB z o n = true) (ht : tb.length = n) : (Kd.mk z.toNat o.toNat tb).ok ∧ z = (((Kd.mk z.toNat o.toNat tb).k : Nat) : Int) ∧ o = (((Kd.mk z.toNat o.toNat tb).o : Nat) : Int) := by
  have h := of_decide_eq_true h
  unfold Kd.ok
  simp only
  have e : tb = [] ↔ n = 0 := by rw [← ht]; exact List.length_eq_zero_iff.symm
  rw [e]
  omega
theorem take_take_le (l : List UInt8) (m : Nat) (h : m ≤ 256) : (l.take 256).take m = l.take m := by rw [List.take_take, Nat.min_eq_left h]
set_option maxHeartbeats 4000000 in
theorem order_law (z o : Int) (A0 : Option Addr) (l0 : List UInt8) (cap0 : Nat) (A1 : Option Addr) (l1 : List UInt8) (cap1 : Nat) (k : Int) (w : World) (h0 : RB w w.heap.size A0 l0) (k0 : l0.length ≤ cap0) (m0 : cap0 ≤ maxLen) (h1 : RB w w.heap.size A1 l1) (k1 : l1.length ≤ cap1) (m1 : cap1 ≤ maxLen) :
    Calls Try.prog 4 #[.agg #[.int .i64 z, .int .i64 o, .slice A0 l0.length cap0], .slice A1 l1.length cap1, .int .i64 k] w fun e w' => e = .returned (.bool true) ∧ Below w.heap.size w w' := by
  have hzb := zeroB
  obtain ⟨tb, htb⟩ : ∃ p, l0.take 40 = p := ⟨_, rfl⟩
  obtain ⟨X, hX⟩ : ∃ L, tb.length = L := ⟨_, rfl⟩
  obtain ⟨hX40, hXc⟩ : X ≤ 40 ∧ X ≤ cap0 := by rw [← htb, List.length_take] at hX; omega
  obtain ⟨p, hp⟩ : ∃ p, l1.take 60 = p := ⟨_, rfl⟩
  obtain ⟨L, hL⟩ : ∃ L, p.length = L := ⟨_, rfl⟩
  obtain ⟨hL60, hLc⟩ : L ≤ 60 ∧ L ≤ cap1 := by rw [← hp, List.length_take] at hL; omega
  have HS1 := Lib.hid (fun W => short_n A1 l1 l1.length cap1 60 W rfl (by omega) k1 m1 L (by rw [hp, hL]) 60 rfl)
  have HCu := Lib.hid (fun W => cut_any z o A0 l0 l0.length cap0 X W rfl k0 m0 (by rw [htb, hX]))
  have HP : Hid (PM w A1 p L cap1) := ⟨hL, hLc, m1, by rw [← hp]; exact h1.take 60⟩
  have HT : Hid (PM w A0 tb X cap0) := ⟨hX, hXc, m0, by rw [← htb]; exact h0.take 40⟩
  obtain ⟨n00, hn00⟩ : ∃ n00, l0.length = n00 := ⟨_, rfl⟩
  obtain ⟨n01, hn01⟩ : ∃ n01, l1.length = n01 := ⟨_, rfl⟩
  rw [hn00] at HCu ⊢
  rw [hn01] at HS1 ⊢
  have HL := Lib.hid hL; have HXL := Lib.hid hX
  clear h0 k0 m0 h1 k1 m1 hp htb hn00 hn01 hL hX
  obtain ⟨w1, hw1⟩ : ∃ w1, w.alloc (.cells #[.int .i64 z, .int .i64 o, .slice A0 n00 cap0] 24) = w1 := ⟨_, rfl⟩
  have b1 : Below w.heap.size w w1 := by rw [← hw1]; exact (Below.refl _ _).alloc (Nat.le_refl _) _
  have s1 : w1.heap.size = w.heap.size + 1 := by rw [← hw1]; simp
  have hbox1 : w1.heap[w.heap.size]? = some (.cells #[.int .i64 z, .int .i64 o, .slice A0 n00 cap0] 24 (0, 0)) := by
    rw [← hw1]; exact heap_alloc_last w _
  have HG := Lib.hid (begun18_any w1)
  have HW := Lib.hid hw1; have B1 := Lib.hid b1; have S1 := Lib.hid s1; have HX1 := Lib.hid hbox1
  rw [← HW.out] at HG
  clear hw1 b1 s1 hbox1
  go_enter Try.func4, Try.ntmps4
  go_wp2_with fail
  (with_reducible refine HG.out.mono ?_)
  rintro e w2 ⟨rfl, hb2⟩
  rw [HW.out] at hb2
  have HB2 := Lib.hid (B1.out.trans (hb2.mono B1.out.size))
  have hbx2 : w2.heap[w.heap.size]? = some (.cells #[.int .i64 z, .int .i64 o, .slice A0 n00 cap0] 24 (0, 0)) := (hb2.block w.heap.size (by rw [S1.out]; omega)).trans HX1.out
  have c20 : w2.cell? ⟨w.heap.size, 0, none⟩ = some (.int .i64 z) := cell_of_row _ _ _ _ _ _ hbx2
  have c21 : w2.cell? ⟨w.heap.size, 1, none⟩ = some (.int .i64 o) := cell_of_row _ _ _ _ _ _ hbx2
  have c22 : w2.cell? ⟨w.heap.size, 2, none⟩ = some (.slice A0 n00 cap0) := cell_of_row _ _ _ _ _ _ hbx2
  have HBX2 := Lib.hid hbx2
  have Z2 : Hid (w.heap.size + 1 ≤ w2.heap.size) := by unfold Hid; rw [← S1.out]; exact hb2.size
  clear hb2 hbx2 HG HX1 B1 HW
  go_wp2_with fail
  (with_reducible refine (HCu.out _).mono ?_)
  rintro e w3 ⟨rfl, hb3⟩
  have HB3 := Lib.hid (HB2.out.trans (hb3.mono HB2.out.size))
  have hbx3 : w3.heap[w.heap.size]? = some (.cells #[.int .i64 z, .int .i64 o, .slice A0 n00 cap0] 24 (0, 0)) := (hb3.block w.heap.size (by have := Z2.out; omega)).trans HBX2.out
  have Z3 : Hid (w.heap.size + 1 ≤ w3.heap.size) := by unfold Hid; have := Z2.out; have := hb3.size; omega
  have HBX3 := Lib.hid hbx3
  clear hb3 hbx3 HBX2 c20 c21 c22 HB2 HCu
  go_wp2_with fail
  (with_reducible refine (HS1.out _).mono ?_)
  rintro e w3' ⟨rfl, rfl⟩
  have hbx3 := HBX3.out
  go_upto_region 5 with (with_reducible refine wpList_store_by rfl (.tmp 3) (.tmp 16) rfl w.heap.size (by with_unfolding_all rfl) z o z o A0 A0 n00 cap0 X cap0 hbx3 (by with_unfolding_all rfl) ?_; intro w4 hbx4 S4 R4)
  have HB4 : Hid (Below w.heap.size w w4) := HB3.out.grown R4 (by have := HB3.out.size; omega) (fun k e => by cases e; exact Nat.le_refl _)
  have Z4 : Hid (w.heap.size + 1 ≤ w4.heap.size) := by unfold Hid; rw [S4]; exact Z3.out
  have BX := Lib.hid (box3 hbx4)
  have HP4 := Lib.hid (HP.out.then_ HB4.out)
  have HT4 := Lib.hid (HT.out.then_ HB4.out)
  have c40 := (BX.out w4 (Below.refl _ _)).1
  have c41 := (BX.out w4 (Below.refl _ _)).2.1
  have c42 := (BX.out w4 (Below.refl _ _)).2.2
  obtain ⟨r, hr⟩ : ∃ r, mayB z o X = r := ⟨_, rfl⟩
  have HM := Lib.hid (mayBy_at z o A0 X cap0 w4 (Nat.le_trans HT4.out.nc HT4.out.cm) r hr)
  clear HB3 Z3 HBX3 S4 R4 HS1 HP HT hbx3
  cases r with
  | false =>
    clear hr
    go_wp2_with fail
    (with_reducible refine HM.out.mono ?_)
    rintro e w5 ⟨rfl, hb5⟩
    have HB5 := Lib.hid (HB4.out.trans (hb5.mono HB4.out.size))
    clear hb5
    go_wp2_with fail
    go_ret
    exact ⟨rfl, HB5.out⟩
  | true =>
    obtain ⟨b, hbk⟩ : ∃ b : Kd, b = Kd.mk z.toNat o.toNat tb := ⟨_, rfl⟩
    have hkd := may_kd hr HXL.out
    rw [← hbk] at hkd
    have HK4 : Hid (KM w4 b A0 X cap0) := ⟨hkd.1, by rw [hbk]; exact HXL.out, HT4.out.nc, HT4.out.cm, by rw [hbk]; exact HT4.out.t⟩
    have HZ := Lib.hid hkd.2.1
    have HO := Lib.hid hkd.2.2
    clear hr hkd hbk
    obtain ⟨S, hS⟩ : ∃ S, sc b p = S := ⟨_, rfl⟩
    have HSS := Lib.hid hS
    clear hS
    go_wp2_with fail
    (with_reducible refine HM.out.mono ?_)
    rintro e w5 ⟨rfl, hb5⟩
    have HB5 := Lib.hid (HB4.out.trans (hb5.mono HB4.out.size))
    have X5 : Hid (Below (w.heap.size + 1) w4 w5) := hb5.mono Z4.out
    have HK5 := Lib.hid (HK4.out.then_ hb5)
    have HP5 := Lib.hid (HP4.out.then_ hb5)
    clear hb5 HM HK4 HP4 HT4 c40 c41 c42
    by_cases g1 : k < 0
    · go_wp2_with fail
      go_ret
      exact ⟨rfl, HB5.out⟩
    by_cases g2 : 256 < k
    · go_wp2_with fail
      go_ret
      exact ⟨rfl, HB5.out⟩
    obtain ⟨m, rfl⟩ : ∃ m : Nat, k = m := ⟨k.toNat, by omega⟩
    have hm : m ≤ 256 := by omega
    have c50 := (BX.out w5 X5.out).1
    have c51 := (BX.out w5 X5.out).2.1
    have c52 := (BX.out w5 X5.out).2.2
    have H1 := Lib.hid (of_any z o A0 X cap0 w5)
    go_wp2_with fail
    (with_reducible refine H1.out.mono ?_)
    rintro e w6 ⟨rfl, hb6⟩
    have HB6 := Lib.hid (HB5.out.trans (hb6.mono HB5.out.size))
    have X6 : Hid (Below (w.heap.size + 1) w4 w6) := X5.out.trans (hb6.mono (by have := X5.out.size; have := Z4.out; omega))
    have HK6 := Lib.hid (HK5.out.then_ hb6)
    have HP6 := Lib.hid (HP5.out.then_ hb6)
    have H2 := Lib.hid (rank_at b z o HZ.out HO.out A0 X cap0 A1 p L cap1 256 w6 HK6.out HP6.out (by omega) 256 (by decide) ((rk S).take 256) (by rw [HSS.out]))
    clear hb6 H1 HK5 HP5 c50 c51 c52 X5 HB5
    go_wp2_with fail
    (with_reducible refine H2.out.mono ?_)
    rintro e w7 ⟨⟨g1, rfl, hg1, hr1⟩, hb7⟩
    have HB7 := Lib.hid (HB6.out.trans (hb7.mono HB6.out.size))
    have X7 : Hid (Below (w.heap.size + 1) w4 w7) := X6.out.trans (hb7.mono (by have := X6.out.size; have := Z4.out; omega))
    have HK7 := Lib.hid (HK6.out.then_ hb7)
    have HP7 := Lib.hid (HP6.out.then_ hb7)
    have HR1 := Lib.hid hr1
    have c70 := (BX.out w7 X7.out).1
    have c71 := (BX.out w7 X7.out).2.1
    have c72 := (BX.out w7 X7.out).2.2
    have H3 := Lib.hid (of_any z o A0 X cap0 w7)
    clear hb7 hr1 hg1 H2 HK6 HP6 X6 HB6
    go_wp2_with fail
    (with_reducible refine H3.out.mono ?_)
    rintro e w8 ⟨rfl, hb8⟩
    have HB8 := Lib.hid (HB7.out.trans (hb8.mono HB7.out.size))
    have HK8 := Lib.hid (HK7.out.then_ hb8)
    have HP8 := Lib.hid (HP7.out.then_ hb8)
    have HR8 := Lib.hid (HR1.out.then_ (Nat.le_refl _) hb8)
    have H4 := Lib.hid (rank_at b z o HZ.out HO.out A0 X cap0 A1 p L cap1 m w8 HK8.out HP8.out (by omega) m (by omega) ((rk S).take m) (by rw [HSS.out]))
    clear hb8 H3 HK7 HP7 HR1 c70 c71 c72 X7 HB7
    go_wp2_with fail
    (with_reducible refine H4.out.mono ?_)
    rintro e w9 ⟨⟨g2, rfl, hg2, hr2⟩, hb9⟩
    have HB9 := Lib.hid (HB8.out.trans (hb9.mono HB8.out.size))
    have HR9 := Lib.hid (HR8.out.then_ (Nat.le_refl _) hb9)
    have hdr : Below w9.heap.size w9 w9.drew := (Below.refl _ _).drew
    have cv2 := conv_rb (hr2.below hdr) m 256 (by rw [List.length_take, rk_len]; omega)
    have cv1 := conv_rb ((HR9.out.take m).below hdr) m 256 (by rw [take_take_le _ _ hm, List.length_take, rk_len]; omega)
    rw [take_take_le _ _ hm] at cv1
    obtain ⟨ss, hss⟩ : ∃ ss, str ((rk S).take m) = ss := ⟨_, rfl⟩
    rw [hss] at cv1 cv2
    have e256 : (rk S).take 256 = rk S := List.take_of_length_le (by rw [rk_len]; exact Nat.le_refl _)
    have HF : Hid (RB w9 w9.heap.size (some ⟨g1, 0, none⟩) (rk S)) := by rw [← e256]; exact HR9.out
    have hmm : ((m : Int) != (m : Int)) = false := by simp
    clear hr2 hb9 hg2 H4 HK8 HP8 HR8 HR9 HB8 hss e256 hdr
    go_wp2_with fail
    go_big_region
    go_wp2_with fail
    obtain ⟨q, hq⟩ : ∃ q, w9.heap.size = q := ⟨_, rfl⟩
    have G0 : Hid (GB (w9.drew.alloc (.cells (bN f256) 35)) q (sn (rk S) 0)) := by
      rw [sn_zero, ← hq]; exact GB.new w9.drew f256
    have hg1q : g1 < q := by
      obtain ⟨b', off', e, hlt, _⟩ := HF.out (by rw [rk_len]; omega)
      cases e; omega
    have HF0 : Hid (RB w9 q (some ⟨g1, 0, none⟩) (rk S)) := by rw [← hq]; exact HF.out
    have HBa : Hid (Below q w9 (w9.drew.alloc (.cells (bN f256) 35))) := by
      rw [← hq]; exact ((Below.refl _ _).drew).alloc (Nat.le_refl _) _
    have hqw : w.heap.size ≤ q := by rw [← hq]; exact HB9.out.size
    have eq2 : w9.drew.heap.size = q := hq
    have eq3 : w9.heap.size = q := hq
    simp only [eq3]
    clear hq hzb HF cv1 cv2
    go_loopw [11] (fun v wr => ∃ i : Nat, v = .int .i64 i ∧ i ≤ 256 ∧ Hid (Below q w9 wr) ∧ Hid (GB wr q (sn (rk S) i))) (fun v _ => 256 - (intOf v).toNat)
    case atStart => exact ⟨0, rfl, by omega, HBa, G0⟩
    case round =>
      clear HBa G0
      obtain ⟨i, rfl, hi, HB, HGB⟩ := hrel
      by_cases hlt : i < 256
      · have hltz : (i : Int) < 256 := by omega
        have cx := (HF0.out.below HB.out).cell_ i (by rw [rk_len]; exact hlt)
        simp only [Nat.zero_add] at cx
        obtain ⟨V, hV⟩ : ∃ V, ((rk S).getD i 0).toNat = V := ⟨_, rfl⟩
        have hV2 : V < 256 := by rw [← hV]; exact UInt8.toNat_lt _
        have cs := HGB.out.cell V hV2
        have fs := HGB.out.frozen V
        have hfr := sn_fresh S i hlt
        rw [hV] at hfr cx
        rw [hfr] at cs
        have HN : Hid (GB (wr.setCell ⟨q, V, none⟩ (.bool true)) q (sn (rk S) (i + 1))) := by
          have := HGB.out.set V true
          rw [← hV, sn_step _ _ (by rw [rk_len]; exact hlt)] at this
          rw [hV] at this
          exact this
        clear HGB hV hfr
        go_wp2_with fail
        exact ⟨⟨i + 1, by go_num, by omega, HB.out.setCell (Nat.le_refl _) _, HN⟩, by simp [intOf]; omega⟩
      · obtain rfl : i = 256 := by omega
        have hltz : ¬ (256 : Int) < 256 := by omega
        have HBf := Lib.hid (HB9.out.trans (HB.out.mono hqw))
        go_wp2_with fail
        go_ret
        exact ⟨rfl, HBf.out⟩
end Go.Proofs.Ytphcbeccipjlgaa
