/- texts of YpR -/
import Derived.Test.YtpnobpligchpiaaGreatDoorYpC
import Derived.Test.YtpnobpligchpiaaGreatDoorYpK
import Derived.Test.YtpnobpligchpiaaGreatDoorYpL
import Derived.Test.YtpnobpligchpiaaGreatDoorYpQ
namespace Go.Proofs.YtpnobpligchpiaaGreatDoor
set_option maxRecDepth 100000
open Go.RowKit
set_option linter.unusedVariables false
set_option linter.unusedSimpArgs false
theorem nfour_any (a : Int) (w : World) (a1 : 0 ≤ a) (a2 : a ≤ 4294967295) :
 Calls Tryz.prog 149 #[.int .u32 a] w fun e w' => e = .returned (.slice (some ⟨w.heap.size, 0, none⟩) 4 4) ∧ w.alloc (rowB (s4 a)) = w' := by
 have hr := row_s4 a
 have e1 : a / 16777216 % 256 = a / 16777216 := by omega
 rw [e1] at hr
 clear e1
 have HR := qh hr; clear hr
 go_enter Tryz.func149, Tryz.ntmps149
 go_wp2
 go_ret
 exact ⟨rfl, by rw [HR.out]⟩
theorem put_n (A : Option Addr) (l : List UInt8) (m cap : Nat) (n : Int) (w : World) (hr : RB w w.heap.size A l) (hl : l.length = m) (hn : in64 n) (hm : m ≤ 4096) :
 Calls Tryz.prog 147 #[.slice A m cap, .int .i64 n] w fun e w' => ∃ v, e = .returned v ∧ OB w' w.heap.size v (l ++ putN n) ∧ Below w.heap.size w w' := by
 subst hl
 exact put_any A l cap w.heap.size n w hr (nl _) hn (by omega)
def preK (fi ac fr : Int) : Nat → List UInt8
 | 0 => []
 | 1 => putN fi
 | 2 => putN fi ++ putN ac
 | _ => putN fi ++ putN ac ++ putN fr
def nthK (fi ac fr : Int) : Nat → Int
 | 0 => fi
 | 1 => ac
 | _ => fr
theorem preK_succ (fi ac fr : Int) (i : Nat) (h : i < 3) : preK fi ac fr i ++ putN (nthK fi ac fr i) = preK fi ac fr (i + 1) := by
 obtain rfl | rfl | rfl : i = 0 ∨ i = 1 ∨ i = 2 := by omega
 all_goals rfl
theorem preK_len (fi ac fr : Int) (h1 : in64 fi) (h2 : in64 ac) (h3 : in64 fr) (i : Nat) (h : i ≤ 3) : (preK fi ac fr i).length ≤ 30 := by
 have e1 := putN_len fi h1; have e2 := putN_len ac h2; have e3 := putN_len fr h3
 obtain rfl | rfl | rfl | rfl : i = 0 ∨ i = 1 ∨ i = 2 ∨ i = 3 := by omega
 all_goals (simp only [preK, List.length_append, List.length_nil]; omega)
theorem nthK_in (fi ac fr : Int) (h1 : in64 fi) (h2 : in64 ac) (h3 : in64 fr) (i : Nat) : in64 (nthK fi ac fr i) := by
 match i with
 | 0 => exact h1
 | 1 => exact h2
 | n + 2 => exact h3
abbrev thr (fi ac fr : Int) : Obj := .cells #[.int .i64 fi, .int .i64 ac, .int .i64 fr] 3
theorem thr_cell (w : World) (fi ac fr : Int) (i : Nat) (h : i < 3) : (w.alloc (thr fi ac fr)).cell? ⟨w.heap.size, i, none⟩ = some (.int .i64 (nthK fi ac fr i)) := by
 obtain rfl | rfl | rfl : i = 0 ∨ i = 1 ∨ i = 2 := by omega
 all_goals (rw [cell_of_row _ _ _ _ _ _ (heap_alloc_new w (thr fi ac fr))]; rfl)
set_option maxHeartbeats 4000000 in
theorem putinput_any (A0 : Option Addr) (q : List UInt8) (m0 cap0 : Nat) (k f t id fi : Int) (A : Option Addr) (l : List UInt8) (n c : Nat) (ac fr su : Int) (w : World)
 (hq : RB w w.heap.size A0 q) (hqm : q.length = m0) (hq0 : m0 ≤ 100) (hr : RB w w.heap.size A l) (hn : l.length = n) (hc : n ≤ c) (hm : c ≤ maxLen) (hl : n ≤ 32)
 (h1 : in64 fi) (h2 : in64 ac) (h3 : in64 fr) (h4 : 0 ≤ su) (h5 : su ≤ 4294967295) :
 Calls Tryz.prog 148 #[.slice A0 m0 cap0, pkV k f t id fi A n c ac fr su] w fun e w' => ∃ v, e = .returned v ∧ OB w' w.heap.size v (q ++ tailK fi ac fr su l) ∧ Below w.heap.size w w' := by
 have HQ := qh hq; have HQM := qh hqm; have HR := qh hr; have HN := qh hn; have HM := qh hm
 have HL := qh hl; have HQ0 := qh hq0
 have HP := qh (preK_len fi ac fr h1 h2 h3); have HI := qh (nthK_in fi ac fr h1 h2 h3)
 clear hq hqm hr hn hm hl h1 h2 h3 hq0
 obtain ⟨W0, hW0⟩ : ∃ W0, W0 = (w.alloc (pkO k f t id fi A n c ac fr su)).alloc (thr fi ac fr) := ⟨_, rfl⟩
 have S0 : Hid (W0.heap.size = w.heap.size + 2) := by show _ = _; rw [hW0]; simp
 have B0 : Hid (Below w.heap.size w W0) := by rw [hW0]; exact ((bR _ _).alloc (nl _) _).alloc (by simp) _
 have C3 : Hid (∀ i, i < 3 → W0.cell? ⟨w.heap.size + 1, i, none⟩ = some (.int .i64 (nthK fi ac fr i))) := fun i hi => by
  have h := thr_cell (w.alloc (pkO k f t id fi A n c ac fr su)) fi ac fr i hi
  rw [World.size_alloc] at h
  rw [hW0]; exact h
 have C8 : Hid (W0.cell? ⟨w.heap.size, 8, none⟩ = some (.int .u32 su)) := by rw [hW0]; show _ = _; simp [go_sem]
 have C5 : Hid (W0.cell? ⟨w.heap.size, 5, none⟩ = some (.slice A n c)) := by rw [hW0]; show _ = _; simp [go_sem]
 have HW0 := qh hW0
 clear hW0
 go_enter Tryz.func148, Tryz.ntmps148
 go_wp2
 rw [← HW0.out]
 go_loopw [0, 15] (fun s i wr => ∃ (j : Nat) (A' : Option Addr) (m' cap' : Nat), i = .int .i64 j ∧ j ≤ 3 ∧ s = .slice A' m' cap' ∧ Hid ((q ++ preK fi ac fr j).length = m') ∧ Hid (RB wr wr.heap.size A' (q ++ preK fi ac fr j)) ∧ Hid (0 < j → OB wr (w.heap.size + 2) s (q ++ preK fi ac fr j)) ∧ Hid (Below (w.heap.size + 2) W0 wr) ∧ Hid (w.heap.size + 2 ≤ wr.heap.size)) (fun _ i _ => 3 - (intOf i).toNat)
 case atStart => exact ⟨0, A0, m0, cap0, rfl, by omega, rfl, by show _ = _; rw [preK, List.append_nil]; exact HQM.out, by show RB _ _ _ _; rw [preK, List.append_nil]; exact (HQ.out.below B0.out).more B0.out.size, fun h => absurd h (by omega), bR _ _, by show _ ≤ _; rw [S0.out]; omega⟩
 case round =>
  obtain ⟨j, A', m', cap', rfl, hj, rfl, hm', hr', ho', hb', hs'⟩ := hrel
  by_cases hlt : j < 3
  · have c0 := (hb'.out.cell (p := ⟨w.heap.size + 1, j, none⟩) (show w.heap.size + 1 < _ by omega)).trans (C3.out j hlt)
    have hjc : (j : Int) < 3 := by omega
    have hm'' := hm'.out
    rw [List.length_append, HQM.out] at hm''
    have HP1 := qh (put_n A' _ m' cap' (nthK fi ac fr j) wr hr'.out hm'.out (HI.out j) (by have := HP.out j hj; have := HQ0.out; omega))
    have HJ := qh (preK_succ fi ac fr j hlt)
    clear hm''
    go_wp2_with fail
    (with_reducible refine HP1.out.mono ?_)
    rintro e w1 ⟨v, rfl, ho, hb⟩
    rw [List.append_assoc, HJ.out] at ho
    obtain ⟨m1, hm1⟩ : ∃ m1, (q ++ preK fi ac fr (j + 1)).length = m1 := ⟨_, rfl⟩
    obtain ⟨A1, cap1, rfl, hc1, hcm1, hr1⟩ := ho.form_n m1 hm1
    have HO := qh ho; have HR1 := qh hr1; have HB1 := qh hb; have HM1 := qh hm1
    clear ho hr1 hb hm1 hcm1
    go_wp2_with fail
    go_roundw
    case rel => exact ⟨j + 1, A1, m1, cap1, by go_num, by omega, rfl, HM1.out, HR1.out, fun _ => HO.out.less hs'.out, hb'.out.trans (HB1.out.mono hs'.out), Nat.le_trans hs'.out HB1.out.size⟩
    case measure => simp [intOf]; omega
  · obtain rfl : j = 3 := by omega
    have HO := qh (ho'.out (by omega))
    have c8 := (hb'.out.cell (p := ⟨w.heap.size, 8, none⟩) (show w.heap.size < _ by omega)).trans C8.out
    have HF := qh (nfour_any su wr h4 h5)
    have q5 := (hb'.out.cell (p := ⟨w.heap.size, 5, none⟩) (show w.heap.size < _ by omega)).trans C5.out
    have Q5 := qh q5
    have ha : Below wr.heap.size wr (wr.alloc (rowB (s4 su))) := (bR _ _).alloc (nl _) _
    have OX := qh (HO.out.below ha (nl _))
    have SR := qh (s4_reads wr su)
    have hxl := HP.out 3 (by omega)
    have hln : (q ++ preK fi ac fr 3).length + (s4 su).length ≤ 140737488355328 := by rw [List.length_append, HQM.out, s4_len]; have := HQ0.out; omega
    have HLN := qh hln
    have SA : Hid (w.heap.size + 2 ≤ (wr.alloc (rowB (s4 su))).heap.size) := Nat.le_trans hs'.out ha.size
    have HA := qh ha
    clear hr' ho' C3 HI hxl hln ha q5
    go_wp2_with fail
    (with_reducible refine HF.out.mono ?_)
    rintro e w1 ⟨rfl, rfl⟩
    go_wp2_with (at_builtin; refine wpList_append_bytes rfl (.tmp 23) (.tmp 26) rfl (w.heap.size + 2) (.slice A' m' cap') (q ++ preK fi ac fr 3) (s4 su) rfl OX.out (wr.heap.size + 1) _ 4 rfl SR.out HLN.out SA.out ?_; intro v2 w2 o2 g2 e2; have hb2 : Below (w.heap.size + 2) (wr.alloc (rowB (s4 su))) w2 := (bR _ _).grown g2 SA.out OX.out.ge; have q5 := (hb2.cell (p := ⟨w.heap.size, 5, none⟩) (show w.heap.size < _ by omega)).trans ((HA.out.cell (p := ⟨w.heap.size, 5, none⟩) (show w.heap.size < _ by have := hs'.out; omega)).trans Q5.out); have HB2 := qh hb2; have O2 := qh o2; clear o2 g2 e2 hb2)
    obtain ⟨x, hx⟩ : ∃ x, q ++ preK fi ac fr 3 ++ s4 su = x := ⟨_, rfl⟩
    rw [hx] at O2
    have hxl : x.length ≤ 134 := by rw [← hx, List.length_append, List.length_append, HQM.out, s4_len]; have := HP.out 3 (by omega); have := HQ0.out; omega
    obtain ⟨m2, hm2⟩ : ∃ m2, x.length = m2 := ⟨_, rfl⟩
    obtain ⟨A2, cap2, rfl, hc2, hcm2, hr2⟩ := O2.out.form_n m2 hm2
    have hin : in64 (n : Int) := by have := HL.out; unfold in64; omega
    have HN2 := qh (put_n A2 x m2 cap2 (n : Int) w2 hr2 hm2 hin (by omega))
    have HX := qh hx; have HXL := qh hxl
    have hpn := putN_len (n : Int) hin
    have HPN := qh hpn
    clear hx hxl hm2 hcm2 hr2 hin hpn O2
    (with_reducible refine HN2.out.mono ?_)
    rintro e w3 ⟨v3, rfl, o3, hb3⟩
    have hs2 : w.heap.size + 2 ≤ w2.heap.size := Nat.le_trans SA.out HB2.out.size
    have r5 := (hb3.cell (p := ⟨w.heap.size, 5, none⟩) (show w.heap.size < _ by omega)).trans q5
    have hbA : Below w.heap.size w w3 := B0.out.trans ((hb'.out.mono (by omega)).trans ((HA.out.mono (by have := hs'.out; omega)).trans ((HB2.out.mono (by omega)).trans (hb3.mono (by omega)))))
    have HBA := qh hbA
    have O3 := qh o3
    have HRL := qh (HR.out.next hbA)
    have HEN := qh (encode_any A l n c w3.heap.size w3 HRL.out HN.out hc HM.out (by have := HL.out; omega))
    have hs3 : w.heap.size + 2 ≤ w3.heap.size := Nat.le_trans hs2 hb3.size
    have hs23 := hb3.size
    clear o3 hb3 hbA
    go_wp2_with fail
    (with_reducible refine HEN.out.mono ?_)
    rintro e w4 ⟨v4, rfl, o4, hb4⟩
    obtain ⟨y, hy⟩ : ∃ y, encG 0 (groups l) = y := ⟨_, rfl⟩
    rw [hy] at o4
    obtain ⟨A4, cap4, rfl, hc4, hcm4, hr4⟩ := o4.form y rfl
    have hyl : (x ++ putN (n : Int)).length + y.length ≤ 140737488355328 := by
     have h := encG_groups_len l (by have := HN.out; have := HL.out; omega) 0
     rw [hy] at h
     rw [List.length_append]; have := HXL.out; have := HPN.out; omega
    have HYL := qh hyl
    have O4 := qh (O3.out.below hb4 (nl _))
    have HR4 := qh hr4; have HB4 := qh hb4; have HY := qh hy
    have HS4 := qh (Nat.le_trans hs23 hb4.size)
    clear o4 hr4 hb4 hyl hy hcm4
    go_wp2_with (at_builtin; refine wpList_append_bytes rfl (.tmp 33) (.tmp 36) rfl w2.heap.size v3 (x ++ putN (n : Int)) y rfl O4.out w4.heap.size A4 cap4 rfl HR4.out HYL.out HS4.out ?_; intro v5 w5 o5 g5 e5; have HG5 := qh g5; have O5 := qh o5; clear o5 g5 e5)
    go_ret
    refine ⟨_, rfl, ?_, (HBA.out.trans (HB4.out.mono HBA.out.size)).grown HG5.out (Nat.le_trans HBA.out.size HB4.out.size) (fun k hk => by have := O4.out.ge k hk; omega)⟩
    have e : q ++ tailK fi ac fr su l = x ++ putN (n : Int) ++ y := by
     rw [← HX.out, ← HY.out, ← HN.out]
     show q ++ (putN fi ++ (putN ac ++ (putN fr ++ (s4 su ++ (putN (l.length : Int) ++ encG 0 (groups l)))))) = q ++ (putN fi ++ putN ac ++ putN fr) ++ s4 su ++ putN (l.length : Int) ++ encG 0 (groups l)
     simp only [List.append_assoc]
    rw [e]
    exact O5.out.less (by omega)
abbrev hdO (a b c : Int) : Obj := .cells #[.int .u8 a, .int .u8 b, .int .u8 c] 5
theorem hd_reads (w : World) (a b c : Int) (x y z : UInt8) (hx : (x.toNat : Int) = a) (hy : (y.toNat : Int) = b) (hz : (z.toNat : Int) = c) : RB (w.alloc (hdO a b c)) (w.alloc (hdO a b c)).heap.size (some ⟨w.heap.size, 0, none⟩) [x, y, z] := fun _ => by
 refine ⟨_, _, rfl, by simp, fun j hj => ?_⟩
 have hj : j < 3 := hj
 subst hx hy hz
 obtain rfl | rfl | rfl : j = 0 ∨ j = 1 ∨ j = 2 := by omega
 all_goals (rw [cell_of_row _ _ _ _ _ _ (heap_alloc_new w (hdO _ _ _))]; rfl)
theorem sum_n (A : Option Addr) (l : List UInt8) (n cap : Nat) (w : World) (hw : TabW w) (hr : RB w w.heap.size A l) (hn : l.length = n) (hl : n ≤ maxLen) :
 Calls Tryz.prog 150 #[.slice A n cap] w fun e w' => e = .returned (.int .u32 (tn (sumL l))) ∧ w = w' := by
 subst hn
 exact sum_any A l cap w.heap.size w hw hr hl
set_option maxHeartbeats 4000000 in
theorem enc_any (k f t id fi : Int) (A : Option Addr) (l : List UInt8) (n c : Nat) (ac fr su : Int) (w : World) (hT : TabW w) (hr : RB w w.heap.size A l) (hn : l.length = n) (hc : n ≤ c) (hm : c ≤ maxLen)
 (h4 : 0 ≤ su) (h5 : su ≤ 4294967295) :
 Calls Tryz.prog 120 #[pkV k f t id fi A n c ac fr su] w fun e w' => ∃ v, e = .returned v ∧ OB w' w.heap.size v (encC k f t id fi ac fr su l) ∧ Below w.heap.size w w' := by
 have hnm : n ≤ maxLen := Nat.le_trans hc hm
 by_cases hmay : mayC k f t id fi ac fr su n
 · have HM := qh (fun W => may_any k f t id fi A n c ac fr su true (decide_eq_true hmay) W hnm)
   have he : encC k f t id fi ac fr su l = sealK (bodyC k f t id fi ac fr su l) := by unfold encC; rw [hn, if_pos hmay]
   have hid : in64 id := by obtain ⟨⟨_, _, _, _, _, _, _⟩, _⟩ := hmay; unfold in64; omega
   have HID := qh hid; have HMAY := qh hmay; have HE := qh he
   have HT := qh hT; have HR := qh hr; have HN := qh hn; have HMM := qh hm
   rcases hmay.2 with ⟨rfl, -, -, -, -, -, -, hl⟩ | ⟨rfl, rfl, rfl, rfl, rfl, hl⟩
   · have HL0 := qh hl
     clear hT hr hn hm hid hmay he hnm
     obtain ⟨W3, hW3⟩ : ∃ W3, W3 = ((w.alloc (pkO 1 f t id fi A n c ac fr su)).alloc (pkO 1 f t id fi A n c ac fr su)).alloc (hdO 1 (f % 256) (t % 256)) := ⟨_, rfl⟩
     have S3 : Hid (W3.heap.size = w.heap.size + 3) := by show _ = _; rw [hW3]; simp
     have B3 : Hid (Below w.heap.size w W3) := by rw [hW3]; exact (((bR _ _).alloc (nl _) _).alloc (by simp) _).alloc (by simp; omega) _
     have R3 : Hid (RB W3 W3.heap.size (some ⟨w.heap.size + 1 + 1, 0, none⟩) [u8 1, u8 f, u8 t]) := by
      rw [hW3]
      have h := hd_reads ((w.alloc (pkO 1 f t id fi A n c ac fr su)).alloc (pkO 1 f t id fi A n c ac fr su)) 1 (f % 256) (t % 256) (u8 1) (u8 f) (u8 t) (u8_nat _) (u8_nat _) (u8_nat _)
      rw [show ((w.alloc (pkO 1 f t id fi A n c ac fr su)).alloc (pkO 1 f t id fi A n c ac fr su)).heap.size = w.heap.size + 1 + 1 by simp] at h
      exact h
     have C0 : Hid (∀ j v, #[Value.int .i64 1, .int .i64 f, .int .i64 t, .int .i64 id, .int .i64 fi, .slice A n c, .int .i64 ac, .int .i64 fr, .int .u32 su][j]? = some v → W3.cell? ⟨w.heap.size, j, none⟩ = some v) := fun j v h => by
      rw [hW3]
      have h0 := heap_alloc_new w (pkO 1 f t id fi A n c ac fr su)
      have h1 : (((w.alloc (pkO 1 f t id fi A n c ac fr su)).alloc (pkO 1 f t id fi A n c ac fr su)).alloc (hdO 1 (f % 256) (t % 256))).heap[w.heap.size]? = some (pkO 1 f t id fi A n c ac fr su) := by
       rw [Below.heap_alloc _ _ _ (by simp; omega), Below.heap_alloc _ _ _ (by simp)]; exact h0
      rw [cell_of_row _ _ _ _ _ _ h1]
      exact h
     have HP1 := qh (put_n (some ⟨w.heap.size + 1 + 1, 0, none⟩) [u8 1, u8 f, u8 t] 3 3 id W3 R3.out rfl HID.out (by omega))
     have HW3 := qh hW3
     clear hW3
     go_enter Tryz.func120, Tryz.ntmps120
     go_wp2_with (first
      | (go_at_call 125; (with_reducible refine (HM.out _).mono ?_); rintro e w1 ⟨rfl, rfl⟩))
     rw [← HW3.out]
     (with_reducible refine HP1.out.mono ?_)
     rintro e w4 ⟨v4, rfl, o4, hb4⟩
     obtain ⟨x, hx⟩ : ∃ x, [u8 1, u8 f, u8 t] ++ putN id = x := ⟨_, rfl⟩
     rw [hx] at o4
     have hxl : x.length ≤ 13 := by rw [← hx, List.length_append]; have := putN_len id HID.out; show 3 + _ ≤ 13; omega
     obtain ⟨m4, hm4⟩ : ∃ m4, x.length = m4 := ⟨_, rfl⟩
     obtain ⟨A4, cap4, rfl, hc4, hcm4, hr4⟩ := o4.form_n m4 hm4
     have hbA : Below w.heap.size w w4 := B3.out.trans (hb4.mono B3.out.size)
     have HX := qh hx; have HXL := qh hxl; have HM4 := qh hm4
     have S4 : Hid (w.heap.size + 3 ≤ w4.heap.size) := by show _ ≤ _; rw [← S3.out]; exact hb4.size
     have k0 := (hb4.cell (p := ⟨w.heap.size, 0, none⟩) (show w.heap.size < _ by rw [S3.out]; omega)).trans (C0.out 0 _ rfl)
     have k1 := (hb4.cell (p := ⟨w.heap.size, 1, none⟩) (show w.heap.size < _ by rw [S3.out]; omega)).trans (C0.out 1 _ rfl)
     have k2 := (hb4.cell (p := ⟨w.heap.size, 2, none⟩) (show w.heap.size < _ by rw [S3.out]; omega)).trans (C0.out 2 _ rfl)
     have k3 := (hb4.cell (p := ⟨w.heap.size, 3, none⟩) (show w.heap.size < _ by rw [S3.out]; omega)).trans (C0.out 3 _ rfl)
     have k4 := (hb4.cell (p := ⟨w.heap.size, 4, none⟩) (show w.heap.size < _ by rw [S3.out]; omega)).trans (C0.out 4 _ rfl)
     have k5 := (hb4.cell (p := ⟨w.heap.size, 5, none⟩) (show w.heap.size < _ by rw [S3.out]; omega)).trans (C0.out 5 _ rfl)
     have k6 := (hb4.cell (p := ⟨w.heap.size, 6, none⟩) (show w.heap.size < _ by rw [S3.out]; omega)).trans (C0.out 6 _ rfl)
     have k7 := (hb4.cell (p := ⟨w.heap.size, 7, none⟩) (show w.heap.size < _ by rw [S3.out]; omega)).trans (C0.out 7 _ rfl)
     have k8 := (hb4.cell (p := ⟨w.heap.size, 8, none⟩) (show w.heap.size < _ by rw [S3.out]; omega)).trans (C0.out 8 _ rfl)
     have hrl := HR.out.next hbA
     have HPI := qh (putinput_any A4 x m4 cap4 1 f t id fi A l n c ac fr su w4 hr4 hm4 (by omega) hrl HN.out hc HMM.out hl (by have := HMAY.out; unfold mayC at this; unfold in64; omega) (by have := HMAY.out; unfold mayC at this; unfold in64; omega) (by have := HMAY.out; unfold mayC at this; unfold in64; omega) h4 h5)
     clear hx hm4 hcm4 hr4 hrl o4 hb4
     go_wp2_with fail
     (with_reducible refine HPI.out.mono ?_)
     rintro e w5 ⟨v5, rfl, o5, hb5⟩
     replace hbA := hbA.trans (hb5.mono hbA.size)
     obtain ⟨y, hy⟩ : ∃ y, x ++ tailK fi ac fr su l = y := ⟨_, rfl⟩
     rw [hy] at o5
     have HY : Hid (bodyC 1 f t id fi ac fr su l = y) := by
      show _ = _
      unfold bodyC headK
      rw [if_pos rfl, ← hy, ← HX.out]
      rfl
     obtain ⟨m5, hm5⟩ : ∃ m5, y.length = m5 := ⟨_, rfl⟩
     have hm5l : m5 ≤ 100000 := by
      have h := encG_groups_len l (by have := HN.out; omega) 0
      rw [← hm5, ← hy]
      unfold tailK
      simp only [List.length_append, s4_len]
      have := putN_len fi (by have := HMAY.out; unfold mayC at this; unfold in64; omega)
      have := putN_len ac (by have := HMAY.out; unfold mayC at this; unfold in64; omega)
      have := putN_len fr (by have := HMAY.out; unfold mayC at this; unfold in64; omega)
      have := putN_len (l.length : Int) (by have := HN.out; unfold in64; omega)
      omega
     obtain ⟨A5, cap5, rfl, hc5, hcm5, hr5⟩ := o5.form_n m5 hm5
     replace o5 := o5.less (show w.heap.size ≤ w4.heap.size by have := S4.out; omega)
     clear k0 k1 k2 k3 k4 k5 k6 k7 k8 hy
     have HT5 := qh (HT.out.below hbA HT.out.lt)
     have HSU := qh (sum_n A5 y m5 cap5 w5 HT5.out hr5 hm5 (by unfold maxLen; omega))
     have HBA := qh hbA; have HO5 := qh o5; have HM5 := qh hm5
     obtain ⟨z, hz⟩ : ∃ z, tn (sumL y) = z := ⟨_, rfl⟩
     have hz0 : 0 ≤ z := by rw [← hz]; exact tn_lo _
     have hz1 : z ≤ 4294967295 := by rw [← hz]; exact tn_hi _
     rw [hz] at HSU
     have HZ := qh hz
     have HF := qh (nfour_any z w5 hz0 hz1)
     have ha : Below w5.heap.size w5 (w5.alloc (rowB (s4 z))) := (bR _ _).alloc (nl _) _
     have OX := qh (HO5.out.below ha (nl _))
     have SR := qh (s4_reads w5 z)
     have HLN : Hid (y.length + (s4 z).length ≤ 140737488355328) := by show _ ≤ _; rw [HM5.out, s4_len]; omega
     have SA : Hid (w.heap.size ≤ (w5.alloc (rowB (s4 z))).heap.size) := Nat.le_trans hbA.size ha.size
     have HA := qh ha
     clear hbA o5 hm5 hcm5 hr5 hz ha
     go_wp2_with (first
      | (go_at_call 150; (with_reducible refine HSU.out.mono ?_); rintro e w6 ⟨rfl, rfl⟩)
      | (go_at_call 149; (with_reducible refine HF.out.mono ?_); rintro e w7 ⟨rfl, rfl⟩)
      | (at_builtin; refine wpList_append_bytes rfl (.tmp 26) (.tmp 29) rfl w.heap.size (.slice A5 m5 cap5) y (s4 z) rfl OX.out (w5.heap.size + 1) _ 4 rfl SR.out HLN.out SA.out ?_; intro v8 w8 o8 g8 e8; have HG8 := qh g8; have O8 := qh o8; clear o8 g8 e8))
     go_ret
     refine ⟨_, rfl, ?_, (HBA.out.trans (HA.out.mono HBA.out.size)).grown HG8.out SA.out OX.out.ge⟩
     rw [HE.out]
     have e : sealK (bodyC 1 f t id fi ac fr su l) = y ++ s4 z := by
      unfold sealK
      rw [HY.out, HZ.out]
     rw [e]
     exact O8.out
   · have HL0 := qh hl
     clear hT hr hn hm hid hmay he hnm hl
     obtain ⟨W3, hW3⟩ : ∃ W3, W3 = ((w.alloc (pkO 2 f t id 0 A n c 0 0 0)).alloc (pkO 2 f t id 0 A n c 0 0 0)).alloc (hdO 2 (f % 256) (t % 256)) := ⟨_, rfl⟩
     have S3 : Hid (W3.heap.size = w.heap.size + 3) := by show _ = _; rw [hW3]; simp
     have B3 : Hid (Below w.heap.size w W3) := by rw [hW3]; exact (((bR _ _).alloc (nl _) _).alloc (by simp) _).alloc (by simp; omega) _
     have R3 : Hid (RB W3 W3.heap.size (some ⟨w.heap.size + 1 + 1, 0, none⟩) [u8 2, u8 f, u8 t]) := by
      rw [hW3]
      have h := hd_reads ((w.alloc (pkO 2 f t id 0 A n c 0 0 0)).alloc (pkO 2 f t id 0 A n c 0 0 0)) 2 (f % 256) (t % 256) (u8 2) (u8 f) (u8 t) (u8_nat _) (u8_nat _) (u8_nat _)
      rw [show ((w.alloc (pkO 2 f t id 0 A n c 0 0 0)).alloc (pkO 2 f t id 0 A n c 0 0 0)).heap.size = w.heap.size + 1 + 1 by simp] at h
      exact h
     have C0 : Hid (∀ j v, #[Value.int .i64 2, .int .i64 f, .int .i64 t, .int .i64 id, .int .i64 0, .slice A n c, .int .i64 0, .int .i64 0, .int .u32 0][j]? = some v → W3.cell? ⟨w.heap.size, j, none⟩ = some v) := fun j v h => by
      rw [hW3]
      have h0 := heap_alloc_new w (pkO 2 f t id 0 A n c 0 0 0)
      have h1 : (((w.alloc (pkO 2 f t id 0 A n c 0 0 0)).alloc (pkO 2 f t id 0 A n c 0 0 0)).alloc (hdO 2 (f % 256) (t % 256))).heap[w.heap.size]? = some (pkO 2 f t id 0 A n c 0 0 0) := by
       rw [Below.heap_alloc _ _ _ (by simp; omega), Below.heap_alloc _ _ _ (by simp)]; exact h0
      rw [cell_of_row _ _ _ _ _ _ h1]
      exact h
     have HP1 := qh (put_n (some ⟨w.heap.size + 1 + 1, 0, none⟩) [u8 2, u8 f, u8 t] 3 3 id W3 R3.out rfl HID.out (by omega))
     have HW3 := qh hW3
     clear hW3
     go_enter Tryz.func120, Tryz.ntmps120
     go_wp2_with (first
      | (go_at_call 125; (with_reducible refine (HM.out _).mono ?_); rintro e w1 ⟨rfl, rfl⟩))
     rw [← HW3.out]
     (with_reducible refine HP1.out.mono ?_)
     rintro e w4 ⟨v4, rfl, o4, hb4⟩
     obtain ⟨x, hx⟩ : ∃ x, [u8 2, u8 f, u8 t] ++ putN id = x := ⟨_, rfl⟩
     rw [hx] at o4
     have hxl : x.length ≤ 13 := by rw [← hx, List.length_append]; have := putN_len id HID.out; show 3 + _ ≤ 13; omega
     obtain ⟨m4, hm4⟩ : ∃ m4, x.length = m4 := ⟨_, rfl⟩
     obtain ⟨A4, cap4, rfl, hc4, hcm4, hr4⟩ := o4.form_n m4 hm4
     have hbA : Below w.heap.size w w4 := B3.out.trans (hb4.mono B3.out.size)
     have HX := qh hx; have HXL := qh hxl; have HM4 := qh hm4
     have S4 : Hid (w.heap.size + 3 ≤ w4.heap.size) := by show _ ≤ _; rw [← S3.out]; exact hb4.size
     have k0 := (hb4.cell (p := ⟨w.heap.size, 0, none⟩) (show w.heap.size < _ by rw [S3.out]; omega)).trans (C0.out 0 _ rfl)
     clear hx
     have HY : Hid (bodyC 2 f t id 0 0 0 0 l = x) := by
      show _ = _
      unfold bodyC headK
      rw [if_neg (by omega), ← HX.out]
      rfl
     have o5 := o4.less (show w.heap.size ≤ W3.heap.size by rw [S3.out]; omega)
     clear o4 hb4
     obtain ⟨y, hy⟩ : ∃ y, x = y := ⟨_, rfl⟩
     obtain ⟨w5, hw5⟩ : ∃ w5, w4 = w5 := ⟨_, rfl⟩
     subst hy hw5
     have hm5l := HXL.out
     have HT5 := qh (HT.out.below hbA HT.out.lt)
     have HSU := qh (sum_n A4 x m4 cap4 w4 HT5.out hr4 hm4 (by unfold maxLen; omega))
     have HBA := qh hbA; have HO5 := qh o5; have HM5 := qh hm4
     obtain ⟨z, hz⟩ : ∃ z, tn (sumL x) = z := ⟨_, rfl⟩
     have hz0 : 0 ≤ z := by rw [← hz]; exact tn_lo _
     have hz1 : z ≤ 4294967295 := by rw [← hz]; exact tn_hi _
     rw [hz] at HSU
     have HZ := qh hz
     have HF := qh (nfour_any z w4 hz0 hz1)
     have ha : Below w4.heap.size w4 (w4.alloc (rowB (s4 z))) := (bR _ _).alloc (nl _) _
     have OX := qh (HO5.out.below ha (nl _))
     have SR := qh (s4_reads w4 z)
     have HLN : Hid (x.length + (s4 z).length ≤ 140737488355328) := by show _ ≤ _; rw [HM5.out, s4_len]; omega
     have SA : Hid (w.heap.size ≤ (w4.alloc (rowB (s4 z))).heap.size) := Nat.le_trans hbA.size ha.size
     have HA := qh ha
     clear hbA o5 hm4 hcm4 hr4 hz ha
     go_wp2_with (first
      | (go_at_call 150; (with_reducible refine HSU.out.mono ?_); rintro e w6 ⟨rfl, rfl⟩)
      | (go_at_call 149; (with_reducible refine HF.out.mono ?_); rintro e w7 ⟨rfl, rfl⟩)
      | (at_builtin; refine wpList_append_bytes rfl (.tmp 26) (.tmp 29) rfl w.heap.size (.slice A4 m4 cap4) x (s4 z) rfl OX.out (w4.heap.size + 1) _ 4 rfl SR.out HLN.out SA.out ?_; intro v8 w8 o8 g8 e8; have HG8 := qh g8; have O8 := qh o8; clear o8 g8 e8))
     go_ret
     refine ⟨_, rfl, ?_, (HBA.out.trans (HA.out.mono HBA.out.size)).grown HG8.out SA.out OX.out.ge⟩
     rw [HE.out]
     have e : sealK (bodyC 2 f t id 0 0 0 0 l) = x ++ s4 z := by
      unfold sealK
      rw [HY.out, HZ.out]
     rw [e]
     exact O8.out
 · have HM := qh (fun W => may_any k f t id fi A n c ac fr su false (decide_eq_false hmay) W hnm)
   have he : encC k f t id fi ac fr su l = [] := by unfold encC; rw [hn, if_neg hmay]
   have HE := qh he
   clear hT hr hn hm hmay he
   go_enter Tryz.func120, Tryz.ntmps120
   go_wp2_with (first
    | (go_at_call 125; (with_reducible refine (HM.out _).mono ?_); rintro e w1 ⟨rfl, rfl⟩))
   go_ret
   exact ⟨_, rfl, by rw [HE.out]; exact OB.nil _ _, ((bR _ _).alloc (nl _) _).alloc (by simp) _⟩
end Go.Proofs.YtpnobpligchpiaaGreatDoor
