/- WALK of layer 21: the law CoreApart. -/
import Derived.Test.YtclgcfofgiejgaaDoorCra
namespace Go.Proofs.YtclgcfofgiejgaaDoor
set_option maxRecDepth 100000
open Go.RowKit
set_option linter.unusedVariables false
set_option linter.unusedSimpArgs false

set_option maxHeartbeats 4000000 in
theorem apart21_law (A : Option Addr) (l : List Int) (n c : Nat) (frame sum : Int) (late : Bool) (w : World) (hT : TabW w) (hr : RU w w.heap.size A l) (hn : l.length = n) (hc : n ≤ c) (hm : c ≤ maxLen) (hz : ∀ z ∈ l, 0 ≤ z ∧ z ≤ 4294967295) (hs : 0 ≤ sum ∧ sum ≤ 4294967295) :
    Calls Tryd.prog 9 #[.slice A n c, .int .i64 frame, .int .u32 sum, .bool late] w fun e w' => e = .returned (.bool true) ∧ Below w.heap.size w w' := by
  have HB := Lib.hid (begun21_any w hT)
  have HT := Lib.hid hT
  have hcm : cfA21.may := cfG_may (by omega) (by omega) (by omega) (by omega) (by omega) (by omega) (by omega) (by omega)
  have HF := Lib.hid (may_fit hcm)
  have HNew := Lib.hid (fun W (hb : Below w.heap.size w W) => at_new (w0 := w) (w := W) (O := noB) hb (no_noB _ _) cfA21 hcm)
  unfold Cf.v cfV at HNew
  rw [stA_new] at HNew
  have HS := Lib.hid hs
  obtain ⟨ms, hms⟩ : ∃ ms, l.take 20 = ms := ⟨_, rfl⟩
  have HRX : Hid (RU w w.heap.size A ms) := by show RU _ _ _ _; rw [← hms]; exact hr.take 20
  have HZ : Hid (∀ m ∈ ms, 0 ≤ m ∧ m ≤ 4294967295) := fun m hm => hz m (by rw [← hms] at hm; exact List.mem_of_mem_take hm)
  obtain ⟨X, hX⟩ : ∃ X, ms.length = X := ⟨_, rfl⟩
  have hX20 : X ≤ 20 := by rw [← hX, ← hms, List.length_take]; omega
  have hXn : X = min 20 n := by rw [← hX, ← hms, List.length_take, hn]
  have HX := Lib.hid hX; have HX20 := Lib.hid hX20; have HM := Lib.hid hm
  clear hT hs hcm hms hr hz hX hn hm
  by_cases hl : n ≤ 20
  · obtain rfl : X = n := by omega
    have hli : (X : Int) ≤ 20 := by omega
    clear hXn
    by_cases g0 : frame < 1
    · go_enter Tryd.func9, Tryd.ntmps9
      go_wp2_with (first | (go_at_call 12; (refine HB.out.mono ?_); rintro en w1 ⟨rfl, hb⟩; have HB1 := Lib.hid hb; clear hb))
      go_ret
      exact ⟨rfl, HB1.out⟩
    by_cases g1 : 30 < frame
    · go_enter Tryd.func9, Tryd.ntmps9
      go_wp2_with (first | (go_at_call 12; (refine HB.out.mono ?_); rintro en w1 ⟨rfl, hb⟩; have HB1 := Lib.hid hb; clear hb))
      go_ret
      exact ⟨rfl, HB1.out⟩
    obtain ⟨F, rfl⟩ : ∃ F : Nat, frame = F := ⟨frame.toNat, by omega⟩
    obtain ⟨F1, hF1⟩ : ∃ F1 : Nat, F - 1 = F1 := ⟨_, rfl⟩
    have hf1i : (F : Int) - 1 = (F1 : Int) := by omega
    have HF1 : Hid (1 ≤ F) := by show _ ≤ _; omega
    have HF2 : Hid (F ≤ 30) := by show _ ≤ _; omega
    have HF1E := Lib.hid hF1
    obtain ⟨L, hL⟩ : ∃ L, (encC 1 2 0 3 0 0 F sum []).length = L := ⟨_, rfl⟩
    have HL := Lib.hid hL
    have HL4 : Hid (L ≤ 4096) := by show _ ≤ _; have := enc_short 1 2 0 3 0 0 F sum []; omega
    have HP := Lib.hid (refpk_own 2 0 3 0 F sum HS.out L hL)
    have HI : Hid (Told (encC 1 2 0 3 0 0 F sum []) (some (pkA21 F sum))) := is_in (f := 2) (t := 0) (ac := 0) (fr := F) (by omega) (by omega) (by omega) ⟨by omega, by omega⟩ (by omega) (by omega) (by simp) HS.out
    have HOA : Hid (Ok cfA21 1 (stA 0 0 false [] [])) := stA_ok 0 0 false [] [] (by omega) ⟨by omega, by omega⟩ (by simp) (fun m hm => by cases hm) (by show 0 ≤ 10; omega)
    have HR0 : Hid (recvP cfA21 (stA 0 0 false [] []) (some (pkA21 F sum)) = (0, stX F sum [])) := stA_recv0 F sum [] HF1.out
    clear hL
    cases late
    · skip
      go_enter Tryd.func9, Tryd.ntmps9
      go_wp2_with (first
        | (go_at_call 12; (refine HB.out.mono ?_); rintro en w1 ⟨rfl, hb⟩; have HB1 := Lib.hid hb; clear hb)
        | (go_at_call 13; (refine (HNew.out _ HB1.out).mono ?_); rintro en w2 ⟨cc, q, rfl, ha, -⟩; have HA2 := Lib.hid ha; clear ha HNew)
        | (go_at_call 15; (refine (HP.out _).mono ?_); rintro en w3 ⟨A3, c3, rfl, h1, h2, h3, hb⟩; have HA3 := Lib.hid (HA2.out.grab hb); have HQ1 := Lib.hid h1; have HQ2 := Lib.hid h2; have HRB : Hid (∀ wx, Same (Grab noB w2 w3) w3 wx → RB wx wx.heap.size A3 (encC 1 2 0 3 0 0 F sum [])) := fun wx S => h3 wx (fun k ha hb => S k (.inr ⟨ha, hb⟩)); have HS3 : Hid (Same (Grab noB w2 w3) w3 w3) := fun k hk => rfl; clear h1 h2 h3 hb)
        | (go_at_call 16; (refine (at_recv HF.out HA3.out HOA.out HT.out (by omega) A3 _ L c3 (HRB.out _ HS3.out) HL.out HQ1.out HQ2.out HL4.out _ HI.out 0 _ HR0.out).mono ?_); rintro en wrHA4 ⟨rfl, ha, hs⟩; have HA4 := Lib.hid ha; have HS4 : Hid (Same (Grab noB w2 w3) w3 wrHA4) := HS3.out.then_ hs; clear ha hs))
      go_loopw [13] (fun ii wr => ∃ k : Nat, ii = .int .i64 (k : Int) ∧ k ≤ X ∧ Hid (At w wr cfA21 cc q (stX F sum (ms.take k)) (Grab noB w2 w3)) ∧ Hid (Same (Grab noB w2 w3) w3 wr)) (fun ii _ => X - (intOf ii).toNat)
      case atStart => exact ⟨0, rfl, Nat.zero_le _, HA4, HS4⟩
      case round =>
        obtain ⟨k, rfl, hk, HA, HSA⟩ := hrel
        by_cases hlt : k < X
        · have hkX : (k : Int) < (X : Int) := by omega
          have hk2 : Hid (k + 1 ≤ X) := hlt
          have hmz : Hid (X - (k + 1) < X - k) := by show _ < _; omega
          obtain ⟨b, off, rfl, hbl, hbc⟩ := HRX.out (by rw [HX.out]; omega)
          have hkx : k < ms.length := by rw [HX.out]; exact hlt
          have cx := (HA.out.be.cell (p := ⟨b, off + k, none⟩) hbl).trans (hbc k hkx)
          obtain ⟨v, hv⟩ : ∃ v, ms[k]'hkx = v := ⟨_, rfl⟩
          have hvz := HZ.out v (hv ▸ List.getElem_mem hkx)
          rw [hv] at cx
          have htk : ms.take (k + 1) = ms.take k ++ [v] := by rw [take_snoc ms k v (by rw [List.getElem?_eq_getElem hkx, hv])]
          have HMK := Lib.hid (at_mark HF.out HA.out (stX_ok F sum _ (by have := HF2.out; omega) HS.out (by rw [List.length_take]; have := HX20.out; omega) (fun m hm => HZ.out m (List.mem_of_mem_take hm))) (by omega) v hvz)
          rw [(stX_mark F sum _ HF1.out (by rw [List.length_take]; have := HX20.out; omega)), ← htk] at HMK
          clear hbl hbc hv htk hkx hvz
          go_wp2_with (first | (go_at_call 25; (refine HMK.out.mono ?_); rintro en w7 ⟨rfl, ha, hs⟩; have HA7 := Lib.hid ha; have HS7 := Lib.hid (HSA.out.then_ hs); clear ha hs))
          go_roundw
          case rel => exact ⟨k + 1, by go_num, hk2.out, HA7, HS7⟩
          case measure => simp [intOf]; have := hmz.out; omega
        · obtain rfl : X = k := by omega
          have hTK : ms.take X = ms := by rw [← HX.out, List.take_length]
          rw [hTK] at HA
          clear hTK
          by_cases c1 : X < F
          · skip
            have hFX : (X : Int) < (F : Int) := by omega
            have HES : Hid ((stX F sum ms).es = []) := by show _ = _; unfold stX; rw [if_neg (fun h => by have := h.1; rw [HX.out] at this; omega)]; rfl
            have HCL : Hid ((stX F sum ms).cl = false) := by show _ = _; unfold stX; split <;> rfl
            have HOX : Hid (Ok cfA21 1 (stX F sum ms)) := stX_ok F sum ms (by have := HF2.out; omega) HS.out (by rw [HX.out]; have := HX20.out; omega) HZ.out
            have HRX2 : Hid (recvP cfA21 (stX F sum ms) (some (pkA21 F sum)) = (0, stX F sum ms)) := stX_recv F sum ms HF1.out
            go_wp2_with (first
              | (go_at_call 16; (refine (at_recv HF.out HA.out HOX.out HT.out (by omega) A3 _ L c3 (HRB.out _ HSA.out) HL.out HQ1.out HQ2.out HL4.out _ HI.out 0 _ HRX2.out).mono ?_); rintro en wrHA9 ⟨rfl, ha, hs⟩; have HA9 := Lib.hid ha; have HS9 : Hid (Same (Grab noB w2 w3) w3 wrHA9) := HSA.out.then_ hs; clear ha hs)
              | (go_at_call 19; (refine (at_events HA9.out).mono ?_); rintro e w9 ⟨v9, rfl, hev, ha, -⟩; rw [HES.out] at hev; have HEV := Lib.hid hev; have HA10 := Lib.hid ha; clear ha hev)
              | (go_at_call 18; (refine (raws_any _ _ _ HEV.out (by show 0 ≤ 900000; omega)).mono ?_); rintro e w10 ⟨v10, rfl, hro, hb⟩; obtain ⟨A10, c10, rfl, -, -, hcc⟩ := hro.at; have HA11 := Lib.hid (HA10.out.belows hb); clear hro hb hcc)
              | (go_at_call 20; (refine (at_closed HA11.out false HCL.out).mono ?_); rintro e w11 ⟨rfl, rfl⟩))
            go_ret
            exact ⟨by first | rfl | simp, HA11.out.be⟩
          · have hf1 : F1 < ms.length := by rw [HX.out]; omega
            by_cases hvs : ms[F1]'hf1 = sum
            · skip
              have hFX : (F : Int) ≤ (X : Int) := by omega
              have hFd : decide ((X : Int) < (F : Int)) = false := by simp; omega
              have hFe : decide (X < F) = false := by simp; omega
              have hF1x : (F1 : Int) < (X : Int) := by omega
              obtain ⟨b, off, rfl, hbl, hbc⟩ := HRX.out (by rw [HX.out]; omega)
              have hcF := hbc F1 hf1
              rw [hvs] at hcF
              have HES : Hid ((stX F sum ms).es = []) := by show _ = _; unfold stX; rw [if_neg (fun h => by have := h.2; rw [HF1E.out, List.getElem?_eq_getElem hf1, hvs] at this; exact this rfl)]; rfl
              have HCF : Hid (∀ wx, Below w.heap.size w wx → wx.cell? ⟨b, off + F1, none⟩ = some (.int .u32 sum)) := fun wx hb => (hb.cell (p := ⟨b, off + F1, none⟩) hbl).trans hcF
              clear hbl hbc hcF hf1 hvs
              have HCL : Hid ((stX F sum ms).cl = false) := by show _ = _; unfold stX; split <;> rfl
              have HOX : Hid (Ok cfA21 1 (stX F sum ms)) := stX_ok F sum ms (by have := HF2.out; omega) HS.out (by rw [HX.out]; have := HX20.out; omega) HZ.out
              have HRX2 : Hid (recvP cfA21 (stX F sum ms) (some (pkA21 F sum)) = (0, stX F sum ms)) := stX_recv F sum ms HF1.out
              go_wp2_with (first
                | (go_at_call 16; (refine (at_recv HF.out HA.out HOX.out HT.out (by omega) A3 _ L c3 (HRB.out _ HSA.out) HL.out HQ1.out HQ2.out HL4.out _ HI.out 0 _ HRX2.out).mono ?_); rintro en wrHA9 ⟨rfl, ha, hs⟩; have HA9 := Lib.hid ha; have HS9 : Hid (Same (Grab noB w2 w3) w3 wrHA9) := HSA.out.then_ hs; clear ha hs)
                | (go_at_call 19; (refine (at_events HA9.out).mono ?_); rintro e w9 ⟨v9, rfl, hev, ha, -⟩; rw [HES.out] at hev; have HEV := Lib.hid hev; have HA10 := Lib.hid ha; clear ha hev)
                | (go_at_call 18; (refine (raws_any _ _ _ HEV.out (by show 0 ≤ 900000; omega)).mono ?_); rintro e w10 ⟨v10, rfl, hro, hb⟩; obtain ⟨A10, c10, rfl, -, -, hcc⟩ := hro.at; have HA11 := Lib.hid (HA10.out.belows hb); have cF := HCF.out w10 HA11.out.be; clear hro hb hcc)
                | (go_at_call 20; (refine (at_closed HA11.out false HCL.out).mono ?_); rintro e w11 ⟨rfl, rfl⟩))
              go_ret
              exact ⟨by first | rfl | simp, HA11.out.be⟩
            · skip
              have hFX : (F : Int) ≤ (X : Int) := by omega
              have hFd : decide ((X : Int) < (F : Int)) = false := by simp; omega
              have hFe : decide (X < F) = false := by simp; omega
              have hF1x : (F1 : Int) < (X : Int) := by omega
              obtain ⟨b, off, rfl, hbl, hbc⟩ := HRX.out (by rw [HX.out]; omega)
              have hcF := hbc F1 hf1
              obtain ⟨v, hv⟩ : ∃ v, ms[F1]'hf1 = v := ⟨_, rfl⟩
              rw [hv] at hcF hvs
              have hvb : (v == sum) = false := by simp; exact hvs
              have HES : Hid ((stX F sum ms).es = [.a 2 F]) := by show _ = _; unfold stX; rw [if_pos (show BadA F sum ms from ⟨by rw [HX.out]; omega, by rw [HF1E.out, List.getElem?_eq_getElem hf1, hv]; exact fun e => hvs (Option.some.inj e)⟩)]; rfl
              have HCF : Hid (∀ wx, Below w.heap.size w wx → wx.cell? ⟨b, off + F1, none⟩ = some (.int .u32 v)) := fun wx hb => (hb.cell (p := ⟨b, off + F1, none⟩) hbl).trans hcF
              clear hbl hbc hcF hf1 hv hvs
              have HCL : Hid ((stX F sum ms).cl = false) := by show _ = _; unfold stX; split <;> rfl
              have HOX : Hid (Ok cfA21 1 (stX F sum ms)) := stX_ok F sum ms (by have := HF2.out; omega) HS.out (by rw [HX.out]; have := HX20.out; omega) HZ.out
              have HRX2 : Hid (recvP cfA21 (stX F sum ms) (some (pkA21 F sum)) = (0, stX F sum ms)) := stX_recv F sum ms HF1.out
              go_wp2_with (first
                | (go_at_call 16; (refine (at_recv HF.out HA.out HOX.out HT.out (by omega) A3 _ L c3 (HRB.out _ HSA.out) HL.out HQ1.out HQ2.out HL4.out _ HI.out 0 _ HRX2.out).mono ?_); rintro en wrHA9 ⟨rfl, ha, hs⟩; have HA9 := Lib.hid ha; have HS9 : Hid (Same (Grab noB w2 w3) w3 wrHA9) := HSA.out.then_ hs; clear ha hs)
                | (go_at_call 19; (refine (at_events HA9.out).mono ?_); rintro e w9 ⟨v9, rfl, hev, ha, -⟩; rw [HES.out] at hev; have HEV := Lib.hid hev; have HA10 := Lib.hid ha; clear ha hev)
                | (go_at_call 18; (refine (raws_any _ _ _ HEV.out (by show 1 ≤ 900000; omega)).mono ?_); rintro e w10 ⟨v10, rfl, hro, hb⟩; obtain ⟨A10, c10, rfl, -, -, hcc⟩ := hro.at; have HA11 := Lib.hid (HA10.out.belows hb); have cF := HCF.out w10 HA11.out.be; obtain ⟨b10, rfl, -, k0, k1, kf⟩ := hcc 0 (.a 2 F) rfl; have k0' : w10.cell? ⟨b10, 0, none⟩ = some (.int .i64 3) := k0; have k1' : w10.cell? ⟨b10, 1, none⟩ = some (.int .i64 2) := k1; have k2' : w10.cell? ⟨b10, 2, none⟩ = some (.int .i64 (F : Int)) := kf; clear k0 k1 kf hro hb hcc)
                | (go_at_call 20; (refine (at_closed HA11.out false HCL.out).mono ?_); rintro e w11 ⟨rfl, rfl⟩))
              go_ret
              exact ⟨by first | rfl | simp, HA11.out.be⟩
    · skip
      go_enter Tryd.func9, Tryd.ntmps9
      go_wp2_with (first
        | (go_at_call 12; (refine HB.out.mono ?_); rintro en w1 ⟨rfl, hb⟩; have HB1 := Lib.hid hb; clear hb)
        | (go_at_call 13; (refine (HNew.out _ HB1.out).mono ?_); rintro en w2 ⟨cc, q, rfl, ha, -⟩; have HA2 := Lib.hid ha; clear ha HNew)
        | (go_at_call 15; (refine (HP.out _).mono ?_); rintro en w3 ⟨A3, c3, rfl, h1, h2, h3, hb⟩; have HA3 := Lib.hid (HA2.out.grab hb); have HQ1 := Lib.hid h1; have HQ2 := Lib.hid h2; have HRB : Hid (∀ wx, Same (Grab noB w2 w3) w3 wx → RB wx wx.heap.size A3 (encC 1 2 0 3 0 0 F sum [])) := fun wx S => h3 wx (fun k ha hb => S k (.inr ⟨ha, hb⟩)); have HS3 : Hid (Same (Grab noB w2 w3) w3 w3) := fun k hk => rfl; clear h1 h2 h3 hb))
      go_loopw [13] (fun ii wr => ∃ k : Nat, ii = .int .i64 (k : Int) ∧ k ≤ X ∧ Hid (At w wr cfA21 cc q (stA 0 0 false (ms.take k) []) (Grab noB w2 w3)) ∧ Hid (Same (Grab noB w2 w3) w3 wr)) (fun ii _ => X - (intOf ii).toNat)
      case atStart => exact ⟨0, rfl, Nat.zero_le _, HA3, HS3⟩
      case round =>
        obtain ⟨k, rfl, hk, HA, HSA⟩ := hrel
        by_cases hlt : k < X
        · have hkX : (k : Int) < (X : Int) := by omega
          have hk2 : Hid (k + 1 ≤ X) := hlt
          have hmz : Hid (X - (k + 1) < X - k) := by show _ < _; omega
          obtain ⟨b, off, rfl, hbl, hbc⟩ := HRX.out (by rw [HX.out]; omega)
          have hkx : k < ms.length := by rw [HX.out]; exact hlt
          have cx := (HA.out.be.cell (p := ⟨b, off + k, none⟩) hbl).trans (hbc k hkx)
          obtain ⟨v, hv⟩ : ∃ v, ms[k]'hkx = v := ⟨_, rfl⟩
          have hvz := HZ.out v (hv ▸ List.getElem_mem hkx)
          rw [hv] at cx
          have htk : ms.take (k + 1) = ms.take k ++ [v] := by rw [take_snoc ms k v (by rw [List.getElem?_eq_getElem hkx, hv])]
          have HMK := Lib.hid (at_mark HF.out HA.out (stA_ok 0 0 false _ _ (by omega) ⟨by omega, by omega⟩ (by rw [List.length_take]; have := HX20.out; omega) (fun m hm => HZ.out m (List.mem_of_mem_take hm)) (by show 0 ≤ 10; omega)) (by omega) v hvz)
          rw [(stA_mark _ (by rw [List.length_take]; have := HX20.out; omega)), ← htk] at HMK
          clear hbl hbc hv htk hkx hvz
          go_wp2_with (first | (go_at_call 25; (refine HMK.out.mono ?_); rintro en w7 ⟨rfl, ha, hs⟩; have HA7 := Lib.hid ha; have HS7 := Lib.hid (HSA.out.then_ hs); clear ha hs))
          go_roundw
          case rel => exact ⟨k + 1, by go_num, hk2.out, HA7, HS7⟩
          case measure => simp [intOf]; have := hmz.out; omega
        · obtain rfl : X = k := by omega
          have hTK : ms.take X = ms := by rw [← HX.out, List.take_length]
          rw [hTK] at HA
          clear hTK
          by_cases c1 : X < F
          · skip
            have hFX : (X : Int) < (F : Int) := by omega
            have HES : Hid ((stX F sum ms).es = []) := by show _ = _; unfold stX; rw [if_neg (fun h => by have := h.1; rw [HX.out] at this; omega)]; rfl
            have HCL : Hid ((stX F sum ms).cl = false) := by show _ = _; unfold stX; split <;> rfl
            have HOX : Hid (Ok cfA21 1 (stX F sum ms)) := stX_ok F sum ms (by have := HF2.out; omega) HS.out (by rw [HX.out]; have := HX20.out; omega) HZ.out
            have HRX2 : Hid (recvP cfA21 (stX F sum ms) (some (pkA21 F sum)) = (0, stX F sum ms)) := stX_recv F sum ms HF1.out
            have HOL : Hid (Ok cfA21 1 (stA 0 0 false ms [])) := stA_ok 0 0 false _ _ (by omega) ⟨by omega, by omega⟩ (by rw [HX.out]; have := HX20.out; omega) HZ.out (by show 0 ≤ 10; omega)
            have HRL : Hid (recvP cfA21 (stA 0 0 false ms []) (some (pkA21 F sum)) = (0, stX F sum ms)) := stA_recv0 F sum ms HF1.out
            go_wp2_with (first
              | (go_at_call 16; first | (have h99 := HA8.out; clear h99; (refine (at_recv HF.out HA8.out HOX.out HT.out (by omega) A3 _ L c3 (HRB.out _ HS8.out) HL.out HQ1.out HQ2.out HL4.out _ HI.out 0 _ HRX2.out).mono ?_); rintro en wrHA9 ⟨rfl, ha, hs⟩; have HA9 := Lib.hid ha; have HS9 : Hid (Same (Grab noB w2 w3) w3 wrHA9) := HS8.out.then_ hs; clear ha hs) | ((refine (at_recv HF.out HA.out HOL.out HT.out (by omega) A3 _ L c3 (HRB.out _ HSA.out) HL.out HQ1.out HQ2.out HL4.out _ HI.out 0 _ HRL.out).mono ?_); rintro en wrHA8 ⟨rfl, ha, hs⟩; have HA8 := Lib.hid ha; have HS8 : Hid (Same (Grab noB w2 w3) w3 wrHA8) := HSA.out.then_ hs; clear ha hs))
              | (go_at_call 19; (refine (at_events HA9.out).mono ?_); rintro e w9 ⟨v9, rfl, hev, ha, -⟩; rw [HES.out] at hev; have HEV := Lib.hid hev; have HA10 := Lib.hid ha; clear ha hev)
              | (go_at_call 18; (refine (raws_any _ _ _ HEV.out (by show 0 ≤ 900000; omega)).mono ?_); rintro e w10 ⟨v10, rfl, hro, hb⟩; obtain ⟨A10, c10, rfl, -, -, hcc⟩ := hro.at; have HA11 := Lib.hid (HA10.out.belows hb); clear hro hb hcc)
              | (go_at_call 20; (refine (at_closed HA11.out false HCL.out).mono ?_); rintro e w11 ⟨rfl, rfl⟩))
            go_ret
            exact ⟨by first | rfl | simp, HA11.out.be⟩
          · have hf1 : F1 < ms.length := by rw [HX.out]; omega
            by_cases hvs : ms[F1]'hf1 = sum
            · skip
              have hFX : (F : Int) ≤ (X : Int) := by omega
              have hFd : decide ((X : Int) < (F : Int)) = false := by simp; omega
              have hFe : decide (X < F) = false := by simp; omega
              have hF1x : (F1 : Int) < (X : Int) := by omega
              obtain ⟨b, off, rfl, hbl, hbc⟩ := HRX.out (by rw [HX.out]; omega)
              have hcF := hbc F1 hf1
              rw [hvs] at hcF
              have HES : Hid ((stX F sum ms).es = []) := by show _ = _; unfold stX; rw [if_neg (fun h => by have := h.2; rw [HF1E.out, List.getElem?_eq_getElem hf1, hvs] at this; exact this rfl)]; rfl
              have HCF : Hid (∀ wx, Below w.heap.size w wx → wx.cell? ⟨b, off + F1, none⟩ = some (.int .u32 sum)) := fun wx hb => (hb.cell (p := ⟨b, off + F1, none⟩) hbl).trans hcF
              clear hbl hbc hcF hf1 hvs
              have HCL : Hid ((stX F sum ms).cl = false) := by show _ = _; unfold stX; split <;> rfl
              have HOX : Hid (Ok cfA21 1 (stX F sum ms)) := stX_ok F sum ms (by have := HF2.out; omega) HS.out (by rw [HX.out]; have := HX20.out; omega) HZ.out
              have HRX2 : Hid (recvP cfA21 (stX F sum ms) (some (pkA21 F sum)) = (0, stX F sum ms)) := stX_recv F sum ms HF1.out
              have HOL : Hid (Ok cfA21 1 (stA 0 0 false ms [])) := stA_ok 0 0 false _ _ (by omega) ⟨by omega, by omega⟩ (by rw [HX.out]; have := HX20.out; omega) HZ.out (by show 0 ≤ 10; omega)
              have HRL : Hid (recvP cfA21 (stA 0 0 false ms []) (some (pkA21 F sum)) = (0, stX F sum ms)) := stA_recv0 F sum ms HF1.out
              go_wp2_with (first
                | (go_at_call 16; first | (have h99 := HA8.out; clear h99; (refine (at_recv HF.out HA8.out HOX.out HT.out (by omega) A3 _ L c3 (HRB.out _ HS8.out) HL.out HQ1.out HQ2.out HL4.out _ HI.out 0 _ HRX2.out).mono ?_); rintro en wrHA9 ⟨rfl, ha, hs⟩; have HA9 := Lib.hid ha; have HS9 : Hid (Same (Grab noB w2 w3) w3 wrHA9) := HS8.out.then_ hs; clear ha hs) | ((refine (at_recv HF.out HA.out HOL.out HT.out (by omega) A3 _ L c3 (HRB.out _ HSA.out) HL.out HQ1.out HQ2.out HL4.out _ HI.out 0 _ HRL.out).mono ?_); rintro en wrHA8 ⟨rfl, ha, hs⟩; have HA8 := Lib.hid ha; have HS8 : Hid (Same (Grab noB w2 w3) w3 wrHA8) := HSA.out.then_ hs; clear ha hs))
                | (go_at_call 19; (refine (at_events HA9.out).mono ?_); rintro e w9 ⟨v9, rfl, hev, ha, -⟩; rw [HES.out] at hev; have HEV := Lib.hid hev; have HA10 := Lib.hid ha; clear ha hev)
                | (go_at_call 18; (refine (raws_any _ _ _ HEV.out (by show 0 ≤ 900000; omega)).mono ?_); rintro e w10 ⟨v10, rfl, hro, hb⟩; obtain ⟨A10, c10, rfl, -, -, hcc⟩ := hro.at; have HA11 := Lib.hid (HA10.out.belows hb); have cF := HCF.out w10 HA11.out.be; clear hro hb hcc)
                | (go_at_call 20; (refine (at_closed HA11.out false HCL.out).mono ?_); rintro e w11 ⟨rfl, rfl⟩))
              go_ret
              exact ⟨by first | rfl | simp, HA11.out.be⟩
            · skip
              have hFX : (F : Int) ≤ (X : Int) := by omega
              have hFd : decide ((X : Int) < (F : Int)) = false := by simp; omega
              have hFe : decide (X < F) = false := by simp; omega
              have hF1x : (F1 : Int) < (X : Int) := by omega
              obtain ⟨b, off, rfl, hbl, hbc⟩ := HRX.out (by rw [HX.out]; omega)
              have hcF := hbc F1 hf1
              obtain ⟨v, hv⟩ : ∃ v, ms[F1]'hf1 = v := ⟨_, rfl⟩
              rw [hv] at hcF hvs
              have hvb : (v == sum) = false := by simp; exact hvs
              have HES : Hid ((stX F sum ms).es = [.a 2 F]) := by show _ = _; unfold stX; rw [if_pos (show BadA F sum ms from ⟨by rw [HX.out]; omega, by rw [HF1E.out, List.getElem?_eq_getElem hf1, hv]; exact fun e => hvs (Option.some.inj e)⟩)]; rfl
              have HCF : Hid (∀ wx, Below w.heap.size w wx → wx.cell? ⟨b, off + F1, none⟩ = some (.int .u32 v)) := fun wx hb => (hb.cell (p := ⟨b, off + F1, none⟩) hbl).trans hcF
              clear hbl hbc hcF hf1 hv hvs
              have HCL : Hid ((stX F sum ms).cl = false) := by show _ = _; unfold stX; split <;> rfl
              have HOX : Hid (Ok cfA21 1 (stX F sum ms)) := stX_ok F sum ms (by have := HF2.out; omega) HS.out (by rw [HX.out]; have := HX20.out; omega) HZ.out
              have HRX2 : Hid (recvP cfA21 (stX F sum ms) (some (pkA21 F sum)) = (0, stX F sum ms)) := stX_recv F sum ms HF1.out
              have HOL : Hid (Ok cfA21 1 (stA 0 0 false ms [])) := stA_ok 0 0 false _ _ (by omega) ⟨by omega, by omega⟩ (by rw [HX.out]; have := HX20.out; omega) HZ.out (by show 0 ≤ 10; omega)
              have HRL : Hid (recvP cfA21 (stA 0 0 false ms []) (some (pkA21 F sum)) = (0, stX F sum ms)) := stA_recv0 F sum ms HF1.out
              go_wp2_with (first
                | (go_at_call 16; first | (have h99 := HA8.out; clear h99; (refine (at_recv HF.out HA8.out HOX.out HT.out (by omega) A3 _ L c3 (HRB.out _ HS8.out) HL.out HQ1.out HQ2.out HL4.out _ HI.out 0 _ HRX2.out).mono ?_); rintro en wrHA9 ⟨rfl, ha, hs⟩; have HA9 := Lib.hid ha; have HS9 : Hid (Same (Grab noB w2 w3) w3 wrHA9) := HS8.out.then_ hs; clear ha hs) | ((refine (at_recv HF.out HA.out HOL.out HT.out (by omega) A3 _ L c3 (HRB.out _ HSA.out) HL.out HQ1.out HQ2.out HL4.out _ HI.out 0 _ HRL.out).mono ?_); rintro en wrHA8 ⟨rfl, ha, hs⟩; have HA8 := Lib.hid ha; have HS8 : Hid (Same (Grab noB w2 w3) w3 wrHA8) := HSA.out.then_ hs; clear ha hs))
                | (go_at_call 19; (refine (at_events HA9.out).mono ?_); rintro e w9 ⟨v9, rfl, hev, ha, -⟩; rw [HES.out] at hev; have HEV := Lib.hid hev; have HA10 := Lib.hid ha; clear ha hev)
                | (go_at_call 18; (refine (raws_any _ _ _ HEV.out (by show 1 ≤ 900000; omega)).mono ?_); rintro e w10 ⟨v10, rfl, hro, hb⟩; obtain ⟨A10, c10, rfl, -, -, hcc⟩ := hro.at; have HA11 := Lib.hid (HA10.out.belows hb); have cF := HCF.out w10 HA11.out.be; obtain ⟨b10, rfl, -, k0, k1, kf⟩ := hcc 0 (.a 2 F) rfl; have k0' : w10.cell? ⟨b10, 0, none⟩ = some (.int .i64 3) := k0; have k1' : w10.cell? ⟨b10, 1, none⟩ = some (.int .i64 2) := k1; have k2' : w10.cell? ⟨b10, 2, none⟩ = some (.int .i64 (F : Int)) := kf; clear k0 k1 kf hro hb hcc)
                | (go_at_call 20; (refine (at_closed HA11.out false HCL.out).mono ?_); rintro e w11 ⟨rfl, rfl⟩))
              go_ret
              exact ⟨by first | rfl | simp, HA11.out.be⟩
  · obtain rfl : X = 20 := by omega
    have hli : (20 : Int) < (n : Int) := by omega
    have h20c : (20 : Int) ≤ (c : Int) := by omega
    obtain ⟨b, off, rfl, hbl, hbc⟩ := HRX.out (by rw [HX.out]; omega)
    have HBL := Lib.hid hbl; have HBC := Lib.hid hbc
    clear hbl hbc hXn
    by_cases g0 : frame < 1
    · go_enter Tryd.func9, Tryd.ntmps9
      go_wp2_with (first | (go_at_call 12; (refine HB.out.mono ?_); rintro en w1 ⟨rfl, hb⟩; have HB1 := Lib.hid hb; clear hb))
      go_ret
      exact ⟨rfl, HB1.out⟩
    by_cases g1 : 30 < frame
    · go_enter Tryd.func9, Tryd.ntmps9
      go_wp2_with (first | (go_at_call 12; (refine HB.out.mono ?_); rintro en w1 ⟨rfl, hb⟩; have HB1 := Lib.hid hb; clear hb))
      go_ret
      exact ⟨rfl, HB1.out⟩
    obtain ⟨F, rfl⟩ : ∃ F : Nat, frame = F := ⟨frame.toNat, by omega⟩
    obtain ⟨F1, hF1⟩ : ∃ F1 : Nat, F - 1 = F1 := ⟨_, rfl⟩
    have hf1i : (F : Int) - 1 = (F1 : Int) := by omega
    have HF1 : Hid (1 ≤ F) := by show _ ≤ _; omega
    have HF2 : Hid (F ≤ 30) := by show _ ≤ _; omega
    have HF1E := Lib.hid hF1
    obtain ⟨L, hL⟩ : ∃ L, (encC 1 2 0 3 0 0 F sum []).length = L := ⟨_, rfl⟩
    have HL := Lib.hid hL
    have HL4 : Hid (L ≤ 4096) := by show _ ≤ _; have := enc_short 1 2 0 3 0 0 F sum []; omega
    have HP := Lib.hid (refpk_own 2 0 3 0 F sum HS.out L hL)
    have HI : Hid (Told (encC 1 2 0 3 0 0 F sum []) (some (pkA21 F sum))) := is_in (f := 2) (t := 0) (ac := 0) (fr := F) (by omega) (by omega) (by omega) ⟨by omega, by omega⟩ (by omega) (by omega) (by simp) HS.out
    have HOA : Hid (Ok cfA21 1 (stA 0 0 false [] [])) := stA_ok 0 0 false [] [] (by omega) ⟨by omega, by omega⟩ (by simp) (fun m hm => by cases hm) (by show 0 ≤ 10; omega)
    have HR0 : Hid (recvP cfA21 (stA 0 0 false [] []) (some (pkA21 F sum)) = (0, stX F sum [])) := stA_recv0 F sum [] HF1.out
    clear hL
    cases late
    · skip
      go_enter Tryd.func9, Tryd.ntmps9
      go_wp2_with (first
        | (go_at_call 12; (refine HB.out.mono ?_); rintro en w1 ⟨rfl, hb⟩; have HB1 := Lib.hid hb; clear hb)
        | (go_at_call 13; (refine (HNew.out _ HB1.out).mono ?_); rintro en w2 ⟨cc, q, rfl, ha, -⟩; have HA2 := Lib.hid ha; clear ha HNew)
        | (go_at_call 15; (refine (HP.out _).mono ?_); rintro en w3 ⟨A3, c3, rfl, h1, h2, h3, hb⟩; have HA3 := Lib.hid (HA2.out.grab hb); have HQ1 := Lib.hid h1; have HQ2 := Lib.hid h2; have HRB : Hid (∀ wx, Same (Grab noB w2 w3) w3 wx → RB wx wx.heap.size A3 (encC 1 2 0 3 0 0 F sum [])) := fun wx S => h3 wx (fun k ha hb => S k (.inr ⟨ha, hb⟩)); have HS3 : Hid (Same (Grab noB w2 w3) w3 w3) := fun k hk => rfl; clear h1 h2 h3 hb)
        | (go_at_call 16; (refine (at_recv HF.out HA3.out HOA.out HT.out (by omega) A3 _ L c3 (HRB.out _ HS3.out) HL.out HQ1.out HQ2.out HL4.out _ HI.out 0 _ HR0.out).mono ?_); rintro en wrHA4 ⟨rfl, ha, hs⟩; have HA4 := Lib.hid ha; have HS4 : Hid (Same (Grab noB w2 w3) w3 wrHA4) := HS3.out.then_ hs; clear ha hs))
      go_loopw [13] (fun ii wr => ∃ k : Nat, ii = .int .i64 (k : Int) ∧ k ≤ 20 ∧ Hid (At w wr cfA21 cc q (stX F sum (ms.take k)) (Grab noB w2 w3)) ∧ Hid (Same (Grab noB w2 w3) w3 wr)) (fun ii _ => 20 - (intOf ii).toNat)
      case atStart => exact ⟨0, rfl, Nat.zero_le _, HA4, HS4⟩
      case round =>
        obtain ⟨k, rfl, hk, HA, HSA⟩ := hrel
        by_cases hlt : k < 20
        · have hkX : (k : Int) < (20 : Int) := by omega
          have hk2 : Hid (k + 1 ≤ 20) := hlt
          have hmz : Hid (20 - (k + 1) < 20 - k) := by show _ < _; omega
          have hbl := HBL.out; have hbc := HBC.out
          have hkx : k < ms.length := by rw [HX.out]; exact hlt
          have cx := (HA.out.be.cell (p := ⟨b, off + k, none⟩) hbl).trans (hbc k hkx)
          obtain ⟨v, hv⟩ : ∃ v, ms[k]'hkx = v := ⟨_, rfl⟩
          have hvz := HZ.out v (hv ▸ List.getElem_mem hkx)
          rw [hv] at cx
          have htk : ms.take (k + 1) = ms.take k ++ [v] := by rw [take_snoc ms k v (by rw [List.getElem?_eq_getElem hkx, hv])]
          have HMK := Lib.hid (at_mark HF.out HA.out (stX_ok F sum _ (by have := HF2.out; omega) HS.out (by rw [List.length_take]; have := HX20.out; omega) (fun m hm => HZ.out m (List.mem_of_mem_take hm))) (by omega) v hvz)
          rw [(stX_mark F sum _ HF1.out (by rw [List.length_take]; have := HX20.out; omega)), ← htk] at HMK
          clear hbl hbc hv htk hkx hvz
          go_wp2_with (first | (go_at_call 25; (refine HMK.out.mono ?_); rintro en w7 ⟨rfl, ha, hs⟩; have HA7 := Lib.hid ha; have HS7 := Lib.hid (HSA.out.then_ hs); clear ha hs))
          go_roundw
          case rel => exact ⟨k + 1, by go_num, hk2.out, HA7, HS7⟩
          case measure => simp [intOf]; have := hmz.out; omega
        · obtain rfl : k = 20 := by omega
          have hTK : ms.take 20 = ms := by rw [← HX.out, List.take_length]
          rw [hTK] at HA
          clear hTK
          by_cases c1 : 20 < F
          · skip
            have hFX : (20 : Int) < (F : Int) := by omega
            have HES : Hid ((stX F sum ms).es = []) := by show _ = _; unfold stX; rw [if_neg (fun h => by have := h.1; rw [HX.out] at this; omega)]; rfl
            have HCL : Hid ((stX F sum ms).cl = false) := by show _ = _; unfold stX; split <;> rfl
            have HOX : Hid (Ok cfA21 1 (stX F sum ms)) := stX_ok F sum ms (by have := HF2.out; omega) HS.out (by rw [HX.out]; have := HX20.out; omega) HZ.out
            have HRX2 : Hid (recvP cfA21 (stX F sum ms) (some (pkA21 F sum)) = (0, stX F sum ms)) := stX_recv F sum ms HF1.out
            go_wp2_with (first
              | (go_at_call 16; (refine (at_recv HF.out HA.out HOX.out HT.out (by omega) A3 _ L c3 (HRB.out _ HSA.out) HL.out HQ1.out HQ2.out HL4.out _ HI.out 0 _ HRX2.out).mono ?_); rintro en wrHA9 ⟨rfl, ha, hs⟩; have HA9 := Lib.hid ha; have HS9 : Hid (Same (Grab noB w2 w3) w3 wrHA9) := HSA.out.then_ hs; clear ha hs)
              | (go_at_call 19; (refine (at_events HA9.out).mono ?_); rintro e w9 ⟨v9, rfl, hev, ha, -⟩; rw [HES.out] at hev; have HEV := Lib.hid hev; have HA10 := Lib.hid ha; clear ha hev)
              | (go_at_call 18; (refine (raws_any _ _ _ HEV.out (by show 0 ≤ 900000; omega)).mono ?_); rintro e w10 ⟨v10, rfl, hro, hb⟩; obtain ⟨A10, c10, rfl, -, -, hcc⟩ := hro.at; have HA11 := Lib.hid (HA10.out.belows hb); clear hro hb hcc)
              | (go_at_call 20; (refine (at_closed HA11.out false HCL.out).mono ?_); rintro e w11 ⟨rfl, rfl⟩))
            go_ret
            exact ⟨by first | rfl | simp, HA11.out.be⟩
          · have hf1 : F1 < ms.length := by rw [HX.out]; omega
            by_cases hvs : ms[F1]'hf1 = sum
            · skip
              have hFX : (F : Int) ≤ (20 : Int) := by omega
              have hFd : decide ((20 : Int) < (F : Int)) = false := by simp; omega
              have hFe : decide (20 < F) = false := by simp; omega
              have hF1x : (F1 : Int) < (20 : Int) := by omega
              have hbl := HBL.out; have hbc := HBC.out
              have hcF := hbc F1 hf1
              rw [hvs] at hcF
              have HES : Hid ((stX F sum ms).es = []) := by show _ = _; unfold stX; rw [if_neg (fun h => by have := h.2; rw [HF1E.out, List.getElem?_eq_getElem hf1, hvs] at this; exact this rfl)]; rfl
              have HCF : Hid (∀ wx, Below w.heap.size w wx → wx.cell? ⟨b, off + F1, none⟩ = some (.int .u32 sum)) := fun wx hb => (hb.cell (p := ⟨b, off + F1, none⟩) hbl).trans hcF
              clear hbl hbc hcF hf1 hvs
              have HCL : Hid ((stX F sum ms).cl = false) := by show _ = _; unfold stX; split <;> rfl
              have HOX : Hid (Ok cfA21 1 (stX F sum ms)) := stX_ok F sum ms (by have := HF2.out; omega) HS.out (by rw [HX.out]; have := HX20.out; omega) HZ.out
              have HRX2 : Hid (recvP cfA21 (stX F sum ms) (some (pkA21 F sum)) = (0, stX F sum ms)) := stX_recv F sum ms HF1.out
              go_wp2_with (first
                | (go_at_call 16; (refine (at_recv HF.out HA.out HOX.out HT.out (by omega) A3 _ L c3 (HRB.out _ HSA.out) HL.out HQ1.out HQ2.out HL4.out _ HI.out 0 _ HRX2.out).mono ?_); rintro en wrHA9 ⟨rfl, ha, hs⟩; have HA9 := Lib.hid ha; have HS9 : Hid (Same (Grab noB w2 w3) w3 wrHA9) := HSA.out.then_ hs; clear ha hs)
                | (go_at_call 19; (refine (at_events HA9.out).mono ?_); rintro e w9 ⟨v9, rfl, hev, ha, -⟩; rw [HES.out] at hev; have HEV := Lib.hid hev; have HA10 := Lib.hid ha; clear ha hev)
                | (go_at_call 18; (refine (raws_any _ _ _ HEV.out (by show 0 ≤ 900000; omega)).mono ?_); rintro e w10 ⟨v10, rfl, hro, hb⟩; obtain ⟨A10, c10, rfl, -, -, hcc⟩ := hro.at; have HA11 := Lib.hid (HA10.out.belows hb); have cF := HCF.out w10 HA11.out.be; clear hro hb hcc)
                | (go_at_call 20; (refine (at_closed HA11.out false HCL.out).mono ?_); rintro e w11 ⟨rfl, rfl⟩))
              go_ret
              exact ⟨by first | rfl | simp, HA11.out.be⟩
            · skip
              have hFX : (F : Int) ≤ (20 : Int) := by omega
              have hFd : decide ((20 : Int) < (F : Int)) = false := by simp; omega
              have hFe : decide (20 < F) = false := by simp; omega
              have hF1x : (F1 : Int) < (20 : Int) := by omega
              have hbl := HBL.out; have hbc := HBC.out
              have hcF := hbc F1 hf1
              obtain ⟨v, hv⟩ : ∃ v, ms[F1]'hf1 = v := ⟨_, rfl⟩
              rw [hv] at hcF hvs
              have hvb : (v == sum) = false := by simp; exact hvs
              have HES : Hid ((stX F sum ms).es = [.a 2 F]) := by show _ = _; unfold stX; rw [if_pos (show BadA F sum ms from ⟨by rw [HX.out]; omega, by rw [HF1E.out, List.getElem?_eq_getElem hf1, hv]; exact fun e => hvs (Option.some.inj e)⟩)]; rfl
              have HCF : Hid (∀ wx, Below w.heap.size w wx → wx.cell? ⟨b, off + F1, none⟩ = some (.int .u32 v)) := fun wx hb => (hb.cell (p := ⟨b, off + F1, none⟩) hbl).trans hcF
              clear hbl hbc hcF hf1 hv hvs
              have HCL : Hid ((stX F sum ms).cl = false) := by show _ = _; unfold stX; split <;> rfl
              have HOX : Hid (Ok cfA21 1 (stX F sum ms)) := stX_ok F sum ms (by have := HF2.out; omega) HS.out (by rw [HX.out]; have := HX20.out; omega) HZ.out
              have HRX2 : Hid (recvP cfA21 (stX F sum ms) (some (pkA21 F sum)) = (0, stX F sum ms)) := stX_recv F sum ms HF1.out
              go_wp2_with (first
                | (go_at_call 16; (refine (at_recv HF.out HA.out HOX.out HT.out (by omega) A3 _ L c3 (HRB.out _ HSA.out) HL.out HQ1.out HQ2.out HL4.out _ HI.out 0 _ HRX2.out).mono ?_); rintro en wrHA9 ⟨rfl, ha, hs⟩; have HA9 := Lib.hid ha; have HS9 : Hid (Same (Grab noB w2 w3) w3 wrHA9) := HSA.out.then_ hs; clear ha hs)
                | (go_at_call 19; (refine (at_events HA9.out).mono ?_); rintro e w9 ⟨v9, rfl, hev, ha, -⟩; rw [HES.out] at hev; have HEV := Lib.hid hev; have HA10 := Lib.hid ha; clear ha hev)
                | (go_at_call 18; (refine (raws_any _ _ _ HEV.out (by show 1 ≤ 900000; omega)).mono ?_); rintro e w10 ⟨v10, rfl, hro, hb⟩; obtain ⟨A10, c10, rfl, -, -, hcc⟩ := hro.at; have HA11 := Lib.hid (HA10.out.belows hb); have cF := HCF.out w10 HA11.out.be; obtain ⟨b10, rfl, -, k0, k1, kf⟩ := hcc 0 (.a 2 F) rfl; have k0' : w10.cell? ⟨b10, 0, none⟩ = some (.int .i64 3) := k0; have k1' : w10.cell? ⟨b10, 1, none⟩ = some (.int .i64 2) := k1; have k2' : w10.cell? ⟨b10, 2, none⟩ = some (.int .i64 (F : Int)) := kf; clear k0 k1 kf hro hb hcc)
                | (go_at_call 20; (refine (at_closed HA11.out false HCL.out).mono ?_); rintro e w11 ⟨rfl, rfl⟩))
              go_ret
              exact ⟨by first | rfl | simp, HA11.out.be⟩
    · skip
      go_enter Tryd.func9, Tryd.ntmps9
      go_wp2_with (first
        | (go_at_call 12; (refine HB.out.mono ?_); rintro en w1 ⟨rfl, hb⟩; have HB1 := Lib.hid hb; clear hb)
        | (go_at_call 13; (refine (HNew.out _ HB1.out).mono ?_); rintro en w2 ⟨cc, q, rfl, ha, -⟩; have HA2 := Lib.hid ha; clear ha HNew)
        | (go_at_call 15; (refine (HP.out _).mono ?_); rintro en w3 ⟨A3, c3, rfl, h1, h2, h3, hb⟩; have HA3 := Lib.hid (HA2.out.grab hb); have HQ1 := Lib.hid h1; have HQ2 := Lib.hid h2; have HRB : Hid (∀ wx, Same (Grab noB w2 w3) w3 wx → RB wx wx.heap.size A3 (encC 1 2 0 3 0 0 F sum [])) := fun wx S => h3 wx (fun k ha hb => S k (.inr ⟨ha, hb⟩)); have HS3 : Hid (Same (Grab noB w2 w3) w3 w3) := fun k hk => rfl; clear h1 h2 h3 hb))
      go_loopw [13] (fun ii wr => ∃ k : Nat, ii = .int .i64 (k : Int) ∧ k ≤ 20 ∧ Hid (At w wr cfA21 cc q (stA 0 0 false (ms.take k) []) (Grab noB w2 w3)) ∧ Hid (Same (Grab noB w2 w3) w3 wr)) (fun ii _ => 20 - (intOf ii).toNat)
      case atStart => exact ⟨0, rfl, Nat.zero_le _, HA3, HS3⟩
      case round =>
        obtain ⟨k, rfl, hk, HA, HSA⟩ := hrel
        by_cases hlt : k < 20
        · have hkX : (k : Int) < (20 : Int) := by omega
          have hk2 : Hid (k + 1 ≤ 20) := hlt
          have hmz : Hid (20 - (k + 1) < 20 - k) := by show _ < _; omega
          have hbl := HBL.out; have hbc := HBC.out
          have hkx : k < ms.length := by rw [HX.out]; exact hlt
          have cx := (HA.out.be.cell (p := ⟨b, off + k, none⟩) hbl).trans (hbc k hkx)
          obtain ⟨v, hv⟩ : ∃ v, ms[k]'hkx = v := ⟨_, rfl⟩
          have hvz := HZ.out v (hv ▸ List.getElem_mem hkx)
          rw [hv] at cx
          have htk : ms.take (k + 1) = ms.take k ++ [v] := by rw [take_snoc ms k v (by rw [List.getElem?_eq_getElem hkx, hv])]
          have HMK := Lib.hid (at_mark HF.out HA.out (stA_ok 0 0 false _ _ (by omega) ⟨by omega, by omega⟩ (by rw [List.length_take]; have := HX20.out; omega) (fun m hm => HZ.out m (List.mem_of_mem_take hm)) (by show 0 ≤ 10; omega)) (by omega) v hvz)
          rw [(stA_mark _ (by rw [List.length_take]; have := HX20.out; omega)), ← htk] at HMK
          clear hbl hbc hv htk hkx hvz
          go_wp2_with (first | (go_at_call 25; (refine HMK.out.mono ?_); rintro en w7 ⟨rfl, ha, hs⟩; have HA7 := Lib.hid ha; have HS7 := Lib.hid (HSA.out.then_ hs); clear ha hs))
          go_roundw
          case rel => exact ⟨k + 1, by go_num, hk2.out, HA7, HS7⟩
          case measure => simp [intOf]; have := hmz.out; omega
        · obtain rfl : k = 20 := by omega
          have hTK : ms.take 20 = ms := by rw [← HX.out, List.take_length]
          rw [hTK] at HA
          clear hTK
          by_cases c1 : 20 < F
          · skip
            have hFX : (20 : Int) < (F : Int) := by omega
            have HES : Hid ((stX F sum ms).es = []) := by show _ = _; unfold stX; rw [if_neg (fun h => by have := h.1; rw [HX.out] at this; omega)]; rfl
            have HCL : Hid ((stX F sum ms).cl = false) := by show _ = _; unfold stX; split <;> rfl
            have HOX : Hid (Ok cfA21 1 (stX F sum ms)) := stX_ok F sum ms (by have := HF2.out; omega) HS.out (by rw [HX.out]; have := HX20.out; omega) HZ.out
            have HRX2 : Hid (recvP cfA21 (stX F sum ms) (some (pkA21 F sum)) = (0, stX F sum ms)) := stX_recv F sum ms HF1.out
            have HOL : Hid (Ok cfA21 1 (stA 0 0 false ms [])) := stA_ok 0 0 false _ _ (by omega) ⟨by omega, by omega⟩ (by rw [HX.out]; have := HX20.out; omega) HZ.out (by show 0 ≤ 10; omega)
            have HRL : Hid (recvP cfA21 (stA 0 0 false ms []) (some (pkA21 F sum)) = (0, stX F sum ms)) := stA_recv0 F sum ms HF1.out
            go_wp2_with (first
              | (go_at_call 16; first | (have h99 := HA8.out; clear h99; (refine (at_recv HF.out HA8.out HOX.out HT.out (by omega) A3 _ L c3 (HRB.out _ HS8.out) HL.out HQ1.out HQ2.out HL4.out _ HI.out 0 _ HRX2.out).mono ?_); rintro en wrHA9 ⟨rfl, ha, hs⟩; have HA9 := Lib.hid ha; have HS9 : Hid (Same (Grab noB w2 w3) w3 wrHA9) := HS8.out.then_ hs; clear ha hs) | ((refine (at_recv HF.out HA.out HOL.out HT.out (by omega) A3 _ L c3 (HRB.out _ HSA.out) HL.out HQ1.out HQ2.out HL4.out _ HI.out 0 _ HRL.out).mono ?_); rintro en wrHA8 ⟨rfl, ha, hs⟩; have HA8 := Lib.hid ha; have HS8 : Hid (Same (Grab noB w2 w3) w3 wrHA8) := HSA.out.then_ hs; clear ha hs))
              | (go_at_call 19; (refine (at_events HA9.out).mono ?_); rintro e w9 ⟨v9, rfl, hev, ha, -⟩; rw [HES.out] at hev; have HEV := Lib.hid hev; have HA10 := Lib.hid ha; clear ha hev)
              | (go_at_call 18; (refine (raws_any _ _ _ HEV.out (by show 0 ≤ 900000; omega)).mono ?_); rintro e w10 ⟨v10, rfl, hro, hb⟩; obtain ⟨A10, c10, rfl, -, -, hcc⟩ := hro.at; have HA11 := Lib.hid (HA10.out.belows hb); clear hro hb hcc)
              | (go_at_call 20; (refine (at_closed HA11.out false HCL.out).mono ?_); rintro e w11 ⟨rfl, rfl⟩))
            go_ret
            exact ⟨by first | rfl | simp, HA11.out.be⟩
          · have hf1 : F1 < ms.length := by rw [HX.out]; omega
            by_cases hvs : ms[F1]'hf1 = sum
            · skip
              have hFX : (F : Int) ≤ (20 : Int) := by omega
              have hFd : decide ((20 : Int) < (F : Int)) = false := by simp; omega
              have hFe : decide (20 < F) = false := by simp; omega
              have hF1x : (F1 : Int) < (20 : Int) := by omega
              have hbl := HBL.out; have hbc := HBC.out
              have hcF := hbc F1 hf1
              rw [hvs] at hcF
              have HES : Hid ((stX F sum ms).es = []) := by show _ = _; unfold stX; rw [if_neg (fun h => by have := h.2; rw [HF1E.out, List.getElem?_eq_getElem hf1, hvs] at this; exact this rfl)]; rfl
              have HCF : Hid (∀ wx, Below w.heap.size w wx → wx.cell? ⟨b, off + F1, none⟩ = some (.int .u32 sum)) := fun wx hb => (hb.cell (p := ⟨b, off + F1, none⟩) hbl).trans hcF
              clear hbl hbc hcF hf1 hvs
              have HCL : Hid ((stX F sum ms).cl = false) := by show _ = _; unfold stX; split <;> rfl
              have HOX : Hid (Ok cfA21 1 (stX F sum ms)) := stX_ok F sum ms (by have := HF2.out; omega) HS.out (by rw [HX.out]; have := HX20.out; omega) HZ.out
              have HRX2 : Hid (recvP cfA21 (stX F sum ms) (some (pkA21 F sum)) = (0, stX F sum ms)) := stX_recv F sum ms HF1.out
              have HOL : Hid (Ok cfA21 1 (stA 0 0 false ms [])) := stA_ok 0 0 false _ _ (by omega) ⟨by omega, by omega⟩ (by rw [HX.out]; have := HX20.out; omega) HZ.out (by show 0 ≤ 10; omega)
              have HRL : Hid (recvP cfA21 (stA 0 0 false ms []) (some (pkA21 F sum)) = (0, stX F sum ms)) := stA_recv0 F sum ms HF1.out
              go_wp2_with (first
                | (go_at_call 16; first | (have h99 := HA8.out; clear h99; (refine (at_recv HF.out HA8.out HOX.out HT.out (by omega) A3 _ L c3 (HRB.out _ HS8.out) HL.out HQ1.out HQ2.out HL4.out _ HI.out 0 _ HRX2.out).mono ?_); rintro en wrHA9 ⟨rfl, ha, hs⟩; have HA9 := Lib.hid ha; have HS9 : Hid (Same (Grab noB w2 w3) w3 wrHA9) := HS8.out.then_ hs; clear ha hs) | ((refine (at_recv HF.out HA.out HOL.out HT.out (by omega) A3 _ L c3 (HRB.out _ HSA.out) HL.out HQ1.out HQ2.out HL4.out _ HI.out 0 _ HRL.out).mono ?_); rintro en wrHA8 ⟨rfl, ha, hs⟩; have HA8 := Lib.hid ha; have HS8 : Hid (Same (Grab noB w2 w3) w3 wrHA8) := HSA.out.then_ hs; clear ha hs))
                | (go_at_call 19; (refine (at_events HA9.out).mono ?_); rintro e w9 ⟨v9, rfl, hev, ha, -⟩; rw [HES.out] at hev; have HEV := Lib.hid hev; have HA10 := Lib.hid ha; clear ha hev)
                | (go_at_call 18; (refine (raws_any _ _ _ HEV.out (by show 0 ≤ 900000; omega)).mono ?_); rintro e w10 ⟨v10, rfl, hro, hb⟩; obtain ⟨A10, c10, rfl, -, -, hcc⟩ := hro.at; have HA11 := Lib.hid (HA10.out.belows hb); have cF := HCF.out w10 HA11.out.be; clear hro hb hcc)
                | (go_at_call 20; (refine (at_closed HA11.out false HCL.out).mono ?_); rintro e w11 ⟨rfl, rfl⟩))
              go_ret
              exact ⟨by first | rfl | simp, HA11.out.be⟩
            · skip
              have hFX : (F : Int) ≤ (20 : Int) := by omega
              have hFd : decide ((20 : Int) < (F : Int)) = false := by simp; omega
              have hFe : decide (20 < F) = false := by simp; omega
              have hF1x : (F1 : Int) < (20 : Int) := by omega
              have hbl := HBL.out; have hbc := HBC.out
              have hcF := hbc F1 hf1
              obtain ⟨v, hv⟩ : ∃ v, ms[F1]'hf1 = v := ⟨_, rfl⟩
              rw [hv] at hcF hvs
              have hvb : (v == sum) = false := by simp; exact hvs
              have HES : Hid ((stX F sum ms).es = [.a 2 F]) := by show _ = _; unfold stX; rw [if_pos (show BadA F sum ms from ⟨by rw [HX.out]; omega, by rw [HF1E.out, List.getElem?_eq_getElem hf1, hv]; exact fun e => hvs (Option.some.inj e)⟩)]; rfl
              have HCF : Hid (∀ wx, Below w.heap.size w wx → wx.cell? ⟨b, off + F1, none⟩ = some (.int .u32 v)) := fun wx hb => (hb.cell (p := ⟨b, off + F1, none⟩) hbl).trans hcF
              clear hbl hbc hcF hf1 hv hvs
              have HCL : Hid ((stX F sum ms).cl = false) := by show _ = _; unfold stX; split <;> rfl
              have HOX : Hid (Ok cfA21 1 (stX F sum ms)) := stX_ok F sum ms (by have := HF2.out; omega) HS.out (by rw [HX.out]; have := HX20.out; omega) HZ.out
              have HRX2 : Hid (recvP cfA21 (stX F sum ms) (some (pkA21 F sum)) = (0, stX F sum ms)) := stX_recv F sum ms HF1.out
              have HOL : Hid (Ok cfA21 1 (stA 0 0 false ms [])) := stA_ok 0 0 false _ _ (by omega) ⟨by omega, by omega⟩ (by rw [HX.out]; have := HX20.out; omega) HZ.out (by show 0 ≤ 10; omega)
              have HRL : Hid (recvP cfA21 (stA 0 0 false ms []) (some (pkA21 F sum)) = (0, stX F sum ms)) := stA_recv0 F sum ms HF1.out
              go_wp2_with (first
                | (go_at_call 16; first | (have h99 := HA8.out; clear h99; (refine (at_recv HF.out HA8.out HOX.out HT.out (by omega) A3 _ L c3 (HRB.out _ HS8.out) HL.out HQ1.out HQ2.out HL4.out _ HI.out 0 _ HRX2.out).mono ?_); rintro en wrHA9 ⟨rfl, ha, hs⟩; have HA9 := Lib.hid ha; have HS9 : Hid (Same (Grab noB w2 w3) w3 wrHA9) := HS8.out.then_ hs; clear ha hs) | ((refine (at_recv HF.out HA.out HOL.out HT.out (by omega) A3 _ L c3 (HRB.out _ HSA.out) HL.out HQ1.out HQ2.out HL4.out _ HI.out 0 _ HRL.out).mono ?_); rintro en wrHA8 ⟨rfl, ha, hs⟩; have HA8 := Lib.hid ha; have HS8 : Hid (Same (Grab noB w2 w3) w3 wrHA8) := HSA.out.then_ hs; clear ha hs))
                | (go_at_call 19; (refine (at_events HA9.out).mono ?_); rintro e w9 ⟨v9, rfl, hev, ha, -⟩; rw [HES.out] at hev; have HEV := Lib.hid hev; have HA10 := Lib.hid ha; clear ha hev)
                | (go_at_call 18; (refine (raws_any _ _ _ HEV.out (by show 1 ≤ 900000; omega)).mono ?_); rintro e w10 ⟨v10, rfl, hro, hb⟩; obtain ⟨A10, c10, rfl, -, -, hcc⟩ := hro.at; have HA11 := Lib.hid (HA10.out.belows hb); have cF := HCF.out w10 HA11.out.be; obtain ⟨b10, rfl, -, k0, k1, kf⟩ := hcc 0 (.a 2 F) rfl; have k0' : w10.cell? ⟨b10, 0, none⟩ = some (.int .i64 3) := k0; have k1' : w10.cell? ⟨b10, 1, none⟩ = some (.int .i64 2) := k1; have k2' : w10.cell? ⟨b10, 2, none⟩ = some (.int .i64 (F : Int)) := kf; clear k0 k1 kf hro hb hcc)
                | (go_at_call 20; (refine (at_closed HA11.out false HCL.out).mono ?_); rintro e w11 ⟨rfl, rfl⟩))
              go_ret
              exact ⟨by first | rfl | simp, HA11.out.be⟩
end Go.Proofs.YtclgcfofgiejgaaDoor
