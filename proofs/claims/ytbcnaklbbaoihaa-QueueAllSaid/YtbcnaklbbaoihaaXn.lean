/- WALK of the law QueueAll. -/
import Derived.Test.YtbcnaklbbaoihaaXm
import Derived.Test.YtbcnaklbbaoihaaKr
namespace Go.Proofs.Ytbcnaklbbaoihaa
set_option maxRecDepth 100000
open Go.RowKit
set_option linter.unusedVariables false
set_option linter.unusedSimpArgs false

set_option maxHeartbeats 8000000 in
theorem all_law (n d f : Int) (A0 : Option Addr) (os : List O4) (cap0 : Nat) (w : World) (h0 : RO4 w w.heap.size A0 os) (k0 : os.length ≤ cap0) (m0 : cap0 ≤ maxLen) (hos : ∀ o ∈ os, InO4 w o)
    (n1 : -9223372036854775808 ≤ n) (n2 : n ≤ 9223372036854775807) (d1 : -9223372036854775808 ≤ d) (d2 : d ≤ 9223372036854775807) (f1 : -9223372036854775808 ≤ f) (f2 : f ≤ 9223372036854775807) :
    Calls Try.prog 3 #[.int .i64 n, .int .i64 d, .slice A0 os.length cap0, .int .i64 f] w fun e w' => e = .returned (.bool true) ∧ Below w.heap.size w w' := by
  have HG := Lib.hid (begun17_any w)
  obtain ⟨Q, hQ⟩ : ∃ Q, os.length = Q := ⟨_, rfl⟩
  rw [hQ] at k0 ⊢
  have H0 := Lib.hid h0; have HQ := Lib.hid hQ; have HOS := Lib.hid hos
  obtain ⟨N, hN⟩ : ∃ N : Nat, (N : Int) = min (max n 2) 8 := ⟨(min (max n 2) 8).toNat, by omega⟩
  obtain ⟨K, hK⟩ : ∃ K : Nat, (K : Int) = min (max d 0) 8 := ⟨(min (max d 0) 8).toNat, by omega⟩
  obtain ⟨a8, ha8⟩ : ∃ a : Int, min n 8 = a := ⟨_, rfl⟩
  obtain ⟨b8, hb8⟩ : ∃ a : Int, min d 8 = a := ⟨_, rfl⟩
  have ha2 : max 2 a8 = (N : Int) := by omega
  have hb2 : max 0 b8 = (K : Int) := by omega
  have hN2 : 2 ≤ N := by omega
  have hN8 : N ≤ 8 := by omega
  have hK8 : K ≤ 8 := by omega
  have HNEW := Lib.hid (fun (W : World) (hb : Below w.heap.size w W) => qf_new w W hb noB (no_noB _ _) n d N K hN hK)
  clear h0 hQ hos hN hK k0 m0 n1 n2 d1 d2 f1 f2
  go_enter Try.func3, Try.ntmps3
  go_wp2_with (go_at_call 7; with_reducible refine HG.out.mono ?_; rintro e w3 ⟨rfl, hb⟩; have HB := Lib.hid hb; clear hb)
  (with_reducible refine (HNEW.out _ HB.out).mono ?_)
  rintro e w4 ⟨q, r, xs, rfl, F4, hmp, -⟩
  have HLN := Lib.hid (lines_any w4 N K hN8 hK8)
  have HF4 := Lib.hid F4; have HMP := Lib.hid hmp
  clear HG HNEW HB F4 hmp
  go_wp2_with fail
  (with_reducible refine HLN.out.mono ?_)
  rintro e w5 ⟨V, ms, rfl, l5, hmm, b5⟩
  have hmn : ms.length = N := by have := congrArg List.length hmm; rw [List.length_map, List.length_replicate] at this; exact this
  have F5 : QF w w5 q r xs (LB V ms) := HF4.out.add b5 fun k hk => .inr ⟨(l5.lt hk).1, (l5.lt hk).2⟩
  have hxn : xs.length = N := by have := congrArg List.length HMP.out; rw [List.length_map, List.length_replicate] at this; exact this
  obtain ⟨g, c0, cur, rfl, -, -, -, -⟩ := l5.form (by omega) N hmn
  have HB5 : Hid (Bth w w5 q r N (.slice (some ⟨g, 0, none⟩) N c0) xs ms) := ⟨F5, l5.less HF4.out.be.size, hxn, by rw [hmm, HMP.out]⟩
  clear HLN HF4 HMP l5 hmm b5 hmn F5 hxn ha8 hb8 ha2 hb2
  go_wp2_with fail
  go_loopw [12, 13, 14, 15, 16, 17, 18] (fun ii s13 s14 s15 s16 s17 s18 wr => ∃ (i : Nat) (xs : List Ln) (ms : List Rl), ii = .int .i64 (i : Int) ∧ i ≤ 50 ∧ Hid (Bth w wr q r N (.slice (some ⟨g, 0, none⟩) N c0) xs ms)) (fun ii _ _ _ _ _ _ _ => 50 - (intOf ii).toNat)
  case atStart => exact ⟨0, xs, ms, rfl, by omega, HB5⟩
  case round =>
    obtain ⟨i, xs, ms, rfl, hi, HB⟩ := hrel
    clear HB5
    by_cases hgo : i < Q ∧ i < 50
    · obtain ⟨hiq, hi50⟩ := hgo
      have z1 : (i : Int) < (Q : Int) := by omega
      have z2 : (i : Int) < 50 := by omega
      obtain ⟨b, off, rfl, hbw, hat⟩ := H0.out (by have := HQ.out; omega)
      obtain ⟨o, ho⟩ : ∃ o, os[i]'(by have := HQ.out; omega) = o := ⟨_, rfl⟩
      have hin := HOS.out o (by rw [← ho]; exact List.getElem_mem _)
      have hat4 : Hid (at4 wr b (off + i * 4) o) := by
        have h1 := hat i (by have := HQ.out; omega)
        rw [ho] at h1
        obtain ⟨x0, x1, x2, x3⟩ := h1
        have hb := HB.out.1.be
        exact ⟨(hb.cell (p := ⟨b, _, none⟩) hbw).trans x0, (hb.cell (p := ⟨b, _, none⟩) hbw).trans x1, (hb.cell (p := ⟨b, _, none⟩) hbw).trans x2, (hb.cell (p := ⟨b, _, none⟩) hbw).trans x3⟩
      have HDO := Lib.hid (do_any w wr q r xs g N c0 ms HB.out hN8 o.k o.p o.f o.a o.l o.l.length o.cap rfl hin.le hin.cm hin.rb)
      clear hat ho hin
      go_wp2_with (refine wpList_load_op rfl (.tmp 48) rfl b (off + i * 4) (by rfl) hat4.out ?_)
      (with_reducible refine HDO.out.mono ?_)
      rintro e w6 ⟨rfl, xs6, ms6, B6⟩
      obtain ⟨F, hF⟩ : ∃ F, frontN xs6 = F := ⟨_, rfl⟩
      have hx0 : 0 < xs6.length := by have := B6.2.2.1; omega
      have hx8 : xs6.length ≤ 8 := by have := B6.2.2.1; omega
      have RF := Lib.hid (rfront_any w6 w.heap.size _ ms6 B6.2.1 (by have := B6.mlen; omega) (by have := B6.mlen; omega) B6.small F (B6.front.trans hF))
      have QFr := Lib.hid (front_any w6 q r xs6 B6.1.qm hx0 hx8 F hF)
      have QN := Lib.hid (qn_any w6 q r xs6 B6.1.qm N B6.2.2.1)
      have HB6 := Lib.hid B6; have HF := Lib.hid hF; have HX0 := Lib.hid hx0; have HX8 := Lib.hid hx8
      have hF1 : F ≤ 1000 := by rw [← hF]; exact frontN_le xs6
      clear HDO HB hat4 B6 hF hx0 hx8
      go_upto_region 15 with (first
        | (go_at_call 11; with_reducible refine RF.out.mono ?_; rintro e w7 ⟨rfl, rfl⟩)
        | (go_at_call 12; with_reducible refine QFr.out.mono ?_; rintro e w7 ⟨rfl, rfl⟩)
        | (go_at_call 13; with_reducible refine QN.out.mono ?_; rintro e w7 ⟨rfl, rfl⟩))
      clear RF QFr QN
      obtain ⟨inb, hinb⟩ : ∃ inb : Bool, inb = decide (0 ≤ f ∧ f < (F : Int)) := ⟨_, rfl⟩
      have HI := Lib.hid hinb; clear hinb
      go_cut [14, 15] (fun s14 s15 wx => ∃ (A : Option Addr) (m c : Nat), s14 = .slice A m c ∧ s15 = .bool inb ∧ Hid (inb = false → m = 0) ∧ Hid (inb = true → m = N ∧ OB wx w6.heap.size (.slice A m c) (jointN xs6 f.toNat)) ∧ Hid (Bth w wx q r N (.slice (some ⟨g, 0, none⟩) N c0) xs6 ms6))
      case first =>
        by_cases hin : 0 ≤ f ∧ f < (F : Int)
        · have hib : inb = true := by rw [HI.out]; exact decide_eq_true hin
          subst hib
          obtain ⟨j, rfl⟩ : ∃ j : Nat, f = j := ⟨f.toNat, by omega⟩
          have HJ := Lib.hid (joint_in w6 q r xs6 HB6.out.1.qm N HB6.out.2.2.1 (by omega) hN8 F HF.out (j : Int) j rfl (by omega))
          go_wp2_with (go_at_call 14; with_reducible refine HJ.out.mono ?_; rintro e w7 ⟨rfl, o7, b7⟩)
          go_meet
          exact ⟨_, N, N, rfl, rfl, (fun h => by cases h), (fun _ => ⟨rfl, o7⟩), HB6.out.belows b7⟩
        · have hib : inb = false := by rw [HI.out]; exact decide_eq_false hin
          subst hib
          have HJ := Lib.hid (joint_out w6 q r xs6 HB6.out.1.qm HX0.out HX8.out F HF.out f hin)
          go_wp2_with (go_at_call 14; with_reducible refine HJ.out.mono ?_; rintro e w7 ⟨rfl, rfl⟩)
          go_meet
          exact ⟨none, 0, 0, rfl, rfl, (fun _ => rfl), (fun h => by cases h), HB6⟩
      case rest =>
        obtain ⟨Aj, mj, cj, rfl, rfl, hout, hjn, B7⟩ := hcut
        obtain ⟨w7, rfl⟩ : ∃ W, W = wc := ⟨wc, rfl⟩
        have H67 : Hid (w6.heap.size = w6.heap.size) := rfl
        generalize w6.heap.size = S6 at hjn
        clear HB6 H67
        go_upto_region 16 with fail
        go_cut [16] (fun s16 wx => s16 = .bool inb ∧ wx = w7)
        case first =>
          by_cases i0 : 0 ≤ f
          · by_cases i1 : f < (F : Int)
            · have i2 : Hid (inb = true) := by show _ = _; rw [HI.out]; exact decide_eq_true ⟨i0, i1⟩
              go_wp2
              go_meet
              exact ⟨by rw [i2.out], rfl⟩
            · have i2 : Hid (inb = false) := by show _ = _; rw [HI.out]; exact decide_eq_false (fun h => i1 h.2)
              have i3 : decide (f < (F : Int)) = false := decide_eq_false i1
              go_wp2
              go_meet
              exact ⟨by rw [i2.out] <;> first | rfl | (simp [i3]; done), rfl⟩
          · have i2 : Hid (inb = false) := by show _ = _; rw [HI.out]; exact decide_eq_false (fun h => i0 h.1)
            go_wp2
            go_meet
            exact ⟨by rw [i2.out], rfl⟩
        case rest =>
          obtain ⟨rfl, hw⟩ := hcut
          subst wc
          go_upto_region 17 with fail
          go_cut [100] (fun s100 wx => s100 = .bool false ∧ Hid (Bth w wx q r N (.slice (some ⟨g, 0, none⟩) N c0) xs6 ms6))
          case first =>
            cases inb with
            | true =>
              obtain ⟨rfl, oj⟩ := hjn.out rfl
              have hfin : 0 ≤ f ∧ f < (F : Int) := of_decide_eq_true HI.out.symm
              have hj1 : f.toNat < frontN xs6 := by rw [HF.out]; omega
              obtain ⟨st, hst⟩ : ∃ st, str (jointN xs6 f.toNat) = st := ⟨_, rfl⟩
              have hjl : (jointN xs6 f.toNat).length = mj := by rw [jointN_len]; exact B7.out.2.2.1
              have hjp : jointP (ms6.map Rl.l) f.toNat = jointN xs6 f.toNat := by rw [jointN_P, B7.out.2.2.2]
              have r7 := oj.cells
              have cv1 : (convert 29 9 (.slice Aj mj cj)).run Try.prog w7.drew = .ok (.string st) w7.drew := by rw [← hst]; exact conv_rb (w := w7.drew) r7 mj cj hjl
              have HRJ := Lib.hid (rjoint_any w7.drew w.heap.size _ ms6 B7.out.drew.2.1 (by have := B7.out.mlen; omega) (by have := B7.out.mlen; omega) B7.out.small f f.toNat (by omega) (B7.out.ahead f.toNat hj1))
              have HR7 := Lib.hid r7; have HST := Lib.hid hst; have HJL := Lib.hid hjl; have HJP := Lib.hid hjp
              clear oj hfin hj1 hst hjl hjp r7
              refine wp_region_held_drew (S := (fun w' => (convert 29 9 (.slice Aj mj cj)).run Try.prog w' = .ok (.string st) w')) (by kernel_rfl) (cv1) (fun hHeld => ?_)
              refine held_take (i := 0) (v := ?_) rfl (by kernel_rfl) (by kernel_rfl) (by kernel_rfl) (fun _ _ _ h => h) (by rfl) hHeld ?_ ?_
              rotate_left 1
              · (intro w hSw; (try dsimp only at hSw); go_simp; try (with_reducible rfl))
              try simp only [Act.put, List.setIfInBounds_toArray, List.set_cons_zero, List.set_cons_succ]
              refine held_take (i := 1) (v := ?_) rfl (by kernel_rfl) (by kernel_rfl) (by kernel_rfl) (fun _ _ _ h => h) (by rfl) hHeld ?_ ?_
              rotate_left 1
              · (intro w hSw; (try dsimp only at hSw); go_simp; try (with_reducible rfl))
              try simp only [Act.put, List.setIfInBounds_toArray, List.set_cons_zero, List.set_cons_succ]
              refine held_take (i := 2) (v := ?_) rfl (by kernel_rfl) (by kernel_rfl) (by kernel_rfl) (fun _ _ _ h => h) (by rfl) hHeld ?_ ?_
              rotate_left 1
              · (intro w hSw; (try dsimp only at hSw); go_simp; try (with_reducible rfl))
              try simp only [Act.put, List.setIfInBounds_toArray, List.set_cons_zero, List.set_cons_succ]
              refine held_take (i := 3) (v := ?_) rfl (by kernel_rfl) (by kernel_rfl) (by kernel_rfl) (fun _ _ _ h => h) (by rfl) hHeld ?_ ?_
              rotate_left 1
              · (intro w hSw; (try dsimp only at hSw); go_simp; try (with_reducible rfl))
              try simp only [Act.put, List.setIfInBounds_toArray, List.set_cons_zero, List.set_cons_succ]
              refine held_take (i := 4) (v := ?_) rfl (by kernel_rfl) (by kernel_rfl) (by kernel_rfl) (fun _ _ _ h => h) (by rfl) hHeld ?_ ?_
              rotate_left 1
              · (intro w hSw; (try dsimp only at hSw); go_simp; try (with_reducible rfl))
              try simp only [Act.put, List.setIfInBounds_toArray, List.set_cons_zero, List.set_cons_succ]
              refine held_take (i := 5) (v := ?_) rfl (by kernel_rfl) (by kernel_rfl) (by kernel_rfl) (fun _ _ _ h => h) (by rfl) hHeld ?_ ?_
              rotate_left 1
              · (intro w hSw; (try dsimp only at hSw); go_simp; try (with_reducible rfl))
              try simp only [Act.put, List.setIfInBounds_toArray, List.set_cons_zero, List.set_cons_succ]
              refine held_take (i := 6) (v := ?_) rfl (by kernel_rfl) (by kernel_rfl) (by kernel_rfl) (fun _ _ _ h => h) (by rfl) hHeld ?_ ?_
              rotate_left 1
              · (intro w hSw; (try dsimp only at hSw); go_simp; try (with_reducible rfl))
              try simp only [Act.put, List.setIfInBounds_toArray, List.set_cons_zero, List.set_cons_succ]
              refine held_take (i := 7) (v := ?_) rfl (by kernel_rfl) (by kernel_rfl) (by kernel_rfl) (fun _ _ _ h => h) (by rfl) hHeld ?_ ?_
              rotate_left 1
              · (intro w hSw; (try dsimp only at hSw); go_simp; try (with_reducible rfl))
              try simp only [Act.put, List.setIfInBounds_toArray, List.set_cons_zero, List.set_cons_succ]
              refine held_take (i := 8) (v := ?_) rfl (by kernel_rfl) (by kernel_rfl) (by kernel_rfl) (fun _ _ _ h => h) (by rfl) hHeld ?_ ?_
              rotate_left 1
              · (intro w hSw; (try dsimp only at hSw); go_simp; try (with_reducible rfl))
              try simp only [Act.put, List.setIfInBounds_toArray, List.set_cons_zero, List.set_cons_succ]
              refine held_take (i := 9) (v := ?_) rfl (by kernel_rfl) (by kernel_rfl) (by kernel_rfl) (fun _ _ _ h => h) (by rfl) hHeld ?_ ?_
              rotate_left 1
              · (intro w hSw; (try dsimp only at hSw); go_simp; try (with_reducible rfl))
              try simp only [Act.put, List.setIfInBounds_toArray, List.set_cons_zero, List.set_cons_succ]
              refine held_one (i := 10) rfl (by kernel_rfl) (by rfl) (fun K hK => ?_)
              go_simp
              (with_reducible refine HRJ.out.mono ?_)
              rintro e w8 ⟨u8, rfl, o8, b8⟩
              rw [HJP.out] at o8
              obtain ⟨A8, c8, rfl, -, -, r8⟩ := o8.form_n mj HJL.out
              have b8' : Below w7.heap.size w7 w8 := ⟨b8.os, b8.tape, b8.output, b8.size, b8.block⟩
              have cv2 : (convert 29 9 (.slice Aj mj cj)).run Try.prog w8 = .ok (.string st) w8 := by rw [← HST.out]; exact conv_rb (HR7.out.below b8') mj cj HJL.out
              have cv3 : (convert 29 9 (.slice A8 mj c8)).run Try.prog w8 = .ok (.string st) w8 := by rw [← HST.out]; exact conv_rb r8 mj c8 HJL.out
              have B8 := Lib.hid (B7.out.belows b8')
              clear o8 b8 r8 b8'
              refine hK.out _ _ (cv2) (fun hHeld2 => ?_)
              clear hK K hHeld; have hHeld := hHeld2; clear hHeld2
              try simp only [Act.put, List.setIfInBounds_toArray, List.set_cons_zero, List.set_cons_succ]
              refine held_one (i := 11) rfl (by kernel_rfl) (by rfl) (fun K hK => ?_)
              go_simp
              refine hK.out _ _ (cv2) (fun hHeld2 => ?_)
              clear hK K hHeld; have hHeld := hHeld2; clear hHeld2
              try simp only [Act.put, List.setIfInBounds_toArray, List.set_cons_zero, List.set_cons_succ]
              refine held_take (i := 12) (v := ?_) rfl (by kernel_rfl) (by kernel_rfl) (by kernel_rfl) (fun _ _ _ h => h) (by rfl) hHeld ?_ ?_
              rotate_left 1
              · (intro w hSw; (try dsimp only at hSw); go_simp; try (with_reducible rfl))
              try simp only [Act.put, List.setIfInBounds_toArray, List.set_cons_zero, List.set_cons_succ]
              refine held_take (i := 13) (v := ?_) rfl (by kernel_rfl) (by kernel_rfl) (by kernel_rfl) (fun _ _ _ h => h) (by rfl) hHeld ?_ ?_
              rotate_left 1
              · (intro w hSw; (try dsimp only at hSw); go_simp; try (with_reducible rfl))
              try simp only [Act.put, List.setIfInBounds_toArray, List.set_cons_zero, List.set_cons_succ]
              refine held_take (i := 14) (v := ?_) rfl (by kernel_rfl) (by kernel_rfl) (by kernel_rfl) (fun _ _ _ h => h) (by rfl) hHeld ?_ ?_
              rotate_left 1
              · (intro w hSw; (try dsimp only at hSw); go_simp; try (with_reducible rfl))
              try simp only [Act.put, List.setIfInBounds_toArray, List.set_cons_zero, List.set_cons_succ]
              refine held_take (i := 15) (v := ?_) rfl (by kernel_rfl) (by kernel_rfl) (by kernel_rfl) (fun _ _ _ h => h) (by rfl) hHeld ?_ ?_
              rotate_left 1
              · (intro w hSw; (try dsimp only at hSw); go_simp; try (with_reducible rfl))
              try simp only [Act.put, List.setIfInBounds_toArray, List.set_cons_zero, List.set_cons_succ]
              refine held_take (i := 16) (v := ?_) rfl (by kernel_rfl) (by kernel_rfl) (by kernel_rfl) (fun _ _ _ h => h) (by rfl) hHeld ?_ ?_
              rotate_left 1
              · (intro w hSw; (try dsimp only at hSw); go_simp; try (with_reducible rfl))
              try simp only [Act.put, List.setIfInBounds_toArray, List.set_cons_zero, List.set_cons_succ]
              refine held_take (i := 17) (v := ?_) rfl (by kernel_rfl) (by kernel_rfl) (by kernel_rfl) (fun _ _ _ h => h) (by rfl) hHeld ?_ ?_
              rotate_left 1
              · (intro w hSw; (try dsimp only at hSw); go_simp; try (with_reducible rfl))
              try simp only [Act.put, List.setIfInBounds_toArray, List.set_cons_zero, List.set_cons_succ]
              refine held_take (i := 18) (v := ?_) rfl (by kernel_rfl) (by kernel_rfl) (by kernel_rfl) (fun _ _ _ h => h) (by rfl) hHeld ?_ ?_
              rotate_left 1
              · (intro w hSw; (try dsimp only at hSw); go_simp; try (with_reducible rfl))
              try simp only [Act.put, List.setIfInBounds_toArray, List.set_cons_zero, List.set_cons_succ]
              refine held_off (i := 19) rfl (by kernel_rfl) (by kernel_rfl) (by kernel_rfl) (fun _ _ _ h => h) (by rfl) hHeld ?_
              try simp only [Act.put, List.setIfInBounds_toArray, List.set_cons_zero, List.set_cons_succ]
              refine held_off (i := 20) rfl (by kernel_rfl) (by kernel_rfl) (by kernel_rfl) (fun _ _ _ h => h) (by rfl) hHeld ?_
              try simp only [Act.put, List.setIfInBounds_toArray, List.set_cons_zero, List.set_cons_succ]
              refine held_off (i := 21) rfl (by kernel_rfl) (by kernel_rfl) (by kernel_rfl) (fun _ _ _ h => h) (by rfl) hHeld ?_
              try simp only [Act.put, List.setIfInBounds_toArray, List.set_cons_zero, List.set_cons_succ]
              refine held_take (i := 22) (v := ?_) rfl (by kernel_rfl) (by kernel_rfl) (by kernel_rfl) (fun _ _ _ h => h) (by rfl) hHeld ?_ ?_
              rotate_left 1
              · (intro w hSw; (try dsimp only at hSw); go_simp; try (with_reducible rfl))
              try simp only [Act.put, List.setIfInBounds_toArray, List.set_cons_zero, List.set_cons_succ]
              refine held_take (i := 23) (v := ?_) rfl (by kernel_rfl) (by kernel_rfl) (by kernel_rfl) (fun _ _ _ h => h) (by rfl) hHeld ?_ ?_
              rotate_left 1
              · (intro w hSw; (try dsimp only at hSw); go_simp; try (with_reducible rfl))
              try simp only [Act.put, List.setIfInBounds_toArray, List.set_cons_zero, List.set_cons_succ]
              refine wpAnyH_done (by kernel_rfl) ?_ _
              skip
              go_wp2
              go_meet
              exact ⟨by first | rfl | simp, B8⟩
            | false =>
              obtain rfl : mj = 0 := hout.out rfl
              refine wp_region_held_drew (S := (fun _ => True)) (by kernel_rfl) (trivial) (fun hHeld => ?_)
              refine held_take (i := 0) (v := ?_) rfl (by kernel_rfl) (by kernel_rfl) (by kernel_rfl) (fun _ _ _ h => h) (by rfl) hHeld ?_ ?_
              rotate_left 1
              · (intro w hSw; (try dsimp only at hSw); go_simp; try (with_reducible rfl))
              try simp only [Act.put, List.setIfInBounds_toArray, List.set_cons_zero, List.set_cons_succ]
              refine held_take (i := 1) (v := ?_) rfl (by kernel_rfl) (by kernel_rfl) (by kernel_rfl) (fun _ _ _ h => h) (by rfl) hHeld ?_ ?_
              rotate_left 1
              · (intro w hSw; (try dsimp only at hSw); go_simp; try (with_reducible rfl))
              try simp only [Act.put, List.setIfInBounds_toArray, List.set_cons_zero, List.set_cons_succ]
              refine held_take (i := 2) (v := ?_) rfl (by kernel_rfl) (by kernel_rfl) (by kernel_rfl) (fun _ _ _ h => h) (by rfl) hHeld ?_ ?_
              rotate_left 1
              · (intro w hSw; (try dsimp only at hSw); go_simp; try (with_reducible rfl))
              try simp only [Act.put, List.setIfInBounds_toArray, List.set_cons_zero, List.set_cons_succ]
              refine held_take (i := 3) (v := ?_) rfl (by kernel_rfl) (by kernel_rfl) (by kernel_rfl) (fun _ _ _ h => h) (by rfl) hHeld ?_ ?_
              rotate_left 1
              · (intro w hSw; (try dsimp only at hSw); go_simp; try (with_reducible rfl))
              try simp only [Act.put, List.setIfInBounds_toArray, List.set_cons_zero, List.set_cons_succ]
              refine held_take (i := 4) (v := ?_) rfl (by kernel_rfl) (by kernel_rfl) (by kernel_rfl) (fun _ _ _ h => h) (by rfl) hHeld ?_ ?_
              rotate_left 1
              · (intro w hSw; (try dsimp only at hSw); go_simp; try (with_reducible rfl))
              try simp only [Act.put, List.setIfInBounds_toArray, List.set_cons_zero, List.set_cons_succ]
              refine held_take (i := 5) (v := ?_) rfl (by kernel_rfl) (by kernel_rfl) (by kernel_rfl) (fun _ _ _ h => h) (by rfl) hHeld ?_ ?_
              rotate_left 1
              · (intro w hSw; (try dsimp only at hSw); go_simp; try (with_reducible rfl))
              try simp only [Act.put, List.setIfInBounds_toArray, List.set_cons_zero, List.set_cons_succ]
              refine held_off (i := 6) rfl (by kernel_rfl) (by kernel_rfl) (by kernel_rfl) (fun _ _ _ h => h) (by rfl) hHeld ?_
              try simp only [Act.put, List.setIfInBounds_toArray, List.set_cons_zero, List.set_cons_succ]
              refine held_off (i := 7) rfl (by kernel_rfl) (by kernel_rfl) (by kernel_rfl) (fun _ _ _ h => h) (by rfl) hHeld ?_
              try simp only [Act.put, List.setIfInBounds_toArray, List.set_cons_zero, List.set_cons_succ]
              refine held_off (i := 8) rfl (by kernel_rfl) (by kernel_rfl) (by kernel_rfl) (fun _ _ _ h => h) (by rfl) hHeld ?_
              try simp only [Act.put, List.setIfInBounds_toArray, List.set_cons_zero, List.set_cons_succ]
              refine held_off (i := 9) rfl (by kernel_rfl) (by kernel_rfl) (by kernel_rfl) (fun _ _ _ h => h) (by rfl) hHeld ?_
              try simp only [Act.put, List.setIfInBounds_toArray, List.set_cons_zero, List.set_cons_succ]
              refine held_off (i := 10) rfl (by kernel_rfl) (by kernel_rfl) (by kernel_rfl) (fun _ _ _ h => h) (by rfl) hHeld ?_
              try simp only [Act.put, List.setIfInBounds_toArray, List.set_cons_zero, List.set_cons_succ]
              refine held_off (i := 11) rfl (by kernel_rfl) (by kernel_rfl) (by kernel_rfl) (fun _ _ _ h => h) (by rfl) hHeld ?_
              try simp only [Act.put, List.setIfInBounds_toArray, List.set_cons_zero, List.set_cons_succ]
              refine held_off (i := 12) rfl (by kernel_rfl) (by kernel_rfl) (by kernel_rfl) (fun _ _ _ h => h) (by rfl) hHeld ?_
              try simp only [Act.put, List.setIfInBounds_toArray, List.set_cons_zero, List.set_cons_succ]
              refine held_take (i := 13) (v := ?_) rfl (by kernel_rfl) (by kernel_rfl) (by kernel_rfl) (fun _ _ _ h => h) (by rfl) hHeld ?_ ?_
              rotate_left 1
              · (intro w hSw; (try dsimp only at hSw); go_simp; try (with_reducible rfl))
              try simp only [Act.put, List.setIfInBounds_toArray, List.set_cons_zero, List.set_cons_succ]
              refine held_take (i := 14) (v := ?_) rfl (by kernel_rfl) (by kernel_rfl) (by kernel_rfl) (fun _ _ _ h => h) (by rfl) hHeld ?_ ?_
              rotate_left 1
              · (intro w hSw; (try dsimp only at hSw); go_simp; try (with_reducible rfl))
              try simp only [Act.put, List.setIfInBounds_toArray, List.set_cons_zero, List.set_cons_succ]
              refine held_take (i := 15) (v := ?_) rfl (by kernel_rfl) (by kernel_rfl) (by kernel_rfl) (fun _ _ _ h => h) (by rfl) hHeld ?_ ?_
              rotate_left 1
              · (intro w hSw; (try dsimp only at hSw); go_simp; try (with_reducible rfl))
              try simp only [Act.put, List.setIfInBounds_toArray, List.set_cons_zero, List.set_cons_succ]
              refine held_take (i := 16) (v := ?_) rfl (by kernel_rfl) (by kernel_rfl) (by kernel_rfl) (fun _ _ _ h => h) (by rfl) hHeld ?_ ?_
              rotate_left 1
              · (intro w hSw; (try dsimp only at hSw); go_simp; try (with_reducible rfl))
              try simp only [Act.put, List.setIfInBounds_toArray, List.set_cons_zero, List.set_cons_succ]
              refine held_take (i := 17) (v := ?_) rfl (by kernel_rfl) (by kernel_rfl) (by kernel_rfl) (fun _ _ _ h => h) (by rfl) hHeld ?_ ?_
              rotate_left 1
              · (intro w hSw; (try dsimp only at hSw); go_simp; try (with_reducible rfl))
              try simp only [Act.put, List.setIfInBounds_toArray, List.set_cons_zero, List.set_cons_succ]
              refine held_take (i := 18) (v := ?_) rfl (by kernel_rfl) (by kernel_rfl) (by kernel_rfl) (fun _ _ _ h => h) (by rfl) hHeld ?_ ?_
              rotate_left 1
              · (intro w hSw; (try dsimp only at hSw); go_simp; try (with_reducible rfl))
              try simp only [Act.put, List.setIfInBounds_toArray, List.set_cons_zero, List.set_cons_succ]
              refine held_take (i := 19) (v := ?_) rfl (by kernel_rfl) (by kernel_rfl) (by kernel_rfl) (fun _ _ _ h => h) (by rfl) hHeld ?_ ?_
              rotate_left 1
              · (intro w hSw; (try dsimp only at hSw); go_simp; try (with_reducible rfl))
              try simp only [Act.put, List.setIfInBounds_toArray, List.set_cons_zero, List.set_cons_succ]
              refine held_take (i := 20) (v := ?_) rfl (by kernel_rfl) (by kernel_rfl) (by kernel_rfl) (fun _ _ _ h => h) (by rfl) hHeld ?_ ?_
              rotate_left 1
              · (intro w hSw; (try dsimp only at hSw); go_simp; try (with_reducible rfl))
              try simp only [Act.put, List.setIfInBounds_toArray, List.set_cons_zero, List.set_cons_succ]
              refine held_take (i := 21) (v := ?_) rfl (by kernel_rfl) (by kernel_rfl) (by kernel_rfl) (fun _ _ _ h => h) (by rfl) hHeld ?_ ?_
              rotate_left 1
              · (intro w hSw; (try dsimp only at hSw); go_simp; try (with_reducible rfl))
              try simp only [Act.put, List.setIfInBounds_toArray, List.set_cons_zero, List.set_cons_succ]
              refine held_take (i := 22) (v := ?_) rfl (by kernel_rfl) (by kernel_rfl) (by kernel_rfl) (fun _ _ _ h => h) (by rfl) hHeld ?_ ?_
              rotate_left 1
              · (intro w hSw; (try dsimp only at hSw); go_simp; try (with_reducible rfl))
              try simp only [Act.put, List.setIfInBounds_toArray, List.set_cons_zero, List.set_cons_succ]
              refine held_take (i := 23) (v := ?_) rfl (by kernel_rfl) (by kernel_rfl) (by kernel_rfl) (fun _ _ _ h => h) (by rfl) hHeld ?_ ?_
              rotate_left 1
              · (intro w hSw; (try dsimp only at hSw); go_simp; try (with_reducible rfl))
              try simp only [Act.put, List.setIfInBounds_toArray, List.set_cons_zero, List.set_cons_succ]
              refine wpAnyH_done (by kernel_rfl) ?_ _
              skip
              go_wp2
              go_meet
              exact ⟨by first | rfl | simp, B7.out.drew⟩
          case rest =>
            obtain ⟨rfl, B8⟩ := hcut
            obtain ⟨w8, rfl⟩ : ∃ W, W = wc := ⟨wc, rfl⟩
            have HK := Lib.hid (known_any w8 q r xs6 B8.out.1.qm N B8.out.2.2.1 hN8 f)
            clear B7 hout hjn HI
            go_wp2_with fail
            (with_reducible refine HK.out.mono ?_)
            rintro e w9 ⟨vk, rfl, o9, b9⟩
            have B9 := Lib.hid (B8.out.belows b9)
            obtain ⟨Ak, ck, rfl, -, hkc⟩ := o9.form N (by rw [knownN_len]; exact B9.out.2.2.1)
            obtain ⟨gk, rfl, hgk, -⟩ := hkc 0 (by rw [knownN_len, B9.out.2.2.1]; omega)
            have HKC : Hid (∀ (p : Nat) (x : Ln), xs6[p]? = some x → w9.cell? ⟨gk, p, none⟩ = some (.bool (decide (0 ≤ f ∧ f < (x.l.length : Int))))) := by
              intro p x hx
              have hp := (List.getElem?_eq_some_iff.1 hx).1
              obtain ⟨g2, e2, -, h2⟩ := hkc p (by rw [knownN_len]; exact hp)
              injection e2 with e2; injection e2 with e2
              subst e2
              rw [h2]
              unfold knownN
              rw [List.getElem_map, (List.getElem?_eq_some_iff.1 hx).2]
            have HGK := Lib.hid hgk
            clear HK B8 o9 b9 hkc hgk
            go_wp2_with fail
            obtain ⟨W0, rfl⟩ : ∃ W0, W0 = wr := ⟨wr, rfl⟩
            go_loopw [18] (fun s18 wx => ∃ (p : Nat), s18 = .int .i64 (p : Int) ∧ p ≤ N ∧ Hid (Below w9.heap.size w9 wx)) (fun s18 _ => N - (intOf s18).toNat)
            case atStart => exact ⟨0, rfl, by omega, Below.refl _ _⟩
            case round =>
              obtain ⟨p, rfl, hp, hb⟩ := hrel
              by_cases hlt : p < N
              · obtain ⟨x, hx⟩ : ∃ x, xs6[p]? = some x := ⟨_, List.getElem?_eq_getElem (by rw [B9.out.2.2.1]; exact hlt)⟩
                obtain ⟨y, hy⟩ : ∃ y, ms6[p]? = some y := ⟨_, List.getElem?_eq_getElem (by rw [B9.out.mlen]; exact hlt)⟩
                have hxy : y.l = x.l := by
                  have h1 : (ms6.map Rl.l)[p]? = (xs6.map Ln.l)[p]? := by rw [B9.out.2.2.2]
                  rw [List.getElem?_map, List.getElem?_map, hx, hy] at h1
                  exact Option.some.inj h1
                obtain ⟨L, hL⟩ : ∃ L, x.l.length = L := ⟨_, rfl⟩
                have k1 := (hb.out.cell (p := ⟨gk, p, none⟩) HGK.out).trans (HKC.out p x hx)
                rw [hL] at k1
                obtain ⟨Al, cl, k2, -, -⟩ := (B9.out.2.1.belows hb.out).line_at p y hy L (by rw [hxy, hL])
                obtain ⟨kb, hkb⟩ : ∃ kb : Bool, decide (0 ≤ f ∧ f < (L : Int)) = kb := ⟨_, rfl⟩
                rw [hkb] at k1
                have d1 : wr.drew.cell? ⟨gk, p, none⟩ = some (.bool kb) := k1
                have d2 : wr.drew.cell? ⟨g, p, none⟩ = some (.slice Al L cl) := k2
                have hpn : (p : Int) < (N : Int) := by omega
                have hk2 : Hid (p + 1 ≤ N) := hlt
                have hms : Hid (N - (p + 1) < N - p) := by show _ < _; omega
                have HBD : Hid (Below w9.heap.size w9 wr.drew) := hb.out.drew
                clear hx hy hxy hL k1 k2
                by_cases i0 : 0 ≤ f
                · by_cases i1 : f < (L : Int)
                  · obtain rfl : kb = true := by rw [← hkb]; exact decide_eq_true ⟨i0, i1⟩
                    clear hkb
                    go_wp2_with fail
                    refine wp_region_held_drew (S := (fun w' => w'.cell? ⟨gk, p, none⟩ = some (.bool true) ∧ w'.cell? ⟨g, p, none⟩ = some (.slice Al L cl))) (by kernel_rfl) (⟨d1, d2⟩) (fun hHeld => ?_)
                    refine held_take (i := 0) (v := ?_) rfl (by kernel_rfl) (by kernel_rfl) (by kernel_rfl) (fun _ _ _ h => h) (by rfl) hHeld ?_ ?_
                    rotate_left 1
                    · (intro w hSw; (try dsimp only at hSw); go_simp; try (with_reducible rfl))
                    try simp only [Act.put, List.setIfInBounds_toArray, List.set_cons_zero, List.set_cons_succ]
                    refine held_take (i := 1) (v := ?_) rfl (by kernel_rfl) (by kernel_rfl) (by kernel_rfl) (fun _ _ _ h => h) (by rfl) hHeld ?_ ?_
                    rotate_left 1
                    · (intro w hSw; (try dsimp only at hSw); go_simp; try (with_reducible rfl))
                    try simp only [Act.put, List.setIfInBounds_toArray, List.set_cons_zero, List.set_cons_succ]
                    refine held_take (i := 2) (v := ?_) rfl (by kernel_rfl) (by kernel_rfl) (by kernel_rfl) (fun _ _ _ h => h) (by rfl) hHeld ?_ ?_
                    rotate_left 1
                    · (intro w hSw; (try dsimp only at hSw); go_simp; try (with_reducible rfl))
                    try simp only [Act.put, List.setIfInBounds_toArray, List.set_cons_zero, List.set_cons_succ]
                    refine held_take (i := 3) (v := ?_) rfl (by kernel_rfl) (by kernel_rfl) (by kernel_rfl) (fun _ _ _ h => h) (by rfl) hHeld ?_ ?_
                    rotate_left 1
                    · (intro w hSw; (try dsimp only at hSw); go_simp; try (with_reducible rfl))
                    try simp only [Act.put, List.setIfInBounds_toArray, List.set_cons_zero, List.set_cons_succ]
                    refine held_take (i := 4) (v := ?_) rfl (by kernel_rfl) (by kernel_rfl) (by kernel_rfl) (fun _ _ _ h => h) (by rfl) hHeld ?_ ?_
                    rotate_left 1
                    · (intro w hSw; (try dsimp only at hSw); go_simp; try (with_reducible rfl))
                    try simp only [Act.put, List.setIfInBounds_toArray, List.set_cons_zero, List.set_cons_succ]
                    refine held_take (i := 5) (v := ?_) rfl (by kernel_rfl) (by kernel_rfl) (by kernel_rfl) (fun _ _ _ h => h) (by rfl) hHeld ?_ ?_
                    rotate_left 1
                    · (intro w hSw; (try dsimp only at hSw); go_simp; try (with_reducible rfl))
                    try simp only [Act.put, List.setIfInBounds_toArray, List.set_cons_zero, List.set_cons_succ]
                    refine held_take (i := 6) (v := ?_) rfl (by kernel_rfl) (by kernel_rfl) (by kernel_rfl) (fun _ _ _ h => h) (by rfl) hHeld ?_ ?_
                    rotate_left 1
                    · (intro w hSw; (try dsimp only at hSw); go_simp; try (with_reducible rfl))
                    try simp only [Act.put, List.setIfInBounds_toArray, List.set_cons_zero, List.set_cons_succ]
                    refine held_take (i := 7) (v := ?_) rfl (by kernel_rfl) (by kernel_rfl) (by kernel_rfl) (fun _ _ _ h => h) (by rfl) hHeld ?_ ?_
                    rotate_left 1
                    · (intro w hSw; (try dsimp only at hSw); go_simp; try (with_reducible rfl))
                    try simp only [Act.put, List.setIfInBounds_toArray, List.set_cons_zero, List.set_cons_succ]
                    refine held_take (i := 8) (v := ?_) rfl (by kernel_rfl) (by kernel_rfl) (by kernel_rfl) (fun _ _ _ h => h) (by rfl) hHeld ?_ ?_
                    rotate_left 1
                    · (intro w hSw; (try dsimp only at hSw); go_simp; try (with_reducible rfl))
                    try simp only [Act.put, List.setIfInBounds_toArray, List.set_cons_zero, List.set_cons_succ]
                    refine held_take (i := 9) (v := ?_) rfl (by kernel_rfl) (by kernel_rfl) (by kernel_rfl) (fun _ _ _ h => h) (by rfl) hHeld ?_ ?_
                    rotate_left 1
                    · (intro w hSw; (try dsimp only at hSw); go_simp; try (with_reducible rfl))
                    try simp only [Act.put, List.setIfInBounds_toArray, List.set_cons_zero, List.set_cons_succ]
                    refine held_take (i := 10) (v := ?_) rfl (by kernel_rfl) (by kernel_rfl) (by kernel_rfl) (fun _ _ _ h => h) (by rfl) hHeld ?_ ?_
                    rotate_left 1
                    · (intro w hSw; (try dsimp only at hSw); go_simp; try (with_reducible rfl))
                    try simp only [Act.put, List.setIfInBounds_toArray, List.set_cons_zero, List.set_cons_succ]
                    refine held_take (i := 11) (v := ?_) rfl (by kernel_rfl) (by kernel_rfl) (by kernel_rfl) (fun _ _ _ h => h) (by rfl) hHeld ?_ ?_
                    rotate_left 1
                    · (intro w hSw; (try dsimp only at hSw); go_simp; try (with_reducible rfl))
                    try simp only [Act.put, List.setIfInBounds_toArray, List.set_cons_zero, List.set_cons_succ]
                    refine held_take (i := 12) (v := ?_) rfl (by kernel_rfl) (by kernel_rfl) (by kernel_rfl) (fun _ _ _ h => h) (by rfl) hHeld ?_ ?_
                    rotate_left 1
                    · (intro w hSw; (try dsimp only at hSw); go_simp; try (with_reducible rfl))
                    try simp only [Act.put, List.setIfInBounds_toArray, List.set_cons_zero, List.set_cons_succ]
                    refine held_take (i := 13) (v := ?_) rfl (by kernel_rfl) (by kernel_rfl) (by kernel_rfl) (fun _ _ _ h => h) (by rfl) hHeld ?_ ?_
                    rotate_left 1
                    · (intro w hSw; (try dsimp only at hSw); go_simp; try (with_reducible rfl))
                    try simp only [Act.put, List.setIfInBounds_toArray, List.set_cons_zero, List.set_cons_succ]
                    refine held_take (i := 14) (v := ?_) rfl (by kernel_rfl) (by kernel_rfl) (by kernel_rfl) (fun _ _ _ h => h) (by rfl) hHeld ?_ ?_
                    rotate_left 1
                    · (intro w hSw; (try dsimp only at hSw); go_simp; try (with_reducible rfl))
                    try simp only [Act.put, List.setIfInBounds_toArray, List.set_cons_zero, List.set_cons_succ]
                    refine held_take (i := 15) (v := ?_) rfl (by kernel_rfl) (by kernel_rfl) (by kernel_rfl) (fun _ _ _ h => h) (by rfl) hHeld ?_ ?_
                    rotate_left 1
                    · (intro w hSw; (try dsimp only at hSw); go_simp; try (with_reducible rfl))
                    try simp only [Act.put, List.setIfInBounds_toArray, List.set_cons_zero, List.set_cons_succ]
                    refine held_take (i := 16) (v := ?_) rfl (by kernel_rfl) (by kernel_rfl) (by kernel_rfl) (fun _ _ _ h => h) (by rfl) hHeld ?_ ?_
                    rotate_left 1
                    · (intro w hSw; (try dsimp only at hSw); go_simp; try (with_reducible rfl))
                    try simp only [Act.put, List.setIfInBounds_toArray, List.set_cons_zero, List.set_cons_succ]
                    refine wpAnyH_done (by kernel_rfl) ?_ _
                    skip
                    go_wp2
                    go_roundw
                    case rel => exact ⟨p + 1, by go_num, hk2.out, HBD⟩
                    case measure => simp [intOf]; have := hms.out; omega
                  · obtain rfl : kb = false := by rw [← hkb]; exact decide_eq_false (fun h => i1 h.2)
                    clear hkb
                    go_wp2_with fail
                    refine wp_region_held_drew (S := (fun w' => w'.cell? ⟨gk, p, none⟩ = some (.bool false) ∧ w'.cell? ⟨g, p, none⟩ = some (.slice Al L cl))) (by kernel_rfl) (⟨d1, d2⟩) (fun hHeld => ?_)
                    refine held_take (i := 0) (v := ?_) rfl (by kernel_rfl) (by kernel_rfl) (by kernel_rfl) (fun _ _ _ h => h) (by rfl) hHeld ?_ ?_
                    rotate_left 1
                    · (intro w hSw; (try dsimp only at hSw); go_simp; try (with_reducible rfl))
                    try simp only [Act.put, List.setIfInBounds_toArray, List.set_cons_zero, List.set_cons_succ]
                    refine held_take (i := 1) (v := ?_) rfl (by kernel_rfl) (by kernel_rfl) (by kernel_rfl) (fun _ _ _ h => h) (by rfl) hHeld ?_ ?_
                    rotate_left 1
                    · (intro w hSw; (try dsimp only at hSw); go_simp; try (with_reducible rfl))
                    try simp only [Act.put, List.setIfInBounds_toArray, List.set_cons_zero, List.set_cons_succ]
                    refine held_take (i := 2) (v := ?_) rfl (by kernel_rfl) (by kernel_rfl) (by kernel_rfl) (fun _ _ _ h => h) (by rfl) hHeld ?_ ?_
                    rotate_left 1
                    · (intro w hSw; (try dsimp only at hSw); go_simp; try (with_reducible rfl))
                    try simp only [Act.put, List.setIfInBounds_toArray, List.set_cons_zero, List.set_cons_succ]
                    refine held_take (i := 3) (v := ?_) rfl (by kernel_rfl) (by kernel_rfl) (by kernel_rfl) (fun _ _ _ h => h) (by rfl) hHeld ?_ ?_
                    rotate_left 1
                    · (intro w hSw; (try dsimp only at hSw); go_simp; try (with_reducible rfl))
                    try simp only [Act.put, List.setIfInBounds_toArray, List.set_cons_zero, List.set_cons_succ]
                    refine held_take (i := 4) (v := ?_) rfl (by kernel_rfl) (by kernel_rfl) (by kernel_rfl) (fun _ _ _ h => h) (by rfl) hHeld ?_ ?_
                    rotate_left 1
                    · (intro w hSw; (try dsimp only at hSw); go_simp; try (with_reducible rfl))
                    try simp only [Act.put, List.setIfInBounds_toArray, List.set_cons_zero, List.set_cons_succ]
                    refine held_take (i := 5) (v := ?_) rfl (by kernel_rfl) (by kernel_rfl) (by kernel_rfl) (fun _ _ _ h => h) (by rfl) hHeld ?_ ?_
                    rotate_left 1
                    · (intro w hSw; (try dsimp only at hSw); go_simp; try (with_reducible rfl))
                    try simp only [Act.put, List.setIfInBounds_toArray, List.set_cons_zero, List.set_cons_succ]
                    refine held_take (i := 6) (v := ?_) rfl (by kernel_rfl) (by kernel_rfl) (by kernel_rfl) (fun _ _ _ h => h) (by rfl) hHeld ?_ ?_
                    rotate_left 1
                    · (intro w hSw; (try dsimp only at hSw); go_simp; try (with_reducible rfl))
                    try simp only [Act.put, List.setIfInBounds_toArray, List.set_cons_zero, List.set_cons_succ]
                    refine held_take (i := 7) (v := ?_) rfl (by kernel_rfl) (by kernel_rfl) (by kernel_rfl) (fun _ _ _ h => h) (by rfl) hHeld ?_ ?_
                    rotate_left 1
                    · (intro w hSw; (try dsimp only at hSw); go_simp; try (with_reducible rfl))
                    try simp only [Act.put, List.setIfInBounds_toArray, List.set_cons_zero, List.set_cons_succ]
                    refine held_take (i := 8) (v := ?_) rfl (by kernel_rfl) (by kernel_rfl) (by kernel_rfl) (fun _ _ _ h => h) (by rfl) hHeld ?_ ?_
                    rotate_left 1
                    · (intro w hSw; (try dsimp only at hSw); go_simp; try (with_reducible rfl))
                    try simp only [Act.put, List.setIfInBounds_toArray, List.set_cons_zero, List.set_cons_succ]
                    refine held_take (i := 9) (v := ?_) rfl (by kernel_rfl) (by kernel_rfl) (by kernel_rfl) (fun _ _ _ h => h) (by rfl) hHeld ?_ ?_
                    rotate_left 1
                    · (intro w hSw; (try dsimp only at hSw); go_simp; try (with_reducible rfl))
                    try simp only [Act.put, List.setIfInBounds_toArray, List.set_cons_zero, List.set_cons_succ]
                    refine held_take (i := 10) (v := ?_) rfl (by kernel_rfl) (by kernel_rfl) (by kernel_rfl) (fun _ _ _ h => h) (by rfl) hHeld ?_ ?_
                    rotate_left 1
                    · (intro w hSw; (try dsimp only at hSw); go_simp; try (with_reducible rfl))
                    try simp only [Act.put, List.setIfInBounds_toArray, List.set_cons_zero, List.set_cons_succ]
                    refine held_take (i := 11) (v := ?_) rfl (by kernel_rfl) (by kernel_rfl) (by kernel_rfl) (fun _ _ _ h => h) (by rfl) hHeld ?_ ?_
                    rotate_left 1
                    · (intro w hSw; (try dsimp only at hSw); go_simp; try (with_reducible rfl))
                    try simp only [Act.put, List.setIfInBounds_toArray, List.set_cons_zero, List.set_cons_succ]
                    refine held_take (i := 12) (v := ?_) rfl (by kernel_rfl) (by kernel_rfl) (by kernel_rfl) (fun _ _ _ h => h) (by rfl) hHeld ?_ ?_
                    rotate_left 1
                    · (intro w hSw; (try dsimp only at hSw); go_simp; try (with_reducible rfl))
                    try simp only [Act.put, List.setIfInBounds_toArray, List.set_cons_zero, List.set_cons_succ]
                    refine held_take (i := 13) (v := ?_) rfl (by kernel_rfl) (by kernel_rfl) (by kernel_rfl) (fun _ _ _ h => h) (by rfl) hHeld ?_ ?_
                    rotate_left 1
                    · (intro w hSw; (try dsimp only at hSw); go_simp; try (with_reducible rfl))
                    try simp only [Act.put, List.setIfInBounds_toArray, List.set_cons_zero, List.set_cons_succ]
                    refine held_take (i := 14) (v := ?_) rfl (by kernel_rfl) (by kernel_rfl) (by kernel_rfl) (fun _ _ _ h => h) (by rfl) hHeld ?_ ?_
                    rotate_left 1
                    · (intro w hSw; (try dsimp only at hSw); go_simp; try (with_reducible rfl))
                    try simp only [Act.put, List.setIfInBounds_toArray, List.set_cons_zero, List.set_cons_succ]
                    refine held_take (i := 15) (v := ?_) rfl (by kernel_rfl) (by kernel_rfl) (by kernel_rfl) (fun _ _ _ h => h) (by rfl) hHeld ?_ ?_
                    rotate_left 1
                    · (intro w hSw; (try dsimp only at hSw); go_simp; try (with_reducible rfl))
                    try simp only [Act.put, List.setIfInBounds_toArray, List.set_cons_zero, List.set_cons_succ]
                    refine held_take (i := 16) (v := ?_) rfl (by kernel_rfl) (by kernel_rfl) (by kernel_rfl) (fun _ _ _ h => h) (by rfl) hHeld ?_ ?_
                    rotate_left 1
                    · (intro w hSw; (try dsimp only at hSw); go_simp; try (with_reducible rfl))
                    try simp only [Act.put, List.setIfInBounds_toArray, List.set_cons_zero, List.set_cons_succ]
                    refine wpAnyH_done (by kernel_rfl) ?_ _
                    skip
                    go_wp2
                    go_roundw
                    case rel => exact ⟨p + 1, by go_num, hk2.out, HBD⟩
                    case measure => simp [intOf]; have := hms.out; omega
                · obtain rfl : kb = false := by rw [← hkb]; exact decide_eq_false (fun h => i0 h.1)
                  have i0' : decide (0 ≤ f) = false := decide_eq_false i0
                  clear hkb
                  go_wp2_with fail
                  refine wp_region_held_drew (S := (fun w' => w'.cell? ⟨gk, p, none⟩ = some (.bool false) ∧ w'.cell? ⟨g, p, none⟩ = some (.slice Al L cl))) (by kernel_rfl) (⟨d1, d2⟩) (fun hHeld => ?_)
                  refine held_take (i := 0) (v := ?_) rfl (by kernel_rfl) (by kernel_rfl) (by kernel_rfl) (fun _ _ _ h => h) (by rfl) hHeld ?_ ?_
                  rotate_left 1
                  · (intro w hSw; (try dsimp only at hSw); go_simp; try (with_reducible rfl))
                  try simp only [Act.put, List.setIfInBounds_toArray, List.set_cons_zero, List.set_cons_succ]
                  refine held_take (i := 1) (v := ?_) rfl (by kernel_rfl) (by kernel_rfl) (by kernel_rfl) (fun _ _ _ h => h) (by rfl) hHeld ?_ ?_
                  rotate_left 1
                  · (intro w hSw; (try dsimp only at hSw); go_simp; try (with_reducible rfl))
                  try simp only [Act.put, List.setIfInBounds_toArray, List.set_cons_zero, List.set_cons_succ]
                  refine held_take (i := 2) (v := ?_) rfl (by kernel_rfl) (by kernel_rfl) (by kernel_rfl) (fun _ _ _ h => h) (by rfl) hHeld ?_ ?_
                  rotate_left 1
                  · (intro w hSw; (try dsimp only at hSw); go_simp; try (with_reducible rfl))
                  try simp only [Act.put, List.setIfInBounds_toArray, List.set_cons_zero, List.set_cons_succ]
                  refine held_take (i := 3) (v := ?_) rfl (by kernel_rfl) (by kernel_rfl) (by kernel_rfl) (fun _ _ _ h => h) (by rfl) hHeld ?_ ?_
                  rotate_left 1
                  · (intro w hSw; (try dsimp only at hSw); go_simp; try (with_reducible rfl))
                  try simp only [Act.put, List.setIfInBounds_toArray, List.set_cons_zero, List.set_cons_succ]
                  refine held_take (i := 4) (v := ?_) rfl (by kernel_rfl) (by kernel_rfl) (by kernel_rfl) (fun _ _ _ h => h) (by rfl) hHeld ?_ ?_
                  rotate_left 1
                  · (intro w hSw; (try dsimp only at hSw); go_simp; try (with_reducible rfl))
                  try simp only [Act.put, List.setIfInBounds_toArray, List.set_cons_zero, List.set_cons_succ]
                  refine held_take (i := 5) (v := ?_) rfl (by kernel_rfl) (by kernel_rfl) (by kernel_rfl) (fun _ _ _ h => h) (by rfl) hHeld ?_ ?_
                  rotate_left 1
                  · (intro w hSw; (try dsimp only at hSw); go_simp; try (with_reducible rfl))
                  try simp only [Act.put, List.setIfInBounds_toArray, List.set_cons_zero, List.set_cons_succ]
                  refine held_take (i := 6) (v := ?_) rfl (by kernel_rfl) (by kernel_rfl) (by kernel_rfl) (fun _ _ _ h => h) (by rfl) hHeld ?_ ?_
                  rotate_left 1
                  · (intro w hSw; (try dsimp only at hSw); go_simp; try (with_reducible rfl))
                  try simp only [Act.put, List.setIfInBounds_toArray, List.set_cons_zero, List.set_cons_succ]
                  refine held_off (i := 7) rfl (by kernel_rfl) (by kernel_rfl) (by kernel_rfl) (fun _ _ _ h => h) (by rfl) hHeld ?_
                  try simp only [Act.put, List.setIfInBounds_toArray, List.set_cons_zero, List.set_cons_succ]
                  refine held_off (i := 8) rfl (by kernel_rfl) (by kernel_rfl) (by kernel_rfl) (fun _ _ _ h => h) (by rfl) hHeld ?_
                  try simp only [Act.put, List.setIfInBounds_toArray, List.set_cons_zero, List.set_cons_succ]
                  refine held_off (i := 9) rfl (by kernel_rfl) (by kernel_rfl) (by kernel_rfl) (fun _ _ _ h => h) (by rfl) hHeld ?_
                  try simp only [Act.put, List.setIfInBounds_toArray, List.set_cons_zero, List.set_cons_succ]
                  refine held_off (i := 10) rfl (by kernel_rfl) (by kernel_rfl) (by kernel_rfl) (fun _ _ _ h => h) (by rfl) hHeld ?_
                  try simp only [Act.put, List.setIfInBounds_toArray, List.set_cons_zero, List.set_cons_succ]
                  refine held_off (i := 11) rfl (by kernel_rfl) (by kernel_rfl) (by kernel_rfl) (fun _ _ _ h => h) (by rfl) hHeld ?_
                  try simp only [Act.put, List.setIfInBounds_toArray, List.set_cons_zero, List.set_cons_succ]
                  refine held_off (i := 12) rfl (by kernel_rfl) (by kernel_rfl) (by kernel_rfl) (fun _ _ _ h => h) (by rfl) hHeld ?_
                  try simp only [Act.put, List.setIfInBounds_toArray, List.set_cons_zero, List.set_cons_succ]
                  refine held_off (i := 13) rfl (by kernel_rfl) (by kernel_rfl) (by kernel_rfl) (fun _ _ _ h => h) (by rfl) hHeld ?_
                  try simp only [Act.put, List.setIfInBounds_toArray, List.set_cons_zero, List.set_cons_succ]
                  refine held_off (i := 14) rfl (by kernel_rfl) (by kernel_rfl) (by kernel_rfl) (fun _ _ _ h => h) (by rfl) hHeld ?_
                  try simp only [Act.put, List.setIfInBounds_toArray, List.set_cons_zero, List.set_cons_succ]
                  refine held_take (i := 15) (v := ?_) rfl (by kernel_rfl) (by kernel_rfl) (by kernel_rfl) (fun _ _ _ h => h) (by rfl) hHeld ?_ ?_
                  rotate_left 1
                  · (intro w hSw; (try dsimp only at hSw); go_simp; try (with_reducible rfl))
                  try simp only [Act.put, List.setIfInBounds_toArray, List.set_cons_zero, List.set_cons_succ]
                  refine held_take (i := 16) (v := ?_) rfl (by kernel_rfl) (by kernel_rfl) (by kernel_rfl) (fun _ _ _ h => h) (by rfl) hHeld ?_ ?_
                  rotate_left 1
                  · (intro w hSw; (try dsimp only at hSw); go_simp; try (with_reducible rfl))
                  try simp only [Act.put, List.setIfInBounds_toArray, List.set_cons_zero, List.set_cons_succ]
                  refine wpAnyH_done (by kernel_rfl) ?_ _
                  skip
                  go_wp2
                  go_roundw
                  case rel => exact ⟨p + 1, by go_num, hk2.out, HBD⟩
                  case measure => simp [intOf]; have := hms.out; omega
              · obtain rfl : p = N := by omega
                have BE := Lib.hid (B9.out.belows hb.out)
                have hi2 : Hid (i + 1 ≤ 50) := by show _ ≤ _; omega
                have hms : Hid (50 - (i + 1) < 50 - i) := by show _ < _; omega
                clear B9 HKC
                go_wp2
                go_roundw
                case rel => exact ⟨i + 1, xs6, ms6, by go_num, hi2.out, BE⟩
                case measure => simp [intOf]; have := hms.out; omega
    · have HE := Lib.hid HB.out.1.be
      clear HB
      by_cases g1 : i < Q
      · have z1 : (i : Int) < (Q : Int) := by omega
        have z2 : ¬ (i : Int) < 50 := by omega
        have z3 : decide ((i : Int) < 50) = false := decide_eq_false z2
        clear hgo
        go_wp2
        go_ret
        exact ⟨rfl, HE.out⟩
      · have z1 : ¬ (i : Int) < (Q : Int) := by omega
        have z3 : decide ((i : Int) < (Q : Int)) = false := decide_eq_false z1
        clear hgo
        go_wp2
        go_ret
        exact ⟨rfl, HE.out⟩
end Go.Proofs.Ytbcnaklbbaoihaa
