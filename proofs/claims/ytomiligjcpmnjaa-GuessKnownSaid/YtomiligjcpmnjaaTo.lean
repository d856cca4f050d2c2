/- WALK of the law GuessKnown. -/
import Derived.Test.YtomiligjcpmnjaaTl
import Derived.Test.YtomiligjcpmnjaaXm
namespace Go.Proofs.Ytomiligjcpmnjaa
set_option maxRecDepth 100000
open Go.RowKit Go.Maps
set_option linter.unusedVariables false
set_option linter.unusedSimpArgs false

def kM2 : Kd := ⟨2, 2, []⟩
set_option maxHeartbeats 4000000 in
theorem known_law (n : Int) (A0 : Option Addr) (os : List O4) (cap0 : Nat) (rk mo : Int) (w : World) (h0 : RO4 w w.heap.size A0 os) (k0 : os.length ≤ cap0) (m0 : cap0 ≤ maxLen) (hos : ∀ o ∈ os, InO4 w o)
    (n1 : -9223372036854775808 ≤ n) (n2 : n ≤ 9223372036854775807) :
    Calls Try.prog 4 #[.int .i64 n, .slice A0 os.length cap0, .int .i64 rk, .int .i64 mo] w fun e w' => e = .returned (.bool true) ∧ Below w.heap.size w w' := by
  have HG := Lib.hid (begun19_any w)
  obtain ⟨Q, hQ⟩ : ∃ Q, os.length = Q := ⟨_, rfl⟩
  rw [hQ] at k0 ⊢
  have H0 := Lib.hid h0; have HQ := Lib.hid hQ; have HOS := Lib.hid hos
  obtain ⟨N, hN⟩ : ∃ N : Nat, (N : Int) = min (max n 2) 8 := ⟨(min (max n 2) 8).toNat, by omega⟩
  obtain ⟨a8, ha8⟩ : ∃ a : Int, min n 8 = a := ⟨_, rfl⟩
  have ha2 : max 2 a8 = (N : Int) := by omega
  have hN2 : 2 ≤ N := by omega
  have hN8 : N ≤ 8 := by omega
  clear h0 hQ hos hN k0 m0 n1 n2
  go_enter Try.func4, Try.ntmps4
  go_wp2_with fail
  (with_reducible refine HG.out.mono ?_)
  rintro e w2 ⟨rfl, hb2⟩
  have HB2 := Lib.hid hb2
  clear hb2 HG
  by_cases g1 : rk < 0
  · go_wp2_with fail
    go_ret
    exact ⟨rfl, HB2.out⟩
  by_cases g2 : 300 < rk
  · go_wp2_with fail
    go_ret
    exact ⟨rfl, HB2.out⟩
  by_cases g3 : mo < 0
  · go_wp2_with fail
    go_ret
    exact ⟨rfl, HB2.out⟩
  by_cases g4 : 10 < mo
  · go_wp2_with fail
    go_ret
    exact ⟨rfl, HB2.out⟩
  obtain ⟨R, rfl⟩ : ∃ R : Nat, rk = R := ⟨rk.toNat, by omega⟩
  obtain ⟨D, rfl⟩ : ∃ R : Nat, mo = R := ⟨mo.toNat, by omega⟩
  have HNEW := Lib.hid (qf_new w w2 HB2.out noB (no_noB _ _) N 0 N 0 (by omega) (by omega))
  have hd1 : decide ((R : Int) < 0) = false := by simp
  have hd2 : decide ((300 : Int) < (R : Int)) = false := decide_eq_false g2
  have hd3 : decide ((D : Int) < 0) = false := by simp
  have hd4 : decide ((10 : Int) < (D : Int)) = false := decide_eq_false g4
  go_wp2_with fail
  (with_reducible refine HNEW.out.mono ?_)
  rintro e w4 ⟨q, r, xs, rfl, F4, hmp, -⟩
  have hln := lines_any w4 N 0 hN8 (by omega)
  rw [show ((0 : Nat) : Int) = 0 from rfl] at hln
  have HLN := Lib.hid hln
  clear hln
  have HF4 := Lib.hid F4; have HMP := Lib.hid hmp
  clear HNEW F4 hmp
  go_wp2_with fail
  (with_reducible refine HLN.out.mono ?_)
  rintro e w5 ⟨V, ms, rfl, l5, hmm, b5⟩
  have hmn : ms.length = N := by have := congrArg List.length hmm; rw [List.length_map, List.length_replicate] at this; exact this
  have F5 : QF w w5 q r xs (LB V ms) := HF4.out.add b5 fun k hk => .inr ⟨(l5.lt hk).1, (l5.lt hk).2⟩
  have hxn : xs.length = N := by have := congrArg List.length HMP.out; rw [List.length_map, List.length_replicate] at this; exact this
  obtain ⟨g, c0, cur, rfl, -, -, -, -⟩ := l5.form (by omega) N hmn
  have HB5 : Hid (Bth w w5 q r N (.slice (some ⟨g, 0, none⟩) N c0) xs ms) := ⟨F5, l5.less HF4.out.be.size, hxn, by rw [hmm, HMP.out]⟩
  have HM5 : Hid (∀ x ∈ xs, x.l.length ≤ 12 * 0) := fun x hx => by
    have h1 : x.l ∈ xs.map Ln.l := List.mem_map_of_mem hx
    rw [HMP.out] at h1
    have h2 := (List.mem_replicate.1 h1).2
    rw [h2]
    simp [zB]
  clear HLN HF4 HMP l5 hmm b5 hmn F5 hxn ha8 ha2
  go_wp2_with fail
  clear hd1 hd2 hd3 hd4
  go_loopw [12] (fun ii wr => ∃ (i : Nat) (xs : List Ln) (ms : List Rl), ii = .int .i64 (i : Int) ∧ i ≤ 20 ∧ Hid (Bth w wr q r N (.slice (some ⟨g, 0, none⟩) N c0) xs ms) ∧ Hid (∀ x ∈ xs, x.l.length ≤ 12 * i)) (fun ii _ => 20 - (intOf ii).toNat)
  case atStart => exact ⟨0, xs, ms, rfl, by omega, HB5, HM5⟩
  case round =>
    obtain ⟨i, xs, ms, rfl, hi, HB, HM⟩ := hrel
    clear HB5 HM5
    obtain ⟨gb, hgb⟩ : ∃ gb : Bool, decide (i < Q ∧ i < 20) = gb := ⟨_, rfl⟩
    have HGB := Lib.hid hgb
    clear hgb
    go_upto_region 10 with fail
    go_cut [48] (fun s48 wx => s48 = .bool gb ∧ wx = wr)
    case first =>
      by_cases i0 : i < Q
      · have z1 : (i : Int) < (Q : Int) := by omega
        by_cases i1 : i < 20
        · have z2 : (i : Int) < 20 := by omega
          have i2 : Hid (gb = true) := by show _ = _; rw [← HGB.out]; exact decide_eq_true ⟨i0, i1⟩
          go_wp2
          go_meet
          exact ⟨by rw [i2.out], rfl⟩
        · have z2 : ¬ (i : Int) < 20 := by omega
          have z3 : decide ((i : Int) < 20) = false := decide_eq_false z2
          have i2 : Hid (gb = false) := by show _ = _; rw [← HGB.out]; exact decide_eq_false (fun h => i1 h.2)
          go_wp2
          go_meet
          exact ⟨by rw [i2.out], rfl⟩
      · have z1 : ¬ (i : Int) < (Q : Int) := by omega
        have z3 : decide ((i : Int) < (Q : Int)) = false := decide_eq_false z1
        have i2 : Hid (gb = false) := by show _ = _; rw [← HGB.out]; exact decide_eq_false (fun h => i0 h.1)
        go_wp2
        go_meet
        exact ⟨by rw [i2.out], rfl⟩
    case rest =>
      obtain ⟨rfl, hw⟩ := hcut
      subst wc
      cases gb with
      | true =>
        obtain ⟨hiq, hi50⟩ := of_decide_eq_true HGB.out
        have z1 : (i : Int) < (Q : Int) := by omega
        obtain ⟨b, off, rfl, hbw, hat⟩ := H0.out (by have := HQ.out; omega)
        obtain ⟨o, ho⟩ : ∃ o, os[i]'(by have := HQ.out; omega) = o := ⟨_, rfl⟩
        have hin := HOS.out o (by rw [← ho]; exact List.getElem_mem _)
        have hat4 : Hid (at4 wr b (off + i * 4) o) := by
          have h1 := hat i (by have := HQ.out; omega)
          rw [ho] at h1
          obtain ⟨x0, x1, x2, x3⟩ := h1
          have hb := HB.out.1.be
          exact ⟨(hb.cell (p := ⟨b, _, none⟩) hbw).trans x0, (hb.cell (p := ⟨b, _, none⟩) hbw).trans x1, (hb.cell (p := ⟨b, _, none⟩) hbw).trans x2, (hb.cell (p := ⟨b, _, none⟩) hbw).trans x3⟩
        have HDO := Lib.hid (do_grow w wr q r xs g N c0 ms HB.out hN8 o.k o.p o.f o.a o.l o.l.length o.cap rfl hin.le hin.cm hin.rb)
        clear hat ho hin
        go_wp2_with (refine wpList_load_op rfl (.tmp 55) rfl b (off + i * 4) (by rfl) hat4.out ?_)
        (with_reducible refine HDO.out.mono ?_)
        rintro e w6 ⟨rfl, xs6, ms6, B6, G6⟩
        have HB6 := Lib.hid B6
        have HM6 : Hid (∀ x ∈ xs6, x.l.length ≤ 12 * (i + 1)) := fun x hx => by have := G6 _ HM.out x hx; omega
        have hi2 : Hid (i + 1 ≤ 20) := by show _ ≤ _; omega
        have hms : Hid (20 - (i + 1) < 20 - i) := by show _ < _; omega
        clear HDO HB HM hat4 B6 G6
        go_wp2_with fail
        exact ⟨⟨i + 1, xs6, ms6, by go_num, hi2.out, HB6, HM6⟩, by simp [intOf]; have := hms.out; omega⟩
      | false =>
        have hx0 : 0 < xs.length := by have := HB.out.2.2.1; omega
        obtain ⟨F, hF⟩ : ∃ F, frontN xs = F := ⟨_, rfl⟩
        have hF1 : F ≤ 300 := by
          have h1 := frontN_mem xs xs[0] (List.getElem_mem hx0)
          have h2 := HM.out xs[0] (List.getElem_mem hx0)
          rw [hF] at h1
          omega
        obtain ⟨p0, hp0⟩ := first_lines xs F hF
        obtain ⟨ls, hls⟩ : ∃ ls, xs.map Ln.l = ls := ⟨_, rfl⟩
        rw [hls] at hp0
        have hxN : Hid (xs.length = N) := HB.out.2.2.1
        have HLN : Hid (ls.length = N) := by show _ = _; rw [← hls, List.length_map]; exact hxN.out
        have HLM : Hid (ms.map Rl.l = ls) := by show _ = _; rw [HB.out.2.2.2, hls]
        have RF := Lib.hid (rfront_any wr w.heap.size _ ms HB.out.2.1 (by have := HB.out.mlen; omega) (by have := HB.out.mlen; omega) HB.out.small F (HB.out.front.trans hF))
        obtain ⟨T, hT⟩ : ∃ T : Int, (F : Int) + (D : Int) = T := ⟨_, rfl⟩
        obtain ⟨R1, hR1⟩ : ∃ R1, aheadG true kM2 R T ls F p0 = R1 := ⟨_, rfl⟩
        have hRl : Hid (R1.length = D) := by show _ = _; rw [← hR1]; exact aheadG_len (T := F + D) (by omega) (by omega) rfl (by omega)
        have hRg : Hid (∀ i, i < D → R1[i]? = some (rowP kM2 R (F + D) ls F p0 i)) := fun i hi => by
          rw [← hR1, aheadG_in (by omega) (by omega) (by omega), show (R : Int).toNat = R by omega, show T.toNat = F + D by omega]
          exact rowsP_get _ _ _ _ _ _ _ (by omega)
        have HA1 : Hid (Calls Try.prog 13 #[pB q, .agg #[.int .i64 2, .int .i64 2, .slice none 0 0], .int .i64 (R : Int), .int .i64 T] wr fun e w' => ∃ A' c', e = .returned (.slice A' D c') ∧ RR w' w'.heap.size A' R1 ∧ Below wr.heap.size wr w') := by
          have := ahead_gen wr q r xs HB.out.1.qm N hxN.out (by omega) hN8 F hF 2 2 none 0 0 [] (pm_none wr) R T p0 (by rw [hls]; exact hp0) true (by decide) _ rfl
          rw [hls] at this
          have e : aheadG true ⟨(2 : Int).toNat, (2 : Int).toNat, []⟩ R T ls F p0 = R1 := hR1
          rw [e, hRl.out] at this
          exact this
        clear hF hp0 hls hx0 HM hR1
        go_wp2_with (go_at_call 17; with_reducible refine RF.out.mono ?_; rintro e w7 ⟨rfl, rfl⟩)
        (with_reducible refine HA1.out.mono ?_)
        rintro e w6 ⟨A6, m6, rfl, R6, b6⟩
        have HR6 := Lib.hid R6
        have HL6 := Lib.hid (HB.out.2.1.belows b6)
        have HBE : Hid (Below w.heap.size w w6) := HB.out.1.be.trans (b6.mono HB.out.1.be.size)
        have HMN : Hid (ms.length = N) := HB.out.mlen
        have HSM := Lib.hid HB.out.small
        clear RF HA1 HB R6 b6 hT
        go_wp2_with fail
        go_loopw [15, 16] (fun v0 v1 wr2 => ∃ i : Nat, v0 = .int .i64 (i : Int) ∧ i ≤ D ∧ Hid (Below w6.heap.size w6 wr2)) (fun v0 _ _ => D - (intOf v0).toNat)
        case atStart => exact ⟨0, rfl, by omega, Below.refl _ _⟩
        case round =>
          obtain ⟨i, rfl, hi, HW2⟩ := hrel
          by_cases hlt2 : i < D
          · have hiz : (i : Int) < (D : Int) := by omega
            go_wp2_with fail
            go_loopw [16] (fun v1 wr2 => ∃ p : Nat, v1 = .int .i64 (p : Int) ∧ p ≤ N ∧ Hid (Below w6.heap.size w6 wr2)) (fun v1 _ => N - (intOf v1).toNat)
            case atStart => exact ⟨0, rfl, by omega, HW2⟩
            case round =>
              obtain ⟨p, rfl, hp, HW3⟩ := hrel
              by_cases hlt3 : p < N
              · obtain ⟨g1, a1, k1, rfl, x1, y1⟩ := (HR6.out.then_ (Nat.le_refl _) HW3.out).at i _ (hRg.out i hlt2) N ((rowP_len ..).trans HLN.out)
                obtain ⟨b1, o1, rfl, -, -⟩ := y1 (by rw [rowP_len, HLN.out]; omega)
                have z1 := y1.cell_ p (by rw [rowP_len, HLN.out]; exact hlt3)
                rw [List.getD, rowP_get _ _ _ _ _ _ _ _ (by rw [HLN.out]; exact hlt3), Option.getD_some] at z1
                obtain ⟨m, hm⟩ : ∃ m, ms[p]? = some m := ⟨_, List.getElem?_eq_getElem (by rw [HMN.out]; exact hlt3)⟩
                obtain ⟨L, hL⟩ : ∃ L, m.l.length = L := ⟨_, rfl⟩
                have hL1 : L ≤ 1000 := by rw [← hL]; exact HSM.out m (List.mem_of_getElem? hm)
                obtain ⟨A2, c2, x2, -, y2⟩ := (HL6.out.belows HW3.out).line_at p m hm L hL
                have hlsp : ls.getD p [] = m.l := by rw [← HLM.out, List.getD, List.getElem?_map, hm]; rfl
                obtain ⟨G, hG⟩ : ∃ G : Nat, F + i = G := ⟨_, rfl⟩
                have hw1 : IntKind.i64.wrap ((F : Int) + (i : Int)) = (G : Int) := by rw [IntKind.wrap_i64]; omega
                have hpz : (p : Int) < (N : Int) := by omega
                have hnn : ((N : Int) != (N : Int)) = false := by simp
                have hp2 : Hid (p + 1 ≤ N) := hlt3
                have HWd : Hid (Below w6.heap.size w6 wr.drew) := HW3.out.drew
                by_cases hk : G < L
                · obtain ⟨b2, o2, rfl, -, -⟩ := y2 (by omega)
                  have z2 := y2.cell_ G (by omega)
                  have hce := celP_known kM2 R (F + D) ls F p0 i p (by rw [hlsp, hG, hL]; exact hk)
                  rw [hlsp, hG] at hce
                  rw [hce] at z1
                  obtain ⟨cx, hcx⟩ : ∃ cx : Int, ((m.l.getD G 0).toNat : Int) = cx := ⟨_, rfl⟩
                  rw [hcx] at z1 z2
                  have hGL : (G : Int) < (L : Int) := by omega
                  have hcc : ((cx : Int) != (cx : Int)) = false := by simp
                  clear y1 y2 hm hL hlsp hG hce hcx
                  go_wp2_with fail
                  go_big_region
                  all_goals go_wp2_with fail
                  all_goals exact ⟨⟨p + 1, by go_num, hp2.out, HWd⟩, by simp [intOf]; omega⟩
                · have hGL : ¬ (G : Int) < (L : Int) := by omega
                  have hGd : decide ((G : Int) < (L : Int)) = false := decide_eq_false hGL
                  clear y1 y2 hm hL hlsp hG z1
                  go_wp2_with fail
                  go_big_region
                  all_goals go_wp2_with fail
                  all_goals exact ⟨⟨p + 1, by go_num, hp2.out, HWd⟩, by simp [intOf]; omega⟩
              · have hpz : ¬ (p : Int) < (N : Int) := by omega
                have hi2 : Hid (i + 1 ≤ D) := hlt2
                go_wp2_with fail
                exact ⟨⟨i + 1, by go_num, hi2.out, HW3⟩, by simp [intOf]; omega⟩
          · obtain rfl : i = D := by omega
            have hiz : ¬ (i : Int) < (i : Int) := by omega
            have hee : ((i : Int) == (i : Int)) = true := by simp
            have HBf : Hid (Below w.heap.size w wr) := HBE.out.trans (HW2.out.mono HBE.out.size)
            go_wp2_with fail
            go_ret
            exact ⟨by first | rfl | simp, HBf.out⟩
end Go.Proofs.Ytomiligjcpmnjaa
