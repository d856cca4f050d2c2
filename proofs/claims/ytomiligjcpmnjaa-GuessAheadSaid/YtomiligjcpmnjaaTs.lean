/- WALK of the law GuessAhead. -/
import Derived.Test.YtomiligjcpmnjaaTr
import Derived.Test.YtomiligjcpmnjaaFv
namespace Go.Proofs.Ytomiligjcpmnjaa
set_option maxRecDepth 100000
open Go.RowKit Go.Maps
set_option linter.unusedVariables false
set_option linter.unusedSimpArgs false

theorem rahead_gen (w : World) (base : Nat) (v : Value) (ms : List Rl) (h : LR w base v ms) (n : Nat) (hn : ms.length = n) (h0 : 0 < n) (h8 : n ≤ 8) (hl : ∀ m ∈ ms, m.l.length ≤ 1000) (F : Nat) (hF : frontP (ms.map Rl.l) = F) (z o : Int) (A : Option Addr) (X c : Nat) (tb : List UInt8) (hp : PM w A tb X c) (r t : Int) (p0 : Nat) (hp0 : F < 1000 → First (ms.map Rl.l) F p0) (may : Bool) (hmay : mayB z o X = may) (R : List (List UInt8)) (hR : aheadG may ⟨z.toNat, o.toNat, tb⟩ r t (ms.map Rl.l) F p0 = R) :
    Calls Try.prog 15 #[v, .agg #[.int .i64 z, .int .i64 o, .slice A X c], .int .i64 r, .int .i64 t] w fun e w' => ∃ A' c', e = .returned (.slice A' R.length c') ∧ RR w' w'.heap.size A' R ∧ Below w.heap.size w w' := by
  unfold aheadG at hR
  by_cases hc : 0 ≤ r ∧ (F : Int) < t ∧ t ≤ 1000 ∧ may = true
  · rw [if_pos hc] at hR
    obtain ⟨c1, c2, c3, c4⟩ := hc
    rw [c4] at hmay
    obtain ⟨hk, hz, ho⟩ := gen_kd hmay hp
    have hr : r = (r.toNat : Int) := by omega
    have ht : t = (t.toNat : Int) := by omega
    have := rahead_in w base v ms h n hn h0 h8 hl F hF _ z o hz ho A X c hk r.toNat t.toNat (by omega) (by omega) p0 (hp0 (by omega))
    rw [← hr, ← ht] at this
    refine this.mono fun e w' ⟨A', c', he, h2, h3⟩ => ⟨A', c', by rw [he, ← hR, rowsP_len], by rw [← hR]; exact h2, h3⟩
  · rw [if_neg hc] at hR
    subst hR
    have hX : X ≤ maxLen := Nat.le_trans hp.nc hp.cm
    refine (rahead_none w base v ms h (by omega) (by omega) hl F hF z o A X c hX r t may hmay ?_).mono fun e w' ⟨he, hb⟩ => ⟨none, 0, he, RR.nil _ _ _, hb⟩
    by_cases q1 : r < 0
    · exact .inl q1
    by_cases q2 : t ≤ (F : Int)
    · exact .inr (.inl q2)
    by_cases q3 : 1000 < t
    · exact .inr (.inr (.inl q3))
    · refine .inr (.inr (.inr ?_))
      cases may with
      | true => exact absurd ⟨by omega, by omega, by omega, rfl⟩ hc
      | false => rfl
set_option maxHeartbeats 4000000 in
theorem ahead_law (n d : Int) (A0 : Option Addr) (os : List O4) (cap0 : Nat) (z o : Int) (A1 : Option Addr) (l1 : List UInt8) (cap1 : Nat) (r t : Int) (w : World) (h0 : RO4 w w.heap.size A0 os) (k0 : os.length ≤ cap0) (m0 : cap0 ≤ maxLen) (hos : ∀ o ∈ os, InO4 w o) (h1 : RB w w.heap.size A1 l1) (k1 : l1.length ≤ cap1) (m1 : cap1 ≤ maxLen)
    (n1 : -9223372036854775808 ≤ n) (n2 : n ≤ 9223372036854775807) (d1 : -9223372036854775808 ≤ d) (d2 : d ≤ 9223372036854775807) :
    Calls Try.prog 3 #[.int .i64 n, .int .i64 d, .slice A0 os.length cap0, .agg #[.int .i64 z, .int .i64 o, .slice A1 l1.length cap1], .int .i64 r, .int .i64 t] w fun e w' => e = .returned (.bool true) ∧ Below w.heap.size w w' := by
  obtain ⟨Q, hQ⟩ : ∃ Q, os.length = Q := ⟨_, rfl⟩
  rw [hQ] at k0 ⊢
  have H0 := Lib.hid h0; have HQ := Lib.hid hQ; have HOS := Lib.hid hos
  obtain ⟨N, hN⟩ : ∃ N : Nat, (N : Int) = min (max n 2) 8 := ⟨(min (max n 2) 8).toNat, by omega⟩
  obtain ⟨K, hK⟩ : ∃ K : Nat, (K : Int) = min (max d 0) 8 := ⟨(min (max d 0) 8).toNat, by omega⟩
  obtain ⟨a8, ha8⟩ : ∃ a : Int, min n 8 = a := ⟨_, rfl⟩
  obtain ⟨b8, hb8⟩ : ∃ a : Int, min d 8 = a := ⟨_, rfl⟩
  have ha2 : max 2 a8 = (N : Int) := by omega
  have hb2 : max 0 b8 = (K : Int) := by omega
  have hN2 : 2 ≤ N := by omega
  have hN8 : N ≤ 8 := by omega
  have hK8 : K ≤ 8 := by omega
  obtain ⟨tb, htb⟩ : ∃ p, l1.take 40 = p := ⟨_, rfl⟩
  obtain ⟨X, hX⟩ : ∃ L, tb.length = L := ⟨_, rfl⟩
  obtain ⟨hX40, hXc⟩ : X ≤ 40 ∧ X ≤ cap1 := by rw [← htb, List.length_take] at hX; omega
  have HCu := Lib.hid (fun W => cut_any z o A1 l1 l1.length cap1 X W rfl k1 m1 (by rw [htb, hX]))
  have HT : Hid (PM w A1 tb X cap1) := ⟨hX, hXc, m1, by rw [← htb]; exact h1.take 40⟩
  obtain ⟨n00, hn00⟩ : ∃ n00, l1.length = n00 := ⟨_, rfl⟩
  rw [hn00] at HCu ⊢
  obtain ⟨w1, hw1⟩ : ∃ w1, w.alloc (.cells #[.int .i64 z, .int .i64 o, .slice A1 n00 cap1] 25) = w1 := ⟨_, rfl⟩
  have b1 : Below w.heap.size w w1 := by rw [← hw1]; exact (Below.refl _ _).alloc (Nat.le_refl _) _
  have s1 : w1.heap.size = w.heap.size + 1 := by rw [← hw1]; simp
  have hbox1 : w1.heap[w.heap.size]? = some (.cells #[.int .i64 z, .int .i64 o, .slice A1 n00 cap1] 25 (0, 0)) := by
    rw [← hw1]; exact heap_alloc_last w _
  have HG := Lib.hid (begun19_any w1)
  have HW := Lib.hid hw1; have B1 := Lib.hid b1; have S1 := Lib.hid s1; have HX1 := Lib.hid hbox1
  rw [← HW.out] at HG
  clear h0 hQ hos hN hK k0 m0 n1 n2 d1 d2 h1 k1 m1 htb hX hX40 hXc hn00 hw1 b1 s1 hbox1
  go_enter Try.func3, Try.ntmps3
  go_wp2_with fail
  (with_reducible refine HG.out.mono ?_)
  rintro e w2 ⟨rfl, hb2'⟩
  rw [HW.out] at hb2'
  have HB2 := Lib.hid (B1.out.trans (hb2'.mono B1.out.size))
  have hbx2 : w2.heap[w.heap.size]? = some (.cells #[.int .i64 z, .int .i64 o, .slice A1 n00 cap1] 25 (0, 0)) := (hb2'.block w.heap.size (by rw [S1.out]; omega)).trans HX1.out
  have c20 : w2.cell? ⟨w.heap.size, 0, none⟩ = some (.int .i64 z) := cell_of_row _ _ _ _ _ _ hbx2
  have c21 : w2.cell? ⟨w.heap.size, 1, none⟩ = some (.int .i64 o) := cell_of_row _ _ _ _ _ _ hbx2
  have c22 : w2.cell? ⟨w.heap.size, 2, none⟩ = some (.slice A1 n00 cap1) := cell_of_row _ _ _ _ _ _ hbx2
  have HBX2 := Lib.hid hbx2
  have Z2 : Hid (w.heap.size + 1 ≤ w2.heap.size) := by unfold Hid; rw [← S1.out]; exact hb2'.size
  clear hb2' hbx2 HG HX1 B1 HW
  go_wp2_with fail
  (with_reducible refine (HCu.out _).mono ?_)
  rintro e w3 ⟨rfl, hb3⟩
  have HB3 := Lib.hid (HB2.out.trans (hb3.mono HB2.out.size))
  have hbx3 : w3.heap[w.heap.size]? = some (.cells #[.int .i64 z, .int .i64 o, .slice A1 n00 cap1] 25 (0, 0)) := (hb3.block w.heap.size (by have := Z2.out; omega)).trans HBX2.out
  have Z3 : Hid (w.heap.size + 1 ≤ w3.heap.size) := by unfold Hid; have := Z2.out; have := hb3.size; omega
  clear hb3 HBX2 c20 c21 c22 HB2 HCu
  go_upto_region 5 with (with_reducible refine wpList_store_by rfl (.tmp 9) (.tmp 32) rfl w.heap.size (by with_unfolding_all rfl) z o z o A1 A1 n00 cap1 X cap1 hbx3 (by with_unfolding_all rfl) ?_; intro w4 hbx4 S4 R4)
  have HB4 : Hid (Below w.heap.size w w4) := HB3.out.grown R4 (by have := HB3.out.size; omega) (fun k e => by cases e; exact Nat.le_refl _)
  have Z4 : Hid (w.heap.size + 1 ≤ w4.heap.size) := by unfold Hid; rw [S4]; exact Z3.out
  have BX := Lib.hid (box3 hbx4)
  have HT4 := Lib.hid (HT.out.then_ HB4.out)
  have HNEW := Lib.hid (qf_new w4 w4 (Below.refl _ _) noB (no_noB _ _) N K N K (by omega) (by omega))
  clear HB3 Z3 S4 R4 HT hbx3 hbx4
  go_wp2_with fail
  (with_reducible refine HNEW.out.mono ?_)
  rintro e w5 ⟨q, rr, xs, rfl, F4, hmp, -⟩
  have HLN := Lib.hid (lines_any w5 N K hN8 hK8)
  have HF4 := Lib.hid F4; have HMP := Lib.hid hmp
  clear HNEW F4 hmp
  go_wp2_with fail
  (with_reducible refine HLN.out.mono ?_)
  rintro e w6 ⟨V, ms, rfl, l5, hmm, b5⟩
  have hmn : ms.length = N := by have := congrArg List.length hmm; rw [List.length_map, List.length_replicate] at this; exact this
  have F5 : QF w4 w6 q rr xs (LB V ms) := HF4.out.add b5 fun k hk => .inr ⟨(l5.lt hk).1, (l5.lt hk).2⟩
  have hxn : xs.length = N := by have := congrArg List.length HMP.out; rw [List.length_map, List.length_replicate] at this; exact this
  obtain ⟨g, c0, cur, rfl, -, -, -, -⟩ := l5.form (by omega) N hmn
  have HB5 : Hid (Bth w4 w6 q rr N (.slice (some ⟨g, 0, none⟩) N c0) xs ms) := ⟨F5, l5.less HF4.out.be.size, hxn, by rw [hmm, HMP.out]⟩
  clear HLN HF4 HMP l5 hmm b5 hmn F5 hxn ha8 ha2 hb8 hb2
  go_wp2_with fail
  go_loopw [16] (fun ii wr => ∃ (i : Nat) (xs : List Ln) (ms : List Rl), ii = .int .i64 (i : Int) ∧ i ≤ 20 ∧ Hid (Bth w4 wr q rr N (.slice (some ⟨g, 0, none⟩) N c0) xs ms)) (fun ii _ => 20 - (intOf ii).toNat)
  case atStart => exact ⟨0, xs, ms, rfl, by omega, HB5⟩
  case round =>
    obtain ⟨i, xs, ms, rfl, hi, HB⟩ := hrel
    clear HB5
    obtain ⟨gb, hgb⟩ : ∃ gb : Bool, decide (i < Q ∧ i < 20) = gb := ⟨_, rfl⟩
    have HGB := Lib.hid hgb
    clear hgb
    go_upto_region 8 with fail
    go_cut [46] (fun s46 wx => s46 = .bool gb ∧ wx = wr)
    case first =>
      by_cases i0 : i < Q
      · have z1 : (i : Int) < (Q : Int) := by omega
        by_cases i1 : i < 20
        · have z2 : (i : Int) < 20 := by omega
          have i2 : Hid (gb = true) := by show _ = _; rw [← HGB.out]; exact decide_eq_true ⟨i0, i1⟩
          go_wp2
          go_meet
          exact ⟨by rw [i2.out], rfl⟩
        · have z2 : ¬ (i : Int) < 20 := by omega
          have z3 : decide ((i : Int) < 20) = false := decide_eq_false z2
          have i2 : Hid (gb = false) := by show _ = _; rw [← HGB.out]; exact decide_eq_false (fun h => i1 h.2)
          go_wp2
          go_meet
          exact ⟨by rw [i2.out], rfl⟩
      · have z1 : ¬ (i : Int) < (Q : Int) := by omega
        have z3 : decide ((i : Int) < (Q : Int)) = false := decide_eq_false z1
        have i2 : Hid (gb = false) := by show _ = _; rw [← HGB.out]; exact decide_eq_false (fun h => i0 h.1)
        go_wp2
        go_meet
        exact ⟨by rw [i2.out], rfl⟩
    case rest =>
      obtain ⟨rfl, hw⟩ := hcut
      subst wc
      cases gb with
      | true =>
        as_aux_lemma =>
          obtain ⟨hiq, hi50⟩ := of_decide_eq_true HGB.out
          have z1 : (i : Int) < (Q : Int) := by omega
          obtain ⟨b, off, rfl, hbw, hat⟩ := H0.out (by have := HQ.out; omega)
          obtain ⟨o', ho⟩ : ∃ o, os[i]'(by have := HQ.out; omega) = o := ⟨_, rfl⟩
          have hin := HOS.out o' (by rw [← ho]; exact List.getElem_mem _)
          have hat4 : Hid (at4 wr b (off + i * 4) o') := by
            have h1 := hat i (by have := HQ.out; omega)
            rw [ho] at h1
            obtain ⟨x0, x1, x2, x3⟩ := h1
            have hb := HB4.out.trans (HB.out.1.be.mono HB4.out.size)
            exact ⟨(hb.cell (p := ⟨b, _, none⟩) hbw).trans x0, (hb.cell (p := ⟨b, _, none⟩) hbw).trans x1, (hb.cell (p := ⟨b, _, none⟩) hbw).trans x2, (hb.cell (p := ⟨b, _, none⟩) hbw).trans x3⟩
          have hrb4 : RB w4 w4.heap.size o'.a o'.l := RB.more (hin.rb.below HB4.out) HB4.out.size
          have HDO := Lib.hid (do_any w4 wr q rr xs g N c0 ms HB.out hN8 o'.k o'.p o'.f o'.a o'.l o'.l.length o'.cap rfl hin.le hin.cm hrb4)
          clear hat ho hin hrb4
          go_wp2_with (refine wpList_load_op rfl (.tmp 53) rfl b (off + i * 4) (by rfl) hat4.out ?_)
          (with_reducible refine HDO.out.mono ?_)
          rintro e w6 ⟨rfl, xs6, ms6, B6⟩
          have HB6 := Lib.hid B6
          have hi2 : Hid (i + 1 ≤ 20) := by show _ ≤ _; omega
          have hms : Hid (20 - (i + 1) < 20 - i) := by show _ < _; omega
          clear HDO HB hat4 B6
          go_wp2_with fail
          exact ⟨⟨i + 1, xs6, ms6, by go_num, hi2.out, HB6⟩, by simp [intOf]; have := hms.out; omega⟩
      | false =>
        have HMN : Hid (ms.length = N) := HB.out.mlen
        have HSM := Lib.hid HB.out.small
        obtain ⟨wL, rfl⟩ : ∃ wL, wL = wr := ⟨wr, rfl⟩
        go_wp2_with fail
        go_loopw [17, 18] (fun v17 v18 wr => ∃ p mo : Nat, v18 = .int .i64 (p : Int) ∧ v17 = .int .i64 (mo : Int) ∧ p ≤ N ∧ mo ≤ 1000 ∧ wr = wL) (fun _ v18 _ => N - (intOf v18).toNat)
        case atStart => exact ⟨0, 0, rfl, rfl, by omega, by omega, rfl⟩
        case round =>
          obtain ⟨p, mo, rfl, rfl, hp, hmo, rfl⟩ := hrel
          by_cases hlt : p < N
          · as_aux_lemma =>
              obtain ⟨m, hm⟩ : ∃ m, ms[p]? = some m := ⟨_, List.getElem?_eq_getElem (by rw [HMN.out]; exact hlt)⟩
              obtain ⟨L, hL⟩ : ∃ L, m.l.length = L := ⟨_, rfl⟩
              have hL1 : L ≤ 1000 := by rw [← hL]; exact HSM.out m (List.mem_of_getElem? hm)
              obtain ⟨Am, cm, x1, -, -⟩ := HB.out.2.1.line_at p m hm L hL
              obtain ⟨m2, hm2⟩ : ∃ m2 : Nat, max mo L = m2 := ⟨_, rfl⟩
              have e1 : max (mo : Int) (L : Int) = (m2 : Int) := by omega
              have hm21 : Hid (m2 ≤ 1000) := by show _ ≤ _; omega
              have hpz : (p : Int) < (N : Int) := by omega
              have hp2 : Hid (p + 1 ≤ N) := hlt
              have hms : Hid (N - (p + 1) < N - p) := by show _ < _; omega
              clear hm hL hm2
              go_wp2
              go_roundw
              case rel => exact ⟨p + 1, m2, by go_num, rfl, hp2.out, hm21.out, trivial⟩
              case measure => simp [intOf]; have := hms.out; omega
          · obtain rfl : p = N := by omega
            have hpz : ¬ (p : Int) < (p : Int) := by omega
            obtain ⟨tq, htq⟩ : ∃ tq : Bool, decide ((mo : Int) + 10 < t ∧ t ≤ 1000) = tq := ⟨_, rfl⟩
            have HTQ := Lib.hid htq
            clear htq
            go_upto_region 17 with fail
            go_cut [77] (fun s77 wx => s77 = .bool tq ∧ wx = wr)
            case first =>
              as_aux_lemma =>
                by_cases i0 : (mo : Int) + 10 < t
                · by_cases i1 : t ≤ 1000
                  · have i2 : Hid (tq = true) := by show _ = _; rw [← HTQ.out]; exact decide_eq_true ⟨i0, i1⟩
                    go_wp2
                    go_meet
                    exact ⟨by rw [i2.out], rfl⟩
                  · have i3 : decide (t ≤ 1000) = false := decide_eq_false i1
                    have i2 : Hid (tq = false) := by show _ = _; rw [← HTQ.out]; exact decide_eq_false (fun h => i1 h.2)
                    go_wp2
                    go_meet
                    exact ⟨by rw [i2.out], rfl⟩
                · have i3 : decide ((mo : Int) + 10 < t) = false := decide_eq_false i0
                  have i2 : Hid (tq = false) := by show _ = _; rw [← HTQ.out]; exact decide_eq_false (fun h => i0 h.1)
                  go_wp2
                  go_meet
                  exact ⟨by rw [i2.out], rfl⟩
            case rest =>
            obtain ⟨rfl, hw⟩ := hcut
            subst wc
            go_upto_if 77 with fail
            go_cut [5] from 78 to 79 (fun s5 wx => (∃ t' : Int, s5 = .int .i64 t') ∧ wx = wr)
            case first =>
              cases tq with
              | true =>
                go_wp2
                go_meet
                exact ⟨⟨_, rfl⟩, rfl⟩
              | false =>
                go_wp2
                go_meet
                exact ⟨⟨_, rfl⟩, rfl⟩
            case rest =>
            obtain ⟨⟨t', rfl⟩, hw⟩ := hcut
            subst wc
            have hx0 : 0 < xs.length := by have := HB.out.2.2.1; omega
            have hx8 : xs.length ≤ 8 := by have := HB.out.2.2.1; omega
            obtain ⟨F, hF⟩ : ∃ F, frontN xs = F := ⟨_, rfl⟩
            obtain ⟨p0, hp0⟩ := first_lines xs F hF
            obtain ⟨ls, hls⟩ : ∃ ls, xs.map Ln.l = ls := ⟨_, rfl⟩
            have hlm : ms.map Rl.l = ls := by rw [HB.out.2.2.2, hls]
            rw [hls] at hp0
            obtain ⟨may, hmay⟩ : ∃ may, mayB z o X = may := ⟨_, rfl⟩
            obtain ⟨R, hR⟩ : ∃ R, aheadG may ⟨z.toNat, o.toNat, tb⟩ r t' ls F p0 = R := ⟨_, rfl⟩
            obtain ⟨W0, rfl⟩ : ∃ W0, W0 = wr := ⟨wr, rfl⟩
            have HT0 : Hid (∀ wx, Below W0.heap.size W0 wx → PM wx A1 tb X cap1) := fun wx hx => HT4.out.then_ (HB.out.1.be.trans (hx.mono HB.out.1.be.size))
            obtain ⟨rl, hrl⟩ : ∃ rl, R.length = rl := ⟨_, rfl⟩
            have hrl1 : rl ≤ 1000 := by
              rw [← hrl, ← hR]
              unfold aheadG
              split
              · rw [rowsP_len]; omega
              · simp
            have HRl := Lib.hid hrl
            have HA1 : Hid (∀ wx, Below W0.heap.size W0 wx → Calls Try.prog 13 #[pB q, .agg #[.int .i64 z, .int .i64 o, .slice A1 X cap1], .int .i64 r, .int .i64 t'] wx fun e w' => ∃ A' c', e = .returned (.slice A' rl c') ∧ RR w' w'.heap.size A' R ∧ Below wx.heap.size wx w') := fun wx hx => by
              have := ahead_gen wx q rr xs (HB.out.1.belows hx).qm p HB.out.2.2.1 (by omega) hN8 F hF z o A1 X cap1 tb (HT0.out wx hx) r t' p0 (by rw [hls]; exact hp0) may hmay R (by rw [hls]; exact hR)
              rw [hrl] at this
              exact this
            have HA2 : Hid (∀ wx, Below W0.heap.size W0 wx → Calls Try.prog 15 #[.slice (some ⟨g, 0, none⟩) p c0, .agg #[.int .i64 z, .int .i64 o, .slice A1 X cap1], .int .i64 r, .int .i64 t'] wx fun e w' => ∃ A' c', e = .returned (.slice A' rl c') ∧ RR w' w'.heap.size A' R ∧ Below wx.heap.size wx w') := fun wx hx => by
              have := rahead_gen wx w4.heap.size _ ms (HB.out.belows hx).2.1 p HMN.out (by omega) hN8 HSM.out F (by rw [HB.out.front]; exact hF) z o A1 X cap1 tb (HT0.out wx hx) r t' p0 (by rw [hlm]; exact hp0) may hmay R (by rw [hlm]; exact hR)
              rw [hrl] at this
              exact this
            have HFr : Hid (∀ wx, Below W0.heap.size W0 wx → Calls Try.prog 18 #[pB q] wx fun e w' => e = .returned (.int .i64 F) ∧ wx = w') := fun wx hx => front_any wx q rr xs (HB.out.1.belows hx).qm hx0 hx8 F hF
            have HRF : Hid (∀ wx, Below W0.heap.size W0 wx → Calls Try.prog 17 #[.slice (some ⟨g, 0, none⟩) p c0] wx fun e w' => e = .returned (.int .i64 F) ∧ wx = w') := fun wx hx => rfront_any wx w4.heap.size _ ms (HB.out.belows hx).2.1 (by rw [HMN.out]; omega) (by rw [HMN.out]; exact hN8) HSM.out F (by rw [HB.out.front]; exact hF)
            have FX : Hid (∀ wx, Below W0.heap.size W0 wx → wx.cell? ⟨w.heap.size, 0, none⟩ = some (.int .i64 z) ∧ wx.cell? ⟨w.heap.size, 1, none⟩ = some (.int .i64 o) ∧ wx.cell? ⟨w.heap.size, 2, none⟩ = some (.slice A1 X cap1)) := fun wx hx => BX.out wx ((HB.out.1.be.trans (hx.mono HB.out.1.be.size)).mono Z4.out)
            have HBW : Hid (Below w.heap.size w W0) := HB4.out.trans (HB.out.1.be.mono HB4.out.size)
            have HOf := Lib.hid (fun W => of_any z o A1 X cap1 W)
            have hbc : Below W0.heap.size W0 W0.drew := (Below.refl _ _).drew
            obtain ⟨q0, q1, q2⟩ := FX.out _ hbc
            clear hx0 hx8 hF hp0 hls hlm hmay hR hrl HB HMN HSM HT0 HT4 BX
            go_wp2_with fail
            refine wp_region_held_drew (S := (fun w' => w'.cell? ⟨w.heap.size, 0, none⟩ = some (.int .i64 z) ∧ w'.cell? ⟨w.heap.size, 1, none⟩ = some (.int .i64 o) ∧ w'.cell? ⟨w.heap.size, 2, none⟩ = some (.slice A1 X cap1))) (by kernel_rfl) (⟨q0, q1, q2⟩) (fun hHeld => ?_)
            refine held_take (i := 0) (v := ?_) rfl (by kernel_rfl) (by kernel_rfl) (by kernel_rfl) (fun _ _ _ h => h) (by rfl) hHeld ?_ ?_
            rotate_left 1
            · (intro w hSw; (try dsimp only at hSw); go_simp; try (with_reducible rfl))
            try simp only [Act.put, List.setIfInBounds_toArray, List.set_cons_zero, List.set_cons_succ]
            refine held_take (i := 1) (v := ?_) rfl (by kernel_rfl) (by kernel_rfl) (by kernel_rfl) (fun _ _ _ h => h) (by rfl) hHeld ?_ ?_
            rotate_left 1
            · (intro w hSw; (try dsimp only at hSw); go_simp; try (with_reducible rfl))
            try simp only [Act.put, List.setIfInBounds_toArray, List.set_cons_zero, List.set_cons_succ]
            refine held_take (i := 3) (v := ?_) rfl (by kernel_rfl) (by kernel_rfl) (by kernel_rfl) (fun _ _ _ h => h) (by rfl) hHeld ?_ ?_
            rotate_left 1
            · (intro w hSw; (try dsimp only at hSw); go_simp; try (with_reducible rfl))
            try simp only [Act.put, List.setIfInBounds_toArray, List.set_cons_zero, List.set_cons_succ]
            refine held_take (i := 4) (v := ?_) rfl (by kernel_rfl) (by kernel_rfl) (by kernel_rfl) (fun _ _ _ h => h) (by rfl) hHeld ?_ ?_
            rotate_left 1
            · (intro w hSw; (try dsimp only at hSw); go_simp; try (with_reducible rfl))
            try simp only [Act.put, List.setIfInBounds_toArray, List.set_cons_zero, List.set_cons_succ]
            refine held_take (i := 6) (v := ?_) rfl (by kernel_rfl) (by kernel_rfl) (by kernel_rfl) (fun _ _ _ h => h) (by rfl) hHeld ?_ ?_
            rotate_left 1
            · (intro w hSw; (try dsimp only at hSw); go_simp; try (with_reducible rfl))
            try simp only [Act.put, List.setIfInBounds_toArray, List.set_cons_zero, List.set_cons_succ]
            refine held_take (i := 7) (v := ?_) rfl (by kernel_rfl) (by kernel_rfl) (by kernel_rfl) (fun _ _ _ h => h) (by rfl) hHeld ?_ ?_
            rotate_left 1
            · (intro w hSw; (try dsimp only at hSw); go_simp; try (with_reducible rfl))
            try simp only [Act.put, List.setIfInBounds_toArray, List.set_cons_zero, List.set_cons_succ]
            refine held_take (i := 8) (v := ?_) rfl (by kernel_rfl) (by kernel_rfl) (by kernel_rfl) (fun _ _ _ h => h) (by rfl) hHeld ?_ ?_
            rotate_left 1
            · (intro w hSw; (try dsimp only at hSw); go_simp; try (with_reducible rfl))
            try simp only [Act.put, List.setIfInBounds_toArray, List.set_cons_zero, List.set_cons_succ]
            refine held_take (i := 9) (v := ?_) rfl (by kernel_rfl) (by kernel_rfl) (by kernel_rfl) (fun _ _ _ h => h) (by rfl) hHeld ?_ ?_
            rotate_left 1
            · (intro w hSw; (try dsimp only at hSw); go_simp; try (with_reducible rfl))
            try simp only [Act.put, List.setIfInBounds_toArray, List.set_cons_zero, List.set_cons_succ]
            refine held_one (i := 2) rfl (by kernel_rfl) (by rfl) (fun K hK => ?_)
            go_simp
            (with_reducible refine (HOf.out _).mono ?_)
            rintro e wo ⟨rfl, b5⟩
            replace hbc := hbc.trans (b5.mono hbc.size)
            clear q0 q1 q2 b5
            obtain ⟨q0, q1, q2⟩ := FX.out _ hbc
            refine hK.out _ _ (⟨q0, q1, q2⟩) (fun hHeld2 => ?_)
            clear hK K hHeld; have hHeld := hHeld2; clear hHeld2
            try simp only [Act.put, List.setIfInBounds_toArray, List.set_cons_zero, List.set_cons_succ]
            refine held_one (i := 5) rfl (by kernel_rfl) (by rfl) (fun K hK => ?_)
            go_simp
            (with_reducible refine (HA1.out _ hbc).mono ?_)
            rintro e wa ⟨A3, k3, rfl, rr3, b5⟩
            have hbw3 := b5
            replace hbc := hbc.trans (b5.mono hbc.size)
            clear q0 q1 q2 b5
            obtain ⟨q0, q1, q2⟩ := FX.out _ hbc
            refine hK.out _ _ (⟨q0, q1, q2⟩) (fun hHeld2 => ?_)
            clear hK K hHeld; have hHeld := hHeld2; clear hHeld2
            try simp only [Act.put, List.setIfInBounds_toArray, List.set_cons_zero, List.set_cons_succ]
            refine held_one (i := 10) rfl (by kernel_rfl) (by rfl) (fun K hK => ?_)
            go_simp
            (with_reducible refine (HA2.out _ hbc).mono ?_)
            rintro e wb ⟨A4, k4, rfl, rr4, b5⟩
            have hbw4 := b5
            replace hbc := hbc.trans (b5.mono hbc.size)
            clear q0 q1 q2 b5
            obtain ⟨q0, q1, q2⟩ := FX.out _ hbc
            refine hK.out _ _ (⟨q0, q1, q2⟩) (fun hHeld2 => ?_)
            clear hK K hHeld; have hHeld := hHeld2; clear hHeld2
            try simp only [Act.put, List.setIfInBounds_toArray, List.set_cons_zero, List.set_cons_succ]
            refine held_take (i := 11) (v := ?_) rfl (by kernel_rfl) (by kernel_rfl) (by kernel_rfl) (fun _ _ _ h => h) (by rfl) hHeld ?_ ?_
            rotate_left 1
            · (intro w hSw; (try dsimp only at hSw); go_simp; try (with_reducible rfl))
            try simp only [Act.put, List.setIfInBounds_toArray, List.set_cons_zero, List.set_cons_succ]
            refine held_take (i := 12) (v := ?_) rfl (by kernel_rfl) (by kernel_rfl) (by kernel_rfl) (fun _ _ _ h => h) (by rfl) hHeld ?_ ?_
            rotate_left 1
            · (intro w hSw; (try dsimp only at hSw); go_simp; try (with_reducible rfl))
            try simp only [Act.put, List.setIfInBounds_toArray, List.set_cons_zero, List.set_cons_succ]
            refine wpAnyH_done (by kernel_rfl) ?_ _
            have R3 : Hid (RR wb wb.heap.size A3 R) := rr3.then_ (Nat.le_refl _) hbw4
            have R4 := Lib.hid rr4
            have HBb := Lib.hid hbc
            have hnn : ((rl : Int) != (rl : Int)) = false := by simp
            clear rr3 rr4 hbw3 hbw4 HA1 HA2
            go_upto_region 20 with fail
            go_cut [109] (fun s109 wx => s109 = .bool false ∧ Hid (Below wb.heap.size wb wx))
            case first =>
              as_aux_lemma =>
                obtain ⟨dd, hdd⟩ : ∃ dd, decide (1 ≤ r ∧ r < 256) = dd := ⟨_, rfl⟩
                have HD := Lib.hid (fun W => differs_any W (pB q) z o A1 X cap1 r dd hdd)
                by_cases i0 : 1 ≤ r
                · by_cases i1 : r ≤ 255
                  · have i2 : dd = true := by rw [← hdd]; exact decide_eq_true ⟨i0, by omega⟩
                    subst i2
                    clear hdd
                    go_wp2_with fail
                    (with_reducible refine (HOf.out _).mono ?_)
                    rintro e wo1 ⟨rfl, bo⟩
                    have HBo := Lib.hid bo
                    clear bo
                    go_wp2_with fail
                    (with_reducible refine (HD.out _).mono ?_)
                    rintro e wo2 ⟨rfl, bo⟩
                    have HBo2 := Lib.hid (HBo.out.trans (bo.mono HBo.out.size))
                    clear bo
                    go_wp2_with fail
                    go_meet
                    exact ⟨by first | rfl | simp, HBo2⟩
                  · have i2 : dd = false := by rw [← hdd]; exact decide_eq_false (fun x => i1 (by omega))
                    have i3 : decide (r ≤ 255) = false := decide_eq_false i1
                    subst i2
                    clear hdd
                    go_wp2_with fail
                    (with_reducible refine (HOf.out _).mono ?_)
                    rintro e wo1 ⟨rfl, bo⟩
                    have HBo := Lib.hid bo
                    clear bo
                    go_wp2_with fail
                    (with_reducible refine (HD.out _).mono ?_)
                    rintro e wo2 ⟨rfl, bo⟩
                    have HBo2 := Lib.hid (HBo.out.trans (bo.mono HBo.out.size))
                    clear bo
                    go_wp2_with fail
                    go_meet
                    exact ⟨by first | rfl | simp, HBo2⟩
                · have i2 : dd = false := by rw [← hdd]; exact decide_eq_false (fun x => i0 x.1)
                  have i3 : decide (1 ≤ r) = false := decide_eq_false i0
                  subst i2
                  clear hdd
                  go_wp2_with fail
                  (with_reducible refine (HOf.out _).mono ?_)
                  rintro e wo1 ⟨rfl, bo⟩
                  have HBo := Lib.hid bo
                  clear bo
                  go_wp2_with fail
                  (with_reducible refine (HD.out _).mono ?_)
                  rintro e wo2 ⟨rfl, bo⟩
                  have HBo2 := Lib.hid (HBo.out.trans (bo.mono HBo.out.size))
                  clear bo
                  go_wp2_with fail
                  go_meet
                  exact ⟨by first | rfl | simp, HBo2⟩
            case rest =>
            obtain ⟨rfl, HBc⟩ := hcut
            obtain ⟨wC, hwC⟩ : ∃ wC, wc = wC := ⟨_, rfl⟩
            rw [hwC] at HBc ⊢
            clear hwC q0 q1 q2 hbc
            go_wp2_with fail
            go_loopw [21] (fun v wr => ∃ i : Nat, v = .int .i64 i ∧ i ≤ rl ∧ Hid (Below wb.heap.size wb wr)) (fun v _ => rl - (intOf v).toNat)
            case atStart => exact ⟨0, rfl, by omega, HBc⟩
            case round =>
              clear HBc
              obtain ⟨i, rfl, hi, HBw⟩ := hrel
              by_cases hlt : i < rl
              · as_aux_lemma =>
                  obtain ⟨s, e1⟩ : ∃ s, R[i]? = some s := ⟨_, List.getElem?_eq_getElem (by rw [HRl.out]; exact hlt)⟩
                  obtain ⟨S, hS⟩ : ∃ S, s.length = S := ⟨_, rfl⟩
                  have HBd := HBw.out.drew
                  obtain ⟨g1, a1, k1, rfl, x1, y1⟩ := (R3.out.then_ (Nat.le_refl _) HBd).at i s e1 S hS
                  obtain ⟨g2, a2, k2, rfl, x2, y2⟩ := (R4.out.then_ (Nat.le_refl _) HBd).at i s e1 S hS
                  obtain ⟨t1, ht⟩ : ∃ t, str s = t := ⟨_, rfl⟩
                  have v1 : (convert 23 9 (.slice a1 S k1)).run Try.prog wr.drew = .ok (.string t1) wr.drew := by rw [← ht]; exact conv_rb y1 S k1 hS
                  have v2 : (convert 23 9 (.slice a2 S k2)).run Try.prog wr.drew = .ok (.string t1) wr.drew := by rw [← ht]; exact conv_rb y2 S k2 hS
                  have i1 : wr.cell? ⟨g1, i, none⟩ = some (.slice a1 S k1) := x1
                  have i2 : wr.cell? ⟨g2, i, none⟩ = some (.slice a2 S k2) := x2
                  have hltz : (i : Int) < (rl : Int) := by omega
                  have HBd2 := Lib.hid HBd
                  clear e1 y1 y2 ht hS x1 x2 HBd
                  go_wp2_with fail
                  go_big_region
                  all_goals go_wp2_with fail
                  all_goals exact ⟨⟨i + 1, by go_num, by omega, HBd2.out⟩, by simp [intOf]; omega⟩
              · obtain rfl : i = rl := by omega
                have HBx : Hid (Below W0.heap.size W0 wr) := HBb.out.trans (HBw.out.mono HBb.out.size)
                have HBe : Hid (Below w.heap.size w wr) := HBW.out.trans (HBx.out.mono HBW.out.size)
                have hltz : ¬ (i : Int) < (i : Int) := by omega
                have hFF : ((F : Int) == (F : Int)) = true := by simp
                have HF1 := Lib.hid (HRF.out wr HBx.out)
                have HF2 := Lib.hid (HFr.out wr HBx.out)
                go_wp2_with (first
                  | (go_at_call 17; with_reducible refine HF1.out.mono ?_; rintro e w7 ⟨rfl, rfl⟩)
                  | (go_at_call 18; with_reducible refine HF2.out.mono ?_; rintro e w7 ⟨rfl, rfl⟩))
                go_ret
                exact ⟨by first | rfl | simp, HBe.out⟩
end Go.Proofs.Ytomiligjcpmnjaa
