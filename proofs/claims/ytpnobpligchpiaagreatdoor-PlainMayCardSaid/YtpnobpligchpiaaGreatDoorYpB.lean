/- texts of YpB -/
import Derived.BigRegion
import Derived.Test.YtpnobpligchpiaaGreatDoorYpA
import Derived.Test.YtpnobpligchpiaaGreatDoorYpK
import Derived.Test.YtpnobpligchpiaaGreatDoorYpQ
namespace Go.Proofs.YtpnobpligchpiaaGreatDoor
set_option maxRecDepth 100000
open Go.RowKit
set_option linter.unusedVariables false
set_option linter.unusedSimpArgs false
theorem Goes.step {P : Program} {f : Nat} {args : Array Value} {w0 w w1 : World} {K : Cm} {s s' : Pl} {Φ : Ending → Prop} (g : Goes w0 w K w1 s) (H : ∀ K1 : Cm, K1.s = s → K1.C = K.C → K1.c = K.c → (K1.q = K.q ∧ K1.p = K.p) → CM w0 w1 K1 → Calls P f args w1 fun e w' => Φ e ∧ Goes w0 w1 K1 w' s') :
 Calls P f args w1 fun e w' => Φ e ∧ Goes w0 w K w' s' := by
 obtain ⟨K1, e1, e2, e3, e4, g1, g2, g3⟩ := g
 exact (H K1 e1 e2 e3 e4 g1).mono fun e w' ⟨he, h⟩ => ⟨he, goes_then g2 g3 e2 e3 e4 h⟩
theorem happens_goes {w0 w w1 : World} {K : Cm} {s : Pl} (g : Goes w0 w K w1 s) (e : Ev) (hm : e.may) (hl : s.es.length ≤ 900000) :
 Calls Tryz.prog 72 #[pB K.c, evR e] w1 fun en w' => en = .returned (.tuple #[]) ∧ Goes w0 w K w' { s with es := s.es ++ [e] } :=
 g.step fun K1 e1 e2 e3 e4 h => by
  subst e1
  rw [← e3]
  exact core_happens w0 w1 K1 h e hm hl
theorem CM.hold {w0 w : World} {K : Cm} (h : CM w0 w K) {c : Nat} {C : Cf} (hc : K.c = c) (hC : K.C = C) (i : Nat) (x : Pr) (hx : K.s.ps[i]? = some x) :
 w.cell? ⟨c, 12, none⟩ = some (.slice (some ⟨K.p, 0, none⟩) C.n C.n) ∧ w.cell? ⟨c, 13, none⟩ = some K.mv ∧ w.cell? ⟨K.p, i * 5 + 2, none⟩ = some (.int .i64 x.fr) ∧ w.cell? ⟨K.p, i * 5 + 3, none⟩ = some (.int .u32 x.su) ∧ w.cell? ⟨K.p, i * 5 + 4, none⟩ = some (.bool x.ap) := by
 subst hc; subst hC
 obtain ⟨a0, a1, a2, a3, a4⟩ := h.peer i x hx
 exact ⟨h.cell 12 _ rfl, h.cell 13 _ rfl, a2, a3, a4⟩
theorem heldAt_off {s : Pl} {i : Nat} {x : Pr} (hx : s.ps[i]? = some x) (h : ¬ Bad s x) : heldAt s i = s := by
 unfold heldAt
 rw [hx]
 exact if_neg h
theorem heldAt_on {s : Pl} {i : Nat} {x : Pr} (hx : s.ps[i]? = some x) (h : Bad s x) : heldAt s i = { s with ps := s.ps.set i { x with ap := true }, es := s.es ++ [.a i x.fr] } := by
 unfold heldAt
 rw [hx]
 exact if_pos h
set_option maxHeartbeats 8000000 in
theorem core_holds (w0 w : World) (K : Cm) (h : CM w0 w K) (N : Nat) (hN : K.C.n = N) (h8 : N ≤ 8) (hp : K.s.ps.length = N) (hfr : ∀ x ∈ K.s.ps, x.fr ≤ 1000) (hms : K.s.ms.length ≤ 1000) (hes : K.s.es.length ≤ 800000) :
 Calls Tryz.prog 85 #[pB K.c] w fun en w' => en = .returned (.tuple #[]) ∧ Goes w0 w K w' (heldN K.s N) := by
 have c12 := h.cell 12 _ rfl
 rw [hN] at c12
 have HG0 := qh (h.goes (bR _ _))
 have HN := qh hN; have HP := qh hp; have HFR := qh hfr; have HMS := qh hms; have HES := qh hes
 clear h hN hp hfr hms hes
 obtain ⟨c, hc⟩ : ∃ c, K.c = c := ⟨_, rfl⟩
 have HKC := qh hc
 rw [hc] at c12 ⊢
 clear hc
 go_enter Tryz.func85, Tryz.ntmps85
 go_wp2_with fail
 clear c12
 go_loopw [2, 3, 4, 10] (fun pp xx mm ii wr => ∃ k : Nat, ii = .int .i64 (k : Int) ∧ k ≤ N ∧ Hid (Goes w0 w K wr (heldN K.s k))) (fun _ _ _ ii _ => N - (intOf ii).toNat)
 case atStart => exact ⟨0, rfl, by omega, HG0⟩
 case round =>
  obtain ⟨k, rfl, hk, HG⟩ := hrel
  clear HG0
  by_cases hlt : k < N
  · have HG1 := HG
    obtain ⟨K1, e1, e2, e3, e4, H1, L1, N1⟩ := HG.out
    obtain ⟨m1, -, -, -, m5, m6, m7⟩ := heldN_ms K.s k
    obtain ⟨x, hx⟩ : ∃ x, K1.s.ps[k]? = some x := ⟨_, List.getElem?_eq_getElem (by rw [e1, m5, HP.out]; exact hlt)⟩
    have hxs : (heldN K.s k).ps[k]? = some x := by rw [← e1]; exact hx
    obtain ⟨c12, c13, a2, a3, a4⟩ := H1.hold (e3.trans HKC.out) e2 k x hx
    rw [HN.out] at c12
    obtain ⟨A, cap, hmv, -, -⟩ := H1.marks
    obtain ⟨M, hM⟩ : ∃ M, K.s.ms.length = M := ⟨_, rfl⟩
    have hML : K1.s.ms.length = M := by rw [e1, m1, hM]
    rw [hML] at hmv
    rw [hmv] at c13
    have hM1 : M ≤ 1000 := by have := HMS.out; omega
    have hxf : x.fr ≤ 1000 := by
     obtain ⟨y, hy, -, -, q3, -⟩ := m7 x (List.mem_of_getElem? hxs)
     rw [q3]; exact HFR.out y hy
    obtain ⟨p, hp⟩ : ∃ p, K1.p = p := ⟨_, rfl⟩
    rw [hp] at c12 a2 a3 a4
    obtain ⟨fr, hfr⟩ : ∃ fr, x.fr = fr := ⟨_, rfl⟩
    obtain ⟨su, hsu⟩ : ∃ su, x.su = su := ⟨_, rfl⟩
    obtain ⟨ap, hap⟩ : ∃ ap, x.ap = ap := ⟨_, rfl⟩
    rw [hfr] at a2 hxf; rw [hsu] at a3; rw [hap] at a4
    have fz := H1.pfz (k * 5 + 4)
    rw [hp] at fz
    have HBAD : Hid (Bad (heldN K.s k) x ↔ (ap = false ∧ 1 ≤ fr ∧ fr ≤ M ∧ (heldN K.s k).ms[fr - 1]? ≠ some su)) := by
     show _ ↔ _
     unfold Bad
     rw [hap, hfr, hsu, m1, hM]
    have HX := qh hxs
    have HOFF : Hid (¬ Bad (heldN K.s k) x → Goes w0 w K wr.drew.drew (heldN K.s (k + 1))) := fun hb => by
     rw [heldN_succ, heldAt_off HX.out hb]
     obtain ⟨K2, q1, q2, q3, q4, q5, q6, q7⟩ := HG.out
     exact ⟨K2, q1, q2, q3, q4, q5.drew.drew, q6.trans (Lv.of_below (B := noB) (bR _ _).drew.drew) (fun k hk => hk.elim), q7⟩
    have HMK : Hid (∀ (j : Nat) (u : Int), (heldN K.s k).ms[j]? = some u → ∃ b, A = some ⟨b, 0, none⟩ ∧ wr.cell? ⟨b, j, none⟩ = some (.int .u32 u)) := fun j u hu => by
     obtain ⟨b, q1, -, q2⟩ := H1.mark (A := A) (c := cap) (by rw [hML]; exact hmv) j u (by rw [e1]; exact hu)
     exact ⟨b, q1, q2⟩
    have HML : Hid ((heldN K.s k).ms.length = M) := by show _ = _; rw [m1, hM]
    have HSET : Hid (wr.frozen? ⟨p, k * 5 + 4, none⟩ = false ∧ Goes w0 w K (wr.setCell ⟨p, k * 5 + 4, none⟩ (.bool true)).drew.drew { heldN K.s k with ps := (heldN K.s k).ps.set k { x with ap := true } }) := by
     refine ⟨fz, ?_⟩
     have := H1.set_peer k 4 (by omega) x { x with ap := true } hx (.bool true) rfl
     rw [hp, e1] at this
     obtain ⟨K2, q1, q2, q3, q4, q5, q6, q7⟩ := this
     exact goes_then L1 N1 e2 e3 e4 ⟨K2, q1, q2, q3, q4, q5.drew.drew, q6.trans (Lv.of_below (B := noB) (bR _ _).drew.drew) (fun k hk => hk.elim), q7⟩
    have HFX : Hid (x.fr = fr) := hfr
    have HES2 : Hid ((heldN K.s k).es.length ≤ 900000) := by show _ ≤ _; have := HES.out; omega
    have hkN : (k : Int) < (N : Int) := by omega
    have hk2 : Hid (k + 1 ≤ N) := hlt
    have hms : Hid (N - (k + 1) < N - k) := by show _ < _; omega
    have hk7 : Hid (k ≤ 7 ∧ fr ≤ 1000) := ⟨by omega, hxf⟩
    clear H1 m1 m5 m6 m7 hx hxs hmv hM hML hp hfr hsu hap e1 e2 e3 e4 HG L1 N1
    by_cases h0 : fr = 0
    · subst h0
      cases ap with
      | true =>
        have HG2 := qh (HOFF.out (fun hb => by have hb2 := HBAD.out.1 hb; cases hb2.1))
        clear HOFF HSET HMK HBAD fz
        go_wp2_with fail
        go_big_region
        go_wp2_with fail
        go_big_region
        go_wp2_with fail
        go_roundw
        case rel => exact ⟨k + 1, by go_num, hk2.out, HG2⟩
        case measure => simp [intOf]; have := hms.out; omega
      | false =>
        have HG2 := qh (HOFF.out (fun hb => by have hb2 := HBAD.out.1 hb; omega))
        clear HOFF HSET HMK HBAD fz
        go_wp2_with fail
        go_big_region
        go_wp2_with fail
        go_big_region
        go_wp2_with fail
        go_roundw
        case rel => exact ⟨k + 1, by go_num, hk2.out, HG2⟩
        case measure => simp [intOf]; have := hms.out; omega
    · have h0i : (1 : Int) ≤ (fr : Int) := by omega
      by_cases h1 : M < fr
      · have h1i : (M : Int) < (fr : Int) := by omega
        have h1d : ¬ (fr : Int) ≤ (M : Int) := by omega
        have h1e : decide (fr ≤ M) = false := by simp; omega
        have h1f : decide ((fr : Int) ≤ (M : Int)) = false := by simp; omega
        cases ap with
        | true =>
          have HG2 := qh (HOFF.out (fun hb => by have hb2 := HBAD.out.1 hb; cases hb2.1))
          clear HOFF HSET HMK HBAD fz
          go_wp2_with fail
          go_big_region
          go_wp2_with fail
          go_big_region
          go_wp2_with fail
          go_roundw
          case rel => exact ⟨k + 1, by go_num, hk2.out, HG2⟩
          case measure => simp [intOf]; have := hms.out; omega
        | false =>
          have HG2 := qh (HOFF.out (fun hb => by have hb2 := HBAD.out.1 hb; omega))
          clear HOFF HSET HMK HBAD fz
          go_wp2_with fail
          go_big_region
          go_wp2_with fail
          go_big_region
          go_wp2_with fail
          go_roundw
          case rel => exact ⟨k + 1, by go_num, hk2.out, HG2⟩
          case measure => simp [intOf]; have := hms.out; omega
      · have h1i : (fr : Int) ≤ (M : Int) := by omega
        cases ap with
        | true =>
          have HG2 := qh (HOFF.out (fun hb => by have hb2 := HBAD.out.1 hb; cases hb2.1))
          clear HOFF HSET HMK HBAD fz
          go_wp2_with fail
          go_big_region
          go_wp2_with fail
          go_big_region
          go_wp2_with fail
          go_roundw
          case rel => exact ⟨k + 1, by go_num, hk2.out, HG2⟩
          case measure => simp [intOf]; have := hms.out; omega
        | false =>
          obtain ⟨u, hu⟩ : ∃ u, (heldN K.s k).ms[fr - 1]? = some u := ⟨_, List.getElem?_eq_getElem (by rw [HML.out]; omega)⟩
          obtain ⟨b, rfl, cm⟩ := HMK.out (fr - 1) u hu
          obtain ⟨j, hj⟩ : ∃ j, fr - 1 = j := ⟨_, rfl⟩
          have hji : (fr : Int) - 1 = (j : Int) := by omega
          have hjM : (j : Int) < (M : Int) := by omega
          rw [hj] at cm
          by_cases hus : u = su
          · subst hus
            have HG2 := qh (HOFF.out (fun hb => by have hb2 := HBAD.out.1 hb; exact hb2.2.2.2 hu))
            clear HOFF HSET HMK HBAD fz
            go_wp2_with fail
            go_big_region
            go_wp2_with fail
            go_big_region
            go_wp2_with fail
            go_roundw
            case rel => exact ⟨k + 1, by go_num, hk2.out, HG2⟩
            case measure => simp [intOf]; have := hms.out; omega
          · have husb : (u == su) = false := by simp; exact hus
            have hbad : Bad (heldN K.s k) x := HBAD.out.2 ⟨rfl, by omega, by omega, fun e => hus (Option.some.inj (hu.symm.trans e))⟩
            obtain ⟨hf2, hg2⟩ := HSET.out
            have HHP := qh (happens_goes hg2 (.a k fr) ⟨hk7.out.1, hk7.out.2⟩ HES2.out)
            unfold evR rawV at HHP
            rw [HKC.out] at HHP
            have HNX : Hid (heldN K.s (k + 1) = { heldN K.s k with ps := (heldN K.s k).ps.set k { x with ap := true }, es := (heldN K.s k).es ++ [.a k fr] }) := by show _ = _; rw [heldN_succ, heldAt_on HX.out hbad, HFX.out]
            clear HOFF HSET HMK HBAD hbad hg2
            go_wp2_with fail
            go_big_region
            go_wp2_with fail
            go_big_region
            go_wp2_with (first | (go_at_call 72; (with_reducible refine (HHP.out).mono ?_); rintro en w1 ⟨rfl, hg⟩; have HG2 := qh hg; clear hg))
            go_roundw
            case rel => exact ⟨k + 1, by go_num, hk2.out, by show Goes _ _ _ _ _; rw [HNX.out]; exact HG2.out⟩
            case measure => simp [intOf]; have := hms.out; omega
  · obtain rfl : k = N := by omega
    go_wp2_with fail
    go_end0
    exact ⟨rfl, HG.out⟩
theorem Goes.belows {w0 w w1 w2 : World} {K : Cm} {s : Pl} (g : Goes w0 w K w1 s) (hb : Below w1.heap.size w1 w2) : Goes w0 w K w2 s := by
 obtain ⟨K1, e1, e2, e3, e4, g1, g2, g3⟩ := g
 exact ⟨K1, e1, e2, e3, e4, g1.belows hb, g2.trans (Lv.of_below (B := noB) hb) (fun k hk => hk.elim), g3⟩
theorem Goes.drew {w0 w w1 : World} {K : Cm} {s : Pl} (g : Goes w0 w K w1 s) : Goes w0 w K w1.drew s := g.belows (bR _ _).drew
theorem Goes.lv {w0 w w1 : World} {K : Cm} {s : Pl} (g : Goes w0 w K w1 s) : Lv w w1 (CB K) := by obtain ⟨K1, -, -, -, -, -, g2, -⟩ := g; exact g2
theorem Goes.look {w0 w w1 : World} {K : Cm} {s : Pl} (g : Goes w0 w K w1 s) (i : Nat) (x : Pr) (hx : s.ps[i]? = some x) :
 w1.cell? ⟨K.c, 12, none⟩ = some (.slice (some ⟨K.p, 0, none⟩) K.C.n K.C.n) ∧ w1.cell? ⟨K.p, i * 5, none⟩ = some (.int .i64 x.he) ∧ w1.cell? ⟨K.p, i * 5 + 1, none⟩ = some (.int .i64 x.ha) ∧ w1.cell? ⟨K.p, i * 5 + 2, none⟩ = some (.int .i64 x.fr) ∧ w1.cell? ⟨K.p, i * 5 + 3, none⟩ = some (.int .u32 x.su) ∧ w1.cell? ⟨K.p, i * 5 + 4, none⟩ = some (.bool x.ap) ∧ (∀ j, w1.frozen? ⟨K.p, j, none⟩ = false) := by
 obtain ⟨K1, e1, e2, e3, e4, g1, g2, g3⟩ := g
 obtain ⟨a0, a1, a2, a3, a4⟩ := g1.peer i x (by rw [e1]; exact hx)
 have c := g1.cell 12 _ rfl
 have f := g1.pfz
 rw [e4.2] at a0 a1 a2 a3 a4 c f
 rw [e3, e2] at c
 exact ⟨c, a0, a1, a2, a3, a4, f⟩
theorem Goes.set_peer {w0 w w1 : World} {K : Cm} {s : Pl} (g : Goes w0 w K w1 s) (i j : Nat) (hj : j < 5) (x y : Pr) (hx : s.ps[i]? = some x) (v : Value) (hv : (prL x).set j v = prL y) : Goes w0 w K (w1.setCell ⟨K.p, i * 5 + j, none⟩ v) { s with ps := s.ps.set i y } := by
 obtain ⟨K1, e1, e2, e3, e4, g1, g2, g3⟩ := g
 have := g1.set_peer i j hj x y (by rw [e1]; exact hx) v hv
 rw [e4.2, e1] at this
 exact goes_then g2 g3 e2 e3 e4 this
theorem head_goes {w0 w w1 : World} {K : Cm} {s : Pl} (g : Goes w0 w K w1 s) (l : List UInt8) (hl : s.L[K.C.me]? = some l) (H : Nat) (hH : l.length = H) {kc : Nat} (hc : K.c = kc) :
 Calls Tryz.prog 57 #[pB kc] w1 fun e w' => e = .returned (.int .i64 H) ∧ Below w1.heap.size w1 w' := by
 obtain ⟨K1, e1, e2, e3, e4, g1, g2, g3⟩ := g
 rw [← hc, ← e3]
 exact core_head w0 w1 K1 g1 l (by rw [e1, e2]; exact hl) H hH
theorem set_same {α : Type} {xs : List α} {i : Nat} {x : α} (h : xs[i]? = some x) : xs.set i x = xs := set_self xs i x h
theorem set_get {α : Type} {xs : List α} {i : Nat} {x y : α} (h : xs[i]? = some x) : (xs.set i y)[i]? = some y := by
 rw [List.getElem?_set_self (List.getElem?_eq_some_iff.1 h).1]
theorem core_forme (w0 w : World) (K : Cm) (h : CM w0 w K) (k f t id fi : Int) (A : Option Addr) (n c : Nat) (ac fr su : Int) (b : Bool) (hb : b = true ↔ t = K.C.me ∧ f < K.C.n ∧ id = K.C.id) :
 Calls Tryz.prog 83 #[pB K.c, pkV k f t id fi A n c ac fr su] w fun e w' => e = .returned (.bool b) ∧ Below w.heap.size w w' := by
 obtain ⟨W1, hW1⟩ : ∃ W1, W1 = w.alloc (pkO k f t id fi A n c ac fr su) := ⟨_, rfl⟩
 have B1 : Hid (Below w.heap.size w W1) := by rw [hW1]; exact (bR _ _).alloc (nl _) _
 have hk : PkM W1 w.heap.size k f t id fi A n c ac fr su := by rw [hW1]; exact heap_alloc_new w _
 obtain ⟨-, p1, p2, p3, -, -, -, -, -⟩ := hk.c
 have h1 := h.belows B1.out
 have q0 := h1.cell 0 _ rfl; have q1 := h1.cell 1 _ rfl; have q2 := h1.cell 2 _ rfl
 obtain ⟨N, hN⟩ : ∃ N, K.C.n = N := ⟨_, rfl⟩
 obtain ⟨me, hme⟩ : ∃ me, K.C.me = me := ⟨_, rfl⟩
 obtain ⟨ID, hID⟩ : ∃ ID, K.C.id = ID := ⟨_, rfl⟩
 rw [hN] at q0 hb; rw [hme] at q1 hb; rw [hID] at q2 hb
 have HW1 := qh hW1
 have HB := qh hb
 clear h h1 hk hW1 hb hN hme hID
 by_cases h1 : t = (me : Int)
 · subst h1
   by_cases h2 : f < (N : Int)
   · by_cases h3 : id = ID
     · subst h3
       have HE := qh (show b = true by exact HB.out.2 ⟨rfl, h2, rfl⟩)
       go_enter Tryz.func83, Tryz.ntmps83
       go_wp2_with fail
       rw [← HW1.out]
       clear HW1
       go_big_region
       go_wp2_with fail
       go_ret
       exact ⟨by rw [HE.out]; rfl, B1.out.drew⟩
     · have h3b : (id == ID) = false := by simp; exact h3
       have HE := qh (show b = false by rw [Bool.eq_false_iff]; intro e; have := HB.out.1 e; omega)
       go_enter Tryz.func83, Tryz.ntmps83
       go_wp2_with fail
       rw [← HW1.out]
       clear HW1
       go_big_region
       go_wp2_with fail
       go_ret
       exact ⟨by rw [HE.out]; rfl, B1.out.drew⟩
   · have h2b : (N : Int) ≤ f := by omega
     have h2d : decide (f < (N : Int)) = false := by simp; omega
     have HE := qh (show b = false by rw [Bool.eq_false_iff]; intro e; have := HB.out.1 e; omega)
     go_enter Tryz.func83, Tryz.ntmps83
     go_wp2_with fail
     rw [← HW1.out]
     clear HW1
     go_big_region
     go_wp2_with fail
     go_ret
     exact ⟨by rw [HE.out]; rfl, B1.out.drew⟩
 · have h1b : (t == (me : Int)) = false := by simp; exact h1
   have HE := qh (show b = false by rw [Bool.eq_false_iff]; intro e; have := HB.out.1 e; omega)
   go_enter Tryz.func83, Tryz.ntmps83
   go_wp2_with fail
   rw [← HW1.out]
   clear HW1
   go_big_region
   go_wp2_with fail
   go_ret
   exact ⟨by rw [HE.out]; rfl, B1.out.drew⟩
theorem modify_at {α : Type} (f : α → α) : ∀ (xs : List α) (i : Nat) (x : α), xs[i]? = some x → xs.modify i f = xs.set i (f x)
 | [], i, x, h => by cases h
 | y :: r, 0, x, h => by obtain rfl : y = x := Option.some.inj h; rfl
 | y :: r, i + 1, x, h => by
   show y :: r.modify i f = y :: r.set i (f x)
   rw [modify_at f r i x h]
theorem learn_eq (C : Cf) (s : Pl) (p : Pk) (F : Nat) (hF : p.f = F) (x : Pr) (hx : s.ps[F]? = some x) (l0 : List UInt8) (hl : s.L[F]? = some l0) (l' : List UInt8) (hp : (putP l0 p.fi p.l).2.2 = l') (H : Nat) (hH : s.head C = H) :
 learnP C s p = { s with L := s.L.set F l', ps := s.ps.set F (learnPr H x p) } := by
 unfold learnP
 rw [hF, Int.toNat_natCast, hl, hH, modify_at _ _ _ _ hx, ← hp]
 rfl
set_option maxHeartbeats 8000000 in
theorem core_learn (w0 w : World) (K : Cm) (h : CM w0 w K) (N : Nat) (hN : K.C.n = N) (k t id fi su : Int) (F a r : Nat) (A : Option Addr) (n c : Nat) (l : List UInt8) (hF : F < N) (hFm : F ≠ K.C.me) (hme : K.C.me < N)
 (hL : K.s.L.length = N) (hP : K.s.ps.length = N) (hll : ∀ l ∈ K.s.L, l.length ≤ 1000) (ha : a ≤ 1000) (hr : r ≤ 1000) (hfr : ∀ x ∈ K.s.ps, x.ha ≤ 1000 ∧ x.fr ≤ 1000) (hn : l.length = n) (hnc : n ≤ c) (hcm : c ≤ maxLen) (hrb : RB w w.heap.size A l) :
 Calls Tryz.prog 84 #[pB K.c, pkV k (F : Int) t id fi A n c (a : Int) (r : Int) su] w fun en w' => en = .returned (.tuple #[]) ∧ Goes w0 w K w' (learnP K.C K.s ⟨k, F, t, id, fi, a, r, su, l⟩) := by
 obtain ⟨W1, hW1⟩ : ∃ W1, W1 = w.alloc (pkO k (F : Int) t id fi A n c (a : Int) (r : Int) su) := ⟨_, rfl⟩
 have B1 : Hid (Below w.heap.size w W1) := by rw [hW1]; exact (bR _ _).alloc (nl _) _
 have S1 : Hid (w.heap.size < W1.heap.size) := by show _ < _; rw [hW1]; simp
 have hk : PkM W1 w.heap.size k (F : Int) t id fi A n c (a : Int) (r : Int) su := by rw [hW1]; exact heap_alloc_new w _
 have hh := h.belows B1.out
 have HH := qh hh
 obtain ⟨x, hx⟩ : ∃ x, K.s.ps[F]? = some x := ⟨_, List.getElem?_eq_getElem (by omega)⟩
 obtain ⟨l0, hl0⟩ : ∃ l0, K.s.L[F]? = some l0 := ⟨_, List.getElem?_eq_getElem (by omega)⟩
 obtain ⟨lm, hlm⟩ : ∃ lm, K.s.L[K.C.me]? = some lm := ⟨_, List.getElem?_eq_getElem (by omega)⟩
 obtain ⟨H, hH⟩ : ∃ H, lm.length = H := ⟨_, rfl⟩
 obtain ⟨b, hb⟩ := h.line F l0 hl0
 obtain ⟨ra, hra⟩ : ∃ ra, (putP l0 fi l).1 = ra := ⟨_, rfl⟩
 obtain ⟨re, hre⟩ : ∃ re, (putP l0 fi l).2.1 = re := ⟨_, rfl⟩
 obtain ⟨l', hl'⟩ : ∃ l', (putP l0 fi l).2.2 = l' := ⟨_, rfl⟩
 have hput : putP l0 fi l = (ra, re, l') := by rw [← hra, ← hre, ← hl']
 have HEQ : Hid (learnP K.C K.s ⟨k, F, t, id, fi, a, r, su, l⟩ = { K.s with L := K.s.L.set F l', ps := K.s.ps.set F (learnPr H x ⟨k, F, t, id, fi, a, r, su, l⟩) }) :=
  learn_eq K.C K.s ⟨k, F, t, id, fi, a, r, su, l⟩ F rfl x hx l0 hl0 l' hl' H (by rw [Ok.head_eq hlm, hH])
 have HX := qh hx
 have HLM : Hid ((K.s.L.set F l')[K.C.me]? = some lm) := by show _ = _; rw [List.getElem?_set_ne hFm]; exact hlm
 have HLH := qh hH
 have HPT : Hid (w0.heap.size ≤ w.heap.size) := h.be.size
 have HNQ : Hid (∀ i, QB K.q K.r K.xs i → i < w.heap.size) := fun i hi => h.qf.qm.lt hi
 have HNC : Hid (∀ i, CB K i → i < w.heap.size) := fun i hi => (h.lt hi).2
 have HLine := qh (fun W (hq : QM W K.q K.r K.xs) => line_in W K.q K.r K.xs hq (F : Int) F rfl ⟨b, l0⟩ hb)
 have HPut := qh (fun W (hq : QF w0 W K.q K.r K.xs (Oth w0 W K)) (hB : RB W w.heap.size A l) => qf_put hq F b l0 l hb fi A c w.heap.size n hn hB hnc hcm ra re l' hput)
 have HRB : Hid (∀ W, Below w.heap.size w W → RB W w.heap.size A l) := fun W hB => hrb.below hB
 have HB := qh hb
 have HCO : Hid (∀ {W : World}, CM w0 W K → Oth w0 W K K.c) := fun h => ⟨(h.get (.inl rfl)).1, (h.get (.inl rfl)).2, fun e => (h.qf.qb _ e).2 (.inl rfl)⟩
 have hxf := hfr x (List.mem_of_getElem? hx)
 have HXF := qh hxf
 have HW1 := qh hW1
 have HFN : Hid ((F : Int) < (N : Int)) := by show (F : Int) < _; omega
 have HCN := qh hN
 have HH1000 : Hid (H ≤ 1000) := by show _ ≤ _; rw [← hH]; exact hll _ (List.mem_of_getElem? hlm)
 have HPK := qh hk
 clear h hh hW1 hk hx hl0 hlm hH hb hra hre hl' hput hfr hrb hn hcm hnc hL hP hll hxf hme hFm hN
 obtain ⟨kc, hkc⟩ : ∃ kc, K.c = kc := ⟨_, rfl⟩
 have HKC := qh hkc
 obtain ⟨kp, hkp⟩ : ∃ kp, K.p = kp := ⟨_, rfl⟩
 have HKP := qh hkp
 obtain ⟨P, hP⟩ : ∃ P, w.heap.size = P := ⟨_, rfl⟩
 have HPP := qh hP
 obtain ⟨kq, hkq⟩ : ∃ kq, K.q = kq := ⟨_, rfl⟩
 have HKQ := qh hkq
 rw [hkc]
 clear hkc hkp hP hkq
 go_enter Tryz.func84, Tryz.ntmps84
 go_wp2_with fail
 rw [← HW1.out]
 clear HW1
 rw [HPP.out]
 have hS0 : W1.drew.cell? ⟨kc, 10, none⟩ = some (pB kq) ∧ W1.drew.cell? ⟨P, 1, none⟩ = some (.int .i64 (F : Int)) ∧ W1.drew.cell? ⟨P, 4, none⟩ = some (.int .i64 fi) ∧ W1.drew.cell? ⟨P, 5, none⟩ = some (.slice A n c) := by
  obtain ⟨-, p1, -, -, p4, p5, -, -, -⟩ := HPK.out.c
  rw [HPP.out] at p1 p4 p5
  have := HH.out.cell 10 _ rfl
  rw [HKC.out, HKQ.out] at this
  exact ⟨this, p1, p4, p5⟩
 refine wp_region_held_drew (S := (fun w' => w'.cell? ⟨kc, 10, none⟩ = some (pB kq) ∧ w'.cell? ⟨P, 1, none⟩ = some (.int .i64 (F : Int)) ∧ w'.cell? ⟨P, 4, none⟩ = some (.int .i64 fi) ∧ w'.cell? ⟨P, 5, none⟩ = some (.slice A n c))) (by kernel_rfl) (hS0) (fun hHeld => ?_)
 refine htk (i := 0) (v := ?_) rfl (by kernel_rfl) (fun _ _ _ h => h) (by rfl) hHeld ?_ ?_
 rotate_left 1
 · (intro w hSw; (try dsimp only at hSw); go_simp; try (with_reducible rfl))
 try simp only [Act.put, nB, nC, nD]
 refine htk (i := 1) (v := ?_) rfl (by kernel_rfl) (fun _ _ _ h => h) (by rfl) hHeld ?_ ?_
 rotate_left 1
 · (intro w hSw; (try dsimp only at hSw); go_simp; try (with_reducible rfl))
 try simp only [Act.put, nB, nC, nD]
 refine htk (i := 2) (v := ?_) rfl (by kernel_rfl) (fun _ _ _ h => h) (by rfl) hHeld ?_ ?_
 rotate_left 1
 · (intro w hSw; (try dsimp only at hSw); go_simp; try (with_reducible rfl))
 try simp only [Act.put, nB, nC, nD]
 refine htk (i := 3) (v := ?_) rfl (by kernel_rfl) (fun _ _ _ h => h) (by rfl) hHeld ?_ ?_
 rotate_left 1
 · (intro w hSw; (try dsimp only at hSw); go_simp; try (with_reducible rfl))
 try simp only [Act.put, nB, nC, nD]
 refine htk (i := 4) (v := ?_) rfl (by kernel_rfl) (fun _ _ _ h => h) (by rfl) hHeld ?_ ?_
 rotate_left 1
 · (intro w hSw; (try dsimp only at hSw); go_simp; try (with_reducible rfl))
 try simp only [Act.put, nB, nC, nD]
 refine htk (i := 5) (v := ?_) rfl (by kernel_rfl) (fun _ _ _ h => h) (by rfl) hHeld ?_ ?_
 rotate_left 1
 · (intro w hSw; (try dsimp only at hSw); go_simp; try (with_reducible rfl))
 try simp only [Act.put, nB, nC, nD]
 refine htk (i := 7) (v := ?_) rfl (by kernel_rfl) (fun _ _ _ h => h) (by rfl) hHeld ?_ ?_
 rotate_left 1
 · (intro w hSw; (try dsimp only at hSw); go_simp; try (with_reducible rfl))
 try simp only [Act.put, nB, nC, nD]
 refine htk (i := 8) (v := ?_) rfl (by kernel_rfl) (fun _ _ _ h => h) (by rfl) hHeld ?_ ?_
 rotate_left 1
 · (intro w hSw; (try dsimp only at hSw); go_simp; try (with_reducible rfl))
 try simp only [Act.put, nB, nC, nD]
 refine htk (i := 9) (v := ?_) rfl (by kernel_rfl) (fun _ _ _ h => h) (by rfl) hHeld ?_ ?_
 rotate_left 1
 · (intro w hSw; (try dsimp only at hSw); go_simp; try (with_reducible rfl))
 try simp only [Act.put, nB, nC, nD]
 refine htk (i := 10) (v := ?_) rfl (by kernel_rfl) (fun _ _ _ h => h) (by rfl) hHeld ?_ ?_
 rotate_left 1
 · (intro w hSw; (try dsimp only at hSw); go_simp; try (with_reducible rfl))
 try simp only [Act.put, nB, nC, nD]
 refine held_one (i := 6) rfl (by kernel_rfl) (by rfl) (fun K hK => ?_)
 go_simp
 have hc1 := HLine.out W1.drew HH.out.drew.qf.qm
 rw [HKQ.out] at hc1
 refine hc1.mono ?_
 rintro en w1 ⟨rfl, rfl⟩
 refine hK.out _ _ (hHeld) (fun hHeld2 => ?_)
 clear hK K hHeld; have hHeld := hHeld2; clear hHeld2
 try simp only [Act.put, nB, nC, nD]
 refine held_one (i := 11) rfl (by kernel_rfl) (by rfl) (fun K hK => ?_)
 go_simp
 refine (HPut.out W1.drew HH.out.drew.oth (HRB.out _ B1.out.drew)).mono ?_
 rintro en w2 ⟨rfl, hq, hs⟩
 have hcc := hs _ (HCO.out HH.out.drew)
 have hpp := hs P ⟨by rw [← HPP.out]; exact HPT.out, by rw [← HPP.out]; exact S1.out, fun e => by have := HNQ.out _ e; rw [HPP.out] at this; omega⟩
 rw [HKC.out] at hcc
 have hgo := goes_then (Lv.of_below B1.out.drew) (fun i hi => .inl hi) rfl rfl ⟨rfl, rfl⟩ (HH.out.drew.put_line F b l0 l' HB.out hq hs)
 have G2 := qh hgo
 have PK2 : Hid (PkM w2 w.heap.size k (F : Int) t id fi A n c (a : Int) (r : Int) su) := by
  have := HPK.out
  unfold PkM at this
  show _ = _
  rw [HPP.out] at this ⊢
  rw [hpp]
  exact this
 clear hq hs hgo
 refine hK.out _ _ (⟨(World.cell?_of_block (a := ⟨kc, 10, none⟩) hcc).trans hHeld.1, (World.cell?_of_block (a := ⟨P, 1, none⟩) hpp).trans hHeld.2.1, (World.cell?_of_block (a := ⟨P, 4, none⟩) hpp).trans hHeld.2.2.1, (World.cell?_of_block (a := ⟨P, 5, none⟩) hpp).trans hHeld.2.2.2⟩) (fun hHeld2 => ?_)
 clear hK K hHeld; have hHeld := hHeld2; clear hHeld2
 try simp only [Act.put, nB, nC, nD]
 refine wpAnyH_done (by kernel_rfl) ?_ _
 clear hHeld hcc hpp hS0
 -- region 2: the peer
 obtain ⟨c12, -⟩ := G2.out.look F x HX.out
 obtain ⟨-, p1, -, -, -, -, -, -, -⟩ := PK2.out.c
 rw [HKC.out, HKP.out, HCN.out] at c12
 rw [HPP.out] at p1
 have hFN := HFN.out
 go_wp2_with fail
 go_big_region
 go_wp2_with fail
 clear c12 p1
 have G3 := qh (G2.out.drew.drew)
 have PK3 : Hid (PkM w2.drew.drew w.heap.size k (F : Int) t id fi A n c (a : Int) (r : Int) su) := PK2.out
 have hS3 : w2.drew.drew.cell? ⟨P, 6, none⟩ = some (.int .i64 (a : Int)) := by have := PK2.out.c.2.2.2.2.2.2.1; rw [HPP.out] at this; exact this
 refine wp_region_held_drew (S := (fun w' => w'.cell? ⟨P, 6, none⟩ = some (.int .i64 (a : Int)))) (by kernel_rfl) (hS3) (fun hHeld => ?_)
 refine htk (i := 0) (v := ?_) rfl (by kernel_rfl) (fun _ _ _ h => h) (by rfl) hHeld ?_ ?_
 rotate_left 1
 · (intro w hSw; (try dsimp only at hSw); go_simp; try (with_reducible rfl))
 try simp only [Act.put, nB, nC, nD]
 refine htk (i := 1) (v := ?_) rfl (by kernel_rfl) (fun _ _ _ h => h) (by rfl) hHeld ?_ ?_
 rotate_left 1
 · (intro w hSw; (try dsimp only at hSw); go_simp; try (with_reducible rfl))
 try simp only [Act.put, nB, nC, nD]
 refine htk (i := 2) (v := ?_) rfl (by kernel_rfl) (fun _ _ _ h => h) (by rfl) hHeld ?_ ?_
 rotate_left 1
 · (intro w hSw; (try dsimp only at hSw); go_simp; try (with_reducible rfl))
 try simp only [Act.put, nB, nC, nD]
 refine held_one (i := 3) rfl (by kernel_rfl) (by rfl) (fun K hK => ?_)
 go_simp
 refine (head_goes G3.out lm HLM.out H HLH.out HKC.out).mono ?_
 rintro en w4 ⟨rfl, hb4⟩
 have G4 := qh (G3.out.belows hb4)
 have PK4 := qh (PK3.out.below hb4 PK3.out.lt)
 have hp4 := hb4.cell (p := ⟨P, 6, none⟩) (by have := PK3.out.lt; rw [HPP.out] at this; exact this)
 clear hb4
 refine hK.out _ _ (hp4.trans hHeld) (fun hHeld2 => ?_)
 clear hK K hHeld; have hHeld := hHeld2; clear hHeld2
 try simp only [Act.put, nB, nC, nD]
 refine held_one (i := 4) rfl (by kernel_rfl) (by rfl) (fun K hK => ?_)
 go_simp
 refine hK.out _ _ (hHeld) (fun hHeld2 => ?_)
 clear hK K hHeld; have hHeld := hHeld2; clear hHeld2
 try simp only [Act.put, nB, nC, nD]
 refine wpAnyH_done (by kernel_rfl) ?_ _
 clear hHeld hp4 hS3 G2 PK2 G3 PK3
 by_cases hac : a ≤ H
 · obtain ⟨mx, hmx⟩ : ∃ mx : Nat, max x.ha a = mx := ⟨_, rfl⟩
   have hmxi : max (x.ha : Int) (a : Int) = (mx : Int) := by omega
   have HMX : Hid (max x.ha ((a : Int)).toNat = mx) := by show _ = _; rw [Int.toNat_natCast]; exact hmx
   have haci : (a : Int) ≤ (H : Int) := by omega
   have HOFF : Hid (¬ (0 < r ∧ x.fr ≤ r) → ∀ W, Goes w0 w K W { K.s with L := K.s.L.set F l', ps := K.s.ps.set F { x with ha := mx } } → Goes w0 w K W (learnP K.C K.s ⟨k, F, t, id, fi, a, r, su, l⟩)) := fun hc W g => by
    have e : learnP K.C K.s ⟨k, F, t, id, fi, a, r, su, l⟩ = { K.s with L := K.s.L.set F l', ps := K.s.ps.set F { x with ha := mx } } := by
     rw [HEQ.out]
     rw [show learnPr H x ⟨k, F, t, id, fi, a, r, su, l⟩ = { x with ha := mx } by unfold learnPr; dsimp only; rw [if_pos (by omega), if_neg (by omega), if_neg (by omega)]; rw [HMX.out]]
    rw [e]; exact g
   have HON : Hid ((0 < r ∧ x.fr ≤ r) → ∀ W, Goes w0 w K W { K.s with L := K.s.L.set F l', ps := K.s.ps.set F { x with ha := mx } } → Goes w0 w K ((W.setCell ⟨kp, F * 5 + 2, none⟩ (.int .i64 (r : Int))).setCell ⟨kp, F * 5 + 3, none⟩ (.int .u32 su)) (learnP K.C K.s ⟨k, F, t, id, fi, a, r, su, l⟩)) := fun hc W g => by
    have g1 := g.set_peer F 2 (by omega) { x with ha := mx } { { x with ha := mx } with fr := r } (by exact set_get HX.out) (.int .i64 (r : Int)) rfl
    have g2 := g1.set_peer F 3 (by omega) { { x with ha := mx } with fr := r } { { { x with ha := mx } with fr := r } with su := su } (by exact set_get (by first | exact HX.out | exact set_get HX.out)) (.int .u32 su) rfl
    have e : learnP K.C K.s ⟨k, F, t, id, fi, a, r, su, l⟩ = _ := HEQ.out
    rw [e, show learnPr H x ⟨k, F, t, id, fi, a, r, su, l⟩ = { { { x with ha := mx } with fr := r } with su := su } by unfold learnPr; dsimp only; rw [if_pos (by omega), if_pos (by omega), if_pos (by omega)]; rw [HMX.out]; rfl]
    rw [HKP.out] at g2
    simp only [List.set_set] at g2
    exact g2
   obtain ⟨c12, -, a1, a2, a3, -, fz⟩ := G4.out.look F x HX.out
   obtain ⟨-, p1, -, -, -, -, p6, p7, p8⟩ := PK4.out.c
   rw [HKP.out] at a1 a2 a3 fz
   rw [HPP.out] at p1 p6 p7 p8
   have fz1 := fz (F * 5 + 1)
   obtain ⟨w5, hw5⟩ : ∃ w5, w5 = (w4.setCell ⟨kp, F * 5 + 1, none⟩ (.int .i64 (mx : Int))).drew := ⟨_, rfl⟩
   have G5 : Hid (Goes w0 w K w5 { K.s with L := K.s.L.set F l', ps := K.s.ps.set F { x with ha := mx } }) := by rw [hw5]; have := G4.out.set_peer F 1 (by omega) x { x with ha := mx } HX.out (.int .i64 (mx : Int)) rfl; rw [HKP.out] at this; exact this.drew
   have PK5 : Hid (PkM w5 w.heap.size k (F : Int) t id fi A n c (a : Int) (r : Int) su) := by
    have hne : w.heap.size ≠ kp := fun e => by have := HNC.out kp (.inr (.inr (.inl HKP.out.symm))); omega
    show _ = _
    rw [hw5]
    exact (heap_setCell_other _ _ _ _ hne).trans PK4.out
   have HW5 := qh hw5
   clear hw5 hmx G4 PK4
   go_wp2_with fail
   go_big_region
   rw [← HW5.out]
   clear HW5 c12 a1 a2 a3 fz p1 p6 p7 p8 fz1
   obtain ⟨c12, -, a1, a2, a3, -, fz⟩ := G5.out.look F { x with ha := mx } (by exact set_get HX.out)
   obtain ⟨-, p1, -, -, -, -, p6, p7, p8⟩ := PK5.out.c
   rw [HKP.out] at a1 a2 a3 fz
   rw [HPP.out] at p1 p6 p7 p8
   have fz2 := fz (F * 5 + 2)
   have fz3 := fz (F * 5 + 3)
   by_cases h0 : r = 0
   · have HF := qh (HOFF.out (fun e => by omega) _ G5.out.drew)
     subst h0
     clear HOFF HON
     go_wp2_with fail
     go_big_region
     go_wp2_with fail
     go_end0
     exact ⟨rfl, HF.out⟩
   · have h0i : (0 : Int) < (r : Int) := by omega
     have h0n : 0 < r := by omega
     have h0d : decide ((0 : Int) < (r : Int)) = true := by simp; omega
     have h0e : decide (0 < r) = true := by simp; omega
     by_cases h1 : r < x.fr
     · have HF := qh (HOFF.out (fun e => by omega) _ G5.out.drew)
       have h1i : (r : Int) < (x.fr : Int) := by omega
       have h1d : decide ((x.fr : Int) ≤ (r : Int)) = false := by simp; omega
       have h1e : decide (x.fr ≤ r) = false := by simp; omega
       clear HOFF HON
       go_wp2_with fail
       go_big_region
       go_wp2_with fail
       go_end0
       exact ⟨rfl, HF.out⟩
     · have h1i : (x.fr : Int) ≤ (r : Int) := by omega
       have HF := qh (HON.out ⟨by omega, by omega⟩ _ G5.out)
       clear HOFF HON
       go_wp2_with fail
       go_big_region
       go_wp2_with fail
       go_big_region
       go_wp2_with fail
       go_end0
       exact ⟨rfl, HF.out.drew.drew⟩
 · have hacd : decide ((a : Int) ≤ (H : Int)) = false := by simp; omega
   have hace : decide (a ≤ H) = false := by simp; omega
   have haci : (H : Int) < (a : Int) := by omega
   have HOFF : Hid (¬ (0 < r ∧ x.fr ≤ r) → ∀ W, Goes w0 w K W { K.s with L := K.s.L.set F l', ps := K.s.ps } → Goes w0 w K W (learnP K.C K.s ⟨k, F, t, id, fi, a, r, su, l⟩)) := fun hc W g => by
    have e : learnP K.C K.s ⟨k, F, t, id, fi, a, r, su, l⟩ = { K.s with L := K.s.L.set F l', ps := K.s.ps } := by
     rw [HEQ.out]
     rw [show learnPr H x ⟨k, F, t, id, fi, a, r, su, l⟩ = x by unfold learnPr; dsimp only; rw [if_neg (by omega), if_neg (by omega), if_neg (by omega)], set_same HX.out]
    rw [e]; exact g
   have HON : Hid ((0 < r ∧ x.fr ≤ r) → ∀ W, Goes w0 w K W { K.s with L := K.s.L.set F l', ps := K.s.ps } → Goes w0 w K ((W.setCell ⟨kp, F * 5 + 2, none⟩ (.int .i64 (r : Int))).setCell ⟨kp, F * 5 + 3, none⟩ (.int .u32 su)) (learnP K.C K.s ⟨k, F, t, id, fi, a, r, su, l⟩)) := fun hc W g => by
    have g1 := g.set_peer F 2 (by omega) { x with ha := x.ha } { { x with ha := x.ha } with fr := r } (by exact HX.out) (.int .i64 (r : Int)) rfl
    have g2 := g1.set_peer F 3 (by omega) { { x with ha := x.ha } with fr := r } { { { x with ha := x.ha } with fr := r } with su := su } (by exact set_get (by first | exact HX.out | exact set_get HX.out)) (.int .u32 su) rfl
    have e : learnP K.C K.s ⟨k, F, t, id, fi, a, r, su, l⟩ = _ := HEQ.out
    rw [e, show learnPr H x ⟨k, F, t, id, fi, a, r, su, l⟩ = { { { x with ha := x.ha } with fr := r } with su := su } by unfold learnPr; dsimp only; rw [if_neg (by omega), if_pos (by omega), if_pos (by omega)]; rfl]
    rw [HKP.out] at g2
    simp only [List.set_set] at g2
    exact g2
   obtain ⟨c12, -, a1, a2, a3, -, fz⟩ := G4.out.look F { x with ha := x.ha } (by exact HX.out)
   obtain ⟨-, p1, -, -, -, -, p6, p7, p8⟩ := PK4.out.c
   rw [HKP.out] at a1 a2 a3 fz
   rw [HPP.out] at p1 p6 p7 p8
   have fz2 := fz (F * 5 + 2)
   have fz3 := fz (F * 5 + 3)
   by_cases h0 : r = 0
   · have HF := qh (HOFF.out (fun e => by omega) _ G4.out.drew)
     subst h0
     clear HOFF HON
     go_wp2_with fail
     go_big_region
     go_wp2_with fail
     go_end0
     exact ⟨rfl, HF.out⟩
   · have h0i : (0 : Int) < (r : Int) := by omega
     have h0n : 0 < r := by omega
     have h0d : decide ((0 : Int) < (r : Int)) = true := by simp; omega
     have h0e : decide (0 < r) = true := by simp; omega
     by_cases h1 : r < x.fr
     · have HF := qh (HOFF.out (fun e => by omega) _ G4.out.drew)
       have h1i : (r : Int) < (x.fr : Int) := by omega
       have h1d : decide ((x.fr : Int) ≤ (r : Int)) = false := by simp; omega
       have h1e : decide (x.fr ≤ r) = false := by simp; omega
       clear HOFF HON
       go_wp2_with fail
       go_big_region
       go_wp2_with fail
       go_end0
       exact ⟨rfl, HF.out⟩
     · have h1i : (x.fr : Int) ≤ (r : Int) := by omega
       have HF := qh (HON.out ⟨by omega, by omega⟩ _ G4.out)
       clear HOFF HON
       go_wp2_with fail
       go_big_region
       go_wp2_with fail
       go_big_region
       go_wp2_with fail
       go_end0
       exact ⟨rfl, HF.out.drew.drew⟩
theorem dec_own (A : Option Addr) (l : List UInt8) (n c : Nat) (w : World) (hT : TabW w) (hr : RB w w.heap.size A l) (hn : l.length = n) (hc : n ≤ c) (hm : c ≤ maxLen) (hl : n ≤ 4096) (p : Pk) (hp : IsK l p) :
 Calls Tryz.prog 82 #[.slice A n c] w fun e w' => ∃ (A2 : Option Addr) (n2 c2 : Nat), e = .returned (.tuple #[pkV p.k p.f p.t p.id p.fi A2 n2 c2 p.ac p.fr p.su, .int .i64 0]) ∧ OB w' w.heap.size (.slice A2 n2 c2) p.l ∧ p.l.length = n2 ∧ n2 ≤ c2 ∧ c2 ≤ maxLen ∧ Below w.heap.size w w' :=
 (dec_run A l n c w hT hr hn hc hm hl).mono fun e w' ⟨h, hb⟩ => by
   rcases h with ⟨q, A2, n2, c2, hq, he, ho, hl2⟩ | ⟨hno, _⟩
   · obtain rfl := is_inj hq hp
     obtain ⟨A3, c3, e3, h4, h5, -⟩ := ho.form_n n2 hl2
     injection e3 with e4 e5 e6
     subst e4 e6
     exact ⟨A2, n2, c2, he, ho, hl2, h4, h5, hb⟩
   · exact absurd hp (hno p)
theorem learn_goes {w0 w w1 : World} {K : Cm} {s : Pl} (g : Goes w0 w K w1 s) (N : Nat) (hN : K.C.n = N) (p : Pk) (F a r : Nat) (hpf : p.f = F) (hpa : p.ac = a) (hpr : p.fr = r) (A : Option Addr) (n c : Nat) (hF : F < N) (hFm : F ≠ K.C.me) (hme : K.C.me < N)
 (hL : s.L.length = N) (hP : s.ps.length = N) (hll : ∀ l ∈ s.L, l.length ≤ 1000) (ha : a ≤ 1000) (hr : r ≤ 1000) (hfr : ∀ x ∈ s.ps, x.ha ≤ 1000 ∧ x.fr ≤ 1000) (hn : p.l.length = n) (hnc : n ≤ c) (hcm : c ≤ maxLen) (hrb : RB w1 w1.heap.size A p.l) {kc : Nat} (hc : K.c = kc) :
 Calls Tryz.prog 84 #[pB kc, pkV p.k (F : Int) p.t p.id p.fi A n c (a : Int) (r : Int) p.su] w1 fun en w' => en = .returned (.tuple #[]) ∧ Goes w0 w K w' (learnP K.C s p) :=
 g.step fun K1 e1 e2 e3 e4 h => by
  have := core_learn w0 w1 K1 h N (by rw [e2]; exact hN) p.k p.t p.id p.fi p.su F a r A n c p.l hF (by rw [e2]; exact hFm) (by rw [e2]; exact hme) (by rw [e1]; exact hL) (by rw [e1]; exact hP) (by rw [e1]; exact hll) ha hr (by rw [e1]; exact hfr) hn hnc hcm hrb
  rw [e3, hc, e1, e2, ← hpf, ← hpa, ← hpr] at this
  rw [← hpf, ← hpa, ← hpr]
  exact this
theorem holds_goes {w0 w w1 : World} {K : Cm} {s : Pl} (g : Goes w0 w K w1 s) (N : Nat) (hN : K.C.n = N) (h8 : N ≤ 8) (hp : s.ps.length = N) (hfr : ∀ x ∈ s.ps, x.fr ≤ 1000) (hms : s.ms.length ≤ 1000) (hes : s.es.length ≤ 800000) {kc : Nat} (hc : K.c = kc) :
 Calls Tryz.prog 85 #[pB kc] w1 fun en w' => en = .returned (.tuple #[]) ∧ Goes w0 w K w' (heldN s N) :=
 g.step fun K1 e1 e2 e3 e4 h => by
  have := core_holds w0 w1 K1 h N (by rw [e2]; exact hN) h8 (by rw [e1]; exact hp) (by rw [e1]; exact hfr) (by rw [e1]; exact hms) (by rw [e1]; exact hes)
  rw [e3, hc, e1] at this
  exact this
theorem Goes.set_closed {w0 w w1 : World} {K : Cm} {s : Pl} (g : Goes w0 w K w1 s) : Goes w0 w K (w1.setCell ⟨K.c, 15, none⟩ (.bool true)) { s with cl := true } := by
 obtain ⟨K1, e1, e2, e3, e4, g1, g2, g3⟩ := g
 have := g1.set_closed
 rw [e3, e1] at this
 exact goes_then g2 g3 e2 e3 e4 this
theorem Goes.fz {w0 w w1 : World} {K : Cm} {s : Pl} (g : Goes w0 w K w1 s) (j : Nat) : w1.frozen? ⟨K.c, j, none⟩ = false := by
 obtain ⟨K1, e1, e2, e3, e4, g1, g2, g3⟩ := g
 rw [← e3]; exact g1.fz j
theorem Goes.closed {w0 w w1 : World} {K : Cm} {s : Pl} (g : Goes w0 w K w1 s) : w1.cell? ⟨K.c, 15, none⟩ = some (.bool s.cl) := by
 obtain ⟨K1, e1, e2, e3, e4, g1, g2, g3⟩ := g
 rw [← e3, ← e1]; exact g1.cell 15 _ rfl
def Told (l : List UInt8) : Option Pk → Prop
 | some p => IsK l p
 | none => ∀ p, ¬ IsK l p
set_option maxHeartbeats 8000000 in
theorem core_receive (w0 w : World) (K : Cm) (h : CM w0 w K) (hT : TabW w0) (m : Nat) (hok : Ok K.C m K.s) (hm9 : m ≤ 10000) (h8 : K.C.n ≤ 8) (hme : K.C.me < K.C.n) (A : Option Addr) (l : List UInt8) (n c : Nat) (hr : RB w w.heap.size A l) (hn : l.length = n) (hc : n ≤ c) (hm : c ≤ maxLen) (hl : n ≤ 4096)
 (o : Option Pk) (ho : Told l o) (a : Int) (s' : Pl) (hp : recvP K.C K.s o = (a, s')) :
 Calls Tryz.prog 24 #[pB K.c, .slice A n c] w fun e w' => e = .returned (.int .i64 a) ∧ Goes w0 w K w' s' := by
 obtain ⟨kc, hkc⟩ : ∃ kc, K.c = kc := ⟨_, rfl⟩
 have HKC := qh hkc
 have hcl : w.cell? ⟨K.c, 15, none⟩ = some (.bool K.s.cl) := h.cell 15 _ rfl
 have HH := qh h
 rw [hkc] at hcl
 rw [hkc]
 have HT : Hid (∀ W, Below w0.heap.size w0 W → TabW W) := fun W hb => hT.below hb hT.lt
 have HCL := qh (fun (b : Bool) (hb : w.cell? ⟨kc, 15, none⟩ = some (.bool b)) => core_closed w kc b hb)
 unfold recvP at hp
 by_cases hcz : K.s.cl = true
 · rw [if_pos hcz] at hp
   injection hp with ea es
   subst ea es
   have HC1 := qh (HCL.out true (by rw [hcl, hcz]))
   clear HCL hcl hr hn hok
   go_enter Tryz.func24, Tryz.ntmps24
   go_wp2_with (first
    | (go_at_call 61; (with_reducible refine (HC1.out).mono ?_); rintro en w1 ⟨rfl, rfl⟩))
   go_ret
   exact ⟨rfl, HH.out.goes (bR _ _)⟩
 · rw [if_neg hcz] at hp
   have hcf : K.s.cl = false := by simpa using hcz
   have HC1 := qh (HCL.out false (by rw [hcl, hcf]))
   clear HCL hcl
   cases o with
   | none =>
     injection hp with ea es
     subst ea es
     have HD := qh (dec_no A l n c w (HT.out w h.be) hr hn hc hm hl ho)
     clear hr hn hok h ho
     go_enter Tryz.func24, Tryz.ntmps24
     go_wp2_with (first
      | (go_at_call 61; (with_reducible refine (HC1.out).mono ?_); rintro en w1 ⟨rfl, rfl⟩)
      | (go_at_call 82; (with_reducible refine (HD.out).mono ?_); rintro en w1 ⟨rfl, hb⟩; have HB := qh hb; clear hb))
     go_ret
     exact ⟨rfl, HH.out.goes (HB.out.alloc HB.out.size _)⟩
   | some p =>
     have HD := qh (dec_own A l n c w (HT.out w h.be) hr hn hc hm hl p ho)
     have HFM := qh (fun (W : World) (hW : CM w0 W K) (A2 : Option Addr) (n2 c2 : Nat) (b : Bool) (hb : b = true ↔ forMe K.C p) => core_forme w0 W K hW p.k p.f p.t p.id p.fi A2 n2 c2 p.ac p.fr p.su b hb)
     have hmay := ho.1
     have hsu := ho.2.1
     unfold Pk.may mayC at hmay
     obtain ⟨⟨f0, f7, t0, t7, hft, -, -⟩, hkk⟩ := hmay
     obtain ⟨F, hF⟩ : ∃ F : Nat, p.f = F := ⟨p.f.toNat, by omega⟩
     obtain ⟨ac, hac⟩ : ∃ ac : Nat, p.ac = ac := ⟨p.ac.toNat, by omega⟩
     obtain ⟨fr, hfr⟩ : ∃ fr : Nat, p.fr = fr := ⟨p.fr.toNat, by omega⟩
     obtain ⟨fi, hfi⟩ : ∃ fi : Int, p.fi = fi := ⟨_, rfl⟩
     have hac1 : ac ≤ 1000 := by omega
     have hfr1 : fr ≤ 1000 := by omega
     rw [hkc] at HFM
     by_cases hfm : forMe K.C p
     · simp only [if_pos hfm] at hp
       injection hp with ea es
       subst ea es
       have HFM1 := qh (fun W hW A2 n2 c2 => HFM.out W hW A2 n2 c2 true ⟨fun _ => hfm, fun _ => rfl⟩)
       clear HFM
       obtain ⟨N, hN⟩ : ∃ N, K.C.n = N := ⟨_, rfl⟩
       have hfm' := hfm
       unfold forMe at hfm'
       have hFN : F < N := by rw [← hN]; omega
       have hFme : F ≠ K.C.me := fun e => hft (by rw [hfm'.1, hF, e])
       obtain ⟨x, hx⟩ := hok.at F (by rw [hN]; exact hFN)
       obtain ⟨ck, hck⟩ : ∃ ck, K.s.ck = ck := ⟨_, rfl⟩
       obtain ⟨kp, hkp⟩ : ∃ kp, K.p = kp := ⟨_, rfl⟩
       have HKP := qh hkp
       have HN := qh hN
       have hFI : (F : Int) < (N : Int) := by omega
       have HCELL : Hid (∀ W, CM w0 W K → W.cell? ⟨kc, 12, none⟩ = some (.slice (some ⟨kp, 0, none⟩) N N) ∧ W.cell? ⟨kc, 11, none⟩ = some (.int .i64 (ck : Int)) ∧ W.cell? ⟨kp, F * 5, none⟩ = some (.int .i64 (x.he : Int)) ∧ W.frozen? ⟨kp, F * 5, none⟩ = false) := fun W hW => by
        have a1 := hW.cell 12 _ rfl
        have a2 := hW.cell 11 _ rfl
        have a3 := (hW.peer F x hx).1
        have a4 := hW.pfz (F * 5)
        rw [hkc, hkp, hN] at a1; rw [hkc, hck] at a2; rw [hkp] at a3 a4
        exact ⟨a1, a2, a3, a4⟩
       have HHEAR : Hid (∀ W, CM w0 W K → Goes w0 W K (W.setCell ⟨kp, F * 5, none⟩ (.int .i64 (ck : Int))) (hearP K.s p.f.toNat)) := fun W hW => by
        have := hW.set_peer F 0 (by omega) x { x with he := ck } hx (.int .i64 (ck : Int)) rfl
        rw [hkp] at this
        have e : hearP K.s p.f.toNat = { K.s with ps := K.s.ps.set F { x with he := ck } } := by
         unfold hearP
         rw [hF, Int.toNat_natCast, modify_at _ _ _ _ hx, ← hck]
        rw [e]; exact this
       obtain ⟨s1, hs1⟩ : ∃ s1, hearP K.s p.f.toNat = s1 := ⟨_, rfl⟩
       have ok1 : Ok1 K.C m (10 * m) s1 := by rw [← hs1]; exact hok.one.hear _
       rw [hs1] at HHEAR ⊢
       have hTK := ok1.tell p (by omega) (by omega) hsu
       have HOK1 := qh ok1
       have HHO : Hid (∀ W s2, Ok1 K.C m (10 * m + 1) s2 → Goes w0 w K W s2 → Calls Tryz.prog 85 #[pB kc] W fun en w' => en = .returned (.tuple #[]) ∧ Goes w0 w K w' (held K.C s2)) := fun W s2 h2 g => by
        have := holds_goes g K.C.n rfl h8 h2.p (fun x hx => (h2.pr x hx).2.2.1) h2.ms (by have := h2.es; omega) hkc
        exact this
       have HG : Hid (K.C.n = N ∧ F < N ∧ F ≠ K.C.me ∧ K.C.me < N ∧ p.f = F ∧ p.ac = ac ∧ p.fr = fr ∧ ac ≤ 1000 ∧ fr ≤ 1000) := ⟨hN, hFN, hFme, by rw [← hN]; exact hme, hF, hac, hfr, hac1, hfr1⟩
       rw [hF, hac, hfr] at HD HFM1
       have HTK := qh hTK
       have HM9 := qh hm9
       have HF7 : Hid (F ≤ 7) := by show _ ≤ _; omega
       clear hr hn hok h hx hck hkp hN hs1 ok1 hfm' hfm hft hFN hFme hF hac hfr hfi hac1 hfr1 hTK f0 f7 t0 t7 hm9
       by_cases hk1 : p.k = 1
       · have hTL : tellP K.C s1 p = learnP K.C s1 p := if_pos hk1
         rw [hk1] at HD HFM1
         have HTL := qh hTL
         clear hkk hTL ho
         go_enter Tryz.func24, Tryz.ntmps24
         go_wp2_with (first
          | (go_at_call 61; (with_reducible refine (HC1.out).mono ?_); rintro en w1 ⟨rfl, rfl⟩)
          | (go_at_call 82; (with_reducible refine (HD.out).mono ?_); rintro en w1 ⟨A2, n2, c2, rfl, hrb, hl2, hnc, hcm, hb⟩; have HB := qh hb; have HB2 := qh (hb.alloc hb.size (pkO 1 (F : Int) p.t p.id p.fi A2 n2 c2 (ac : Int) (fr : Int) p.su)); have HK2 := qh (PkM.new w1 1 (F : Int) p.t p.id p.fi A2 n2 c2 (ac : Int) (fr : Int) p.su); have HSZ := qh hb.size; have HR2 := qh (hrb.below ((bR w1.heap.size w1).alloc (nl _) (pkO 1 (F : Int) p.t p.id p.fi A2 n2 c2 (ac : Int) (fr : Int) p.su)) (nl _)); have HL2 := qh hl2; have HNC := qh hnc; have HCM := qh hcm; clear hb hrb hl2 hnc hcm)
          | (go_at_call 83; (with_reducible refine (HFM1.out _ (HH.out.belows HB2.out) A2 n2 c2).mono ?_); rintro en w2 ⟨rfl, hb⟩; have HB3 := qh (HB2.out.trans (hb.mono HB2.out.size)); have HK3 := qh (HK2.out.below hb HK2.out.lt); have HR3 := qh (HR2.out.below hb (nl _)); clear hb))
         clear HB HB2 HK2 HR2
         obtain ⟨c12, c11, a0, fz⟩ := HCELL.out w2 (HH.out.belows HB3.out)
         obtain ⟨q0, q1, -, -, -, -, -, -, -⟩ := HK3.out.c
         go_big_region
         obtain ⟨w5, hw5⟩ : ∃ w5, w5 = (w2.setCell ⟨kp, F * 5, none⟩ (.int .i64 (ck : Int))).drew := ⟨_, rfl⟩
         have HG5 : Hid (Goes w0 w K w5 s1) := by rw [hw5]; exact (goes_then (Lv.of_below HB3.out) (fun i hi => .inl hi) rfl rfl ⟨rfl, rfl⟩ (HHEAR.out w2 (HH.out.belows HB3.out))).drew
         have hne : w1.heap.size ≠ kp := fun e => by have h1 := HH.out.plt; rw [HKP.out] at h1; have h2 := HSZ.out; omega
         have HRB5 : Hid (RB w5 w5.heap.size A2 p.l) := by rw [hw5]; exact (OB.same HR3.out fun i hi => heap_setCell_other _ _ _ _ (fun e => by have h1 := HH.out.plt; rw [HKP.out] at h1; have h2 := HR3.out.ge _ hi; have e2 : i = kp := e; omega)).cells
         have HK5 : Hid (PkM w5 w1.heap.size 1 (F : Int) p.t p.id p.fi A2 n2 c2 (ac : Int) (fr : Int) p.su) := by rw [hw5]; exact (heap_setCell_other _ _ _ _ hne).trans HK3.out
         obtain ⟨r0, r1, r2, r3, r4, r5, r6, r7, r8⟩ := HK5.out.c
         rw [← hw5]
         clear hw5 c12 c11 a0 fz q0 q1 HK3 HR3
         have HK1 := qh hk1
         have HLn : Hid (∀ W, Goes w0 w K W s1 → RB W W.heap.size A2 p.l → Calls Tryz.prog 84 #[pB kc, pkV 1 (F : Int) p.t p.id p.fi A2 n2 c2 (ac : Int) (fr : Int) p.su] W fun en w' => en = .returned (.tuple #[]) ∧ Goes w0 w K w' (learnP K.C s1 p)) := fun W g hrb => by
          obtain ⟨g1, g2, g3, g4, g5, g6, g7, g8, g9⟩ := HG.out
          have h1 := HOK1.out
          have := learn_goes g N g1 p F ac fr g5 g6 g7 A2 n2 c2 g2 g3 g4 (h1.L.trans g1) (h1.p.trans g1) h1.ll g8 g9 (fun x hx => ⟨(h1.pr x hx).2.1, (h1.pr x hx).2.2.1⟩) HL2.out HNC.out HCM.out hrb hkc
          rw [HK1.out] at this
          exact this
         clear hkc
         go_wp2_with (first
          | (go_at_call 84; (with_reducible refine (HLn.out _ HG5.out HRB5.out).mono ?_); rintro en w6 ⟨rfl, hg⟩; have HG6 := qh hg; clear hg)
          | (go_at_call 85; (with_reducible refine (HHO.out _ _ (HTL.out ▸ HTK.out) HG6.out).mono ?_); rintro en w7 ⟨rfl, hg⟩; have HG7 := qh hg; clear hg))
         go_ret
         exact ⟨rfl, by rw [HTL.out]; exact HG7.out⟩
       · have hk2 : p.k = 2 := by omega
         have hTL : tellP K.C s1 p = { s1 with es := s1.es ++ [.q F], cl := true } := by
          unfold tellP; rw [if_neg hk1, HG.out.2.2.2.2.1, Int.toNat_natCast]
         rw [hk2] at HD HFM1
         have HTL := qh hTL
         clear hkk hTL ho
         go_enter Tryz.func24, Tryz.ntmps24
         go_wp2_with (first
          | (go_at_call 61; (with_reducible refine (HC1.out).mono ?_); rintro en w1 ⟨rfl, rfl⟩)
          | (go_at_call 82; (with_reducible refine (HD.out).mono ?_); rintro en w1 ⟨A2, n2, c2, rfl, hrb, hl2, hnc, hcm, hb⟩; have HB := qh hb; have HB2 := qh (hb.alloc hb.size (pkO 2 (F : Int) p.t p.id p.fi A2 n2 c2 (ac : Int) (fr : Int) p.su)); have HK2 := qh (PkM.new w1 2 (F : Int) p.t p.id p.fi A2 n2 c2 (ac : Int) (fr : Int) p.su); have HSZ := qh hb.size; have HR2 := qh (hrb.below ((bR w1.heap.size w1).alloc (nl _) (pkO 2 (F : Int) p.t p.id p.fi A2 n2 c2 (ac : Int) (fr : Int) p.su)) (nl _)); have HL2 := qh hl2; have HNC := qh hnc; have HCM := qh hcm; clear hb hrb hl2 hnc hcm)
          | (go_at_call 83; (with_reducible refine (HFM1.out _ (HH.out.belows HB2.out) A2 n2 c2).mono ?_); rintro en w2 ⟨rfl, hb⟩; have HB3 := qh (HB2.out.trans (hb.mono HB2.out.size)); have HK3 := qh (HK2.out.below hb HK2.out.lt); have HR3 := qh (HR2.out.below hb (nl _)); clear hb))
         clear HB HB2 HK2 HR2
         obtain ⟨c12, c11, a0, fz⟩ := HCELL.out w2 (HH.out.belows HB3.out)
         obtain ⟨q0, q1, -, -, -, -, -, -, -⟩ := HK3.out.c
         go_big_region
         obtain ⟨w5, hw5⟩ : ∃ w5, w5 = (w2.setCell ⟨kp, F * 5, none⟩ (.int .i64 (ck : Int))).drew := ⟨_, rfl⟩
         have HG5 : Hid (Goes w0 w K w5 s1) := by rw [hw5]; exact (goes_then (Lv.of_below HB3.out) (fun i hi => .inl hi) rfl rfl ⟨rfl, rfl⟩ (HHEAR.out w2 (HH.out.belows HB3.out))).drew
         have hne : w1.heap.size ≠ kp := fun e => by have h1 := HH.out.plt; rw [HKP.out] at h1; have h2 := HSZ.out; omega
         have HRB5 : Hid (RB w5 w5.heap.size A2 p.l) := by rw [hw5]; exact (OB.same HR3.out fun i hi => heap_setCell_other _ _ _ _ (fun e => by have h1 := HH.out.plt; rw [HKP.out] at h1; have h2 := HR3.out.ge _ hi; have e2 : i = kp := e; omega)).cells
         have HK5 : Hid (PkM w5 w1.heap.size 2 (F : Int) p.t p.id p.fi A2 n2 c2 (ac : Int) (fr : Int) p.su) := by rw [hw5]; exact (heap_setCell_other _ _ _ _ hne).trans HK3.out
         obtain ⟨r0, r1, r2, r3, r4, r5, r6, r7, r8⟩ := HK5.out.c
         rw [← hw5]
         clear hw5 c12 c11 a0 fz q0 q1 HK3 HR3
         have HHp := qh (happens_goes HG5.out (.q F) HF7.out (by have := HOK1.out.es; have := HM9.out; omega))
         unfold evR rawV at HHp
         rw [hkc] at HHp
         have HCLO : Hid (∀ W s2, Goes w0 w K W s2 → W.cell? ⟨kc, 15, none⟩ = some (.bool s2.cl) ∧ W.frozen? ⟨kc, 15, none⟩ = false ∧ Goes w0 w K (W.setCell ⟨kc, 15, none⟩ (.bool true)) { s2 with cl := true }) := fun W s2 g => by
          have h1 := g.fz 15; have h2 := g.set_closed; have h3 := g.closed
          rw [hkc] at h1 h2 h3
          exact ⟨h3, h1, h2⟩
         clear hkc
         go_wp2_with (first
          | (go_at_call 72; (with_reducible refine (HHp.out).mono ?_); rintro en w6 ⟨rfl, hg⟩; obtain ⟨cc6, fz6, hg6⟩ := HCLO.out _ _ hg; have HG6 := qh hg6; clear hg hg6)
          | (go_at_call 85; (with_reducible refine (HHO.out _ _ (HTL.out ▸ HTK.out) HG6.out).mono ?_); rintro en w7 ⟨rfl, hg⟩; have HG7 := qh hg; clear hg))
         go_ret
         exact ⟨rfl, by rw [HTL.out]; exact HG7.out⟩
     · simp only [if_neg hfm] at hp
       injection hp with ea es
       subst ea es
       have HFM1 := qh (fun W hW A2 n2 c2 => HFM.out W hW A2 n2 c2 false ⟨fun e => (by cases e), fun e => absurd e hfm⟩)
       clear HFM hr hn hok h hfm hkk hkc ho hF hac hfr hfi hac1 hfr1 hft f0 f7 t0 t7
       go_enter Tryz.func24, Tryz.ntmps24
       go_wp2_with (first
        | (go_at_call 61; (with_reducible refine (HC1.out).mono ?_); rintro en w1 ⟨rfl, rfl⟩)
        | (go_at_call 82; (with_reducible refine (HD.out).mono ?_); rintro en w1 ⟨A2, n2, c2, rfl, -, -, -, -, hb⟩; have HB := qh hb; have HB2 := qh (hb.alloc hb.size (pkO p.k p.f p.t p.id p.fi A2 n2 c2 p.ac p.fr p.su)); clear hb)
        | (go_at_call 83; (with_reducible refine (HFM1.out _ (HH.out.belows HB2.out) A2 n2 c2).mono ?_); rintro en w2 ⟨rfl, hb⟩; have HB3 := qh (HB2.out.trans (hb.mono HB2.out.size)); clear hb))
       go_ret
       exact ⟨rfl, HH.out.goes HB3.out⟩
theorem u32_info : ∃ i0, Tryz.prog.info? 34 = some i0 ∧ i0.zero = some (.int .u32 0) ∧ i0.size = 1 ∧ i0.bytes = 4 :=
 info_parts (show (Tryz.prog.info? 34).map (fun i => (i.zero, i.size, i.bytes)) = some (some (.int .u32 0), 1, 4) from by kernel_rfl)
theorem gr_cell1 {w w' : World} {g p : Nat} {u : Value} {row : Option Nat} (gr : w.grownBy w' row) (h : w.cell? ⟨g, p, none⟩ = some u) (h1 : some g ≠ row) : w'.cell? ⟨g, p, none⟩ = some u := gr.cell h h1
theorem gr_fz1 {w w' : World} {g p : Nat} {u : Value} {row : Option Nat} (gr : w.grownBy w' row) (h : w.cell? ⟨g, p, none⟩ = some u) (hf : w.frozen? ⟨g, p, none⟩ = false) (h1 : some g ≠ row) : w'.frozen? ⟨g, p, none⟩ = false :=
 (World.frozen?_of_block (a := ⟨g, p, none⟩) (gr.block g (cell_lt h) h1)).trans hf
set_option maxHeartbeats 4000000 in
theorem core_mark (w0 w : World) (K : Cm) (h : CM w0 w K) (m : Nat) (hok : Ok K.C m K.s) (hm9 : m ≤ 10000) (h8 : K.C.n ≤ 8) (u : Int) (hu : 0 ≤ u ∧ u ≤ 4294967295) :
 Calls Tryz.prog 27 #[pB K.c, .int .u32 u] w fun e w' => e = .returned (.tuple #[]) ∧ Goes w0 w K w' (markP K.C K.s u) := by
 obtain ⟨kc, hkc⟩ : ∃ kc, K.c = kc := ⟨_, rfl⟩
 have HKC := qh hkc
 obtain ⟨n, hn⟩ : ∃ n, K.s.ms.length = n := ⟨_, rfl⟩
 obtain ⟨A, cap, hev, -, -⟩ := h.marks
 rw [hn] at hev
 have hcc : w.cell? ⟨kc, 13, none⟩ = some (.slice A n cap) := by rw [← hkc, ← hev]; exact h.cell 13 _ rfl
 rw [hkc]
 unfold markP
 rw [hn]
 have HH := qh h
 by_cases hlt : n < 1000
 · rw [if_pos hlt]
   have hlt2 : (n : Int) < 1000 := by omega
   have HEV := qh hev
   have HN1 : Hid (n + 1 ≤ 1000000) := by show _ ≤ _; omega
   have HN2 : Hid ((n + 1) * 4 ≤ 140737488355328) := by show _ ≤ _; omega
   have HKE : Hid (∀ {W : World}, CM w0 W K → RowE 34 1 (.slice A n cap) n (msL K.s.ms) K.mo) := fun h => by have := h.km; rw [hn, hev] at this; exact this
   have HE3 : Hid (K.E[2]? = some ((Value.slice A n cap).ownBlock, K.mo)) := by show _ = _; rw [← hev]; rfl
   have HEB : Hid (K.mv.ownBlock = (Value.slice A n cap).ownBlock) := by show _ = _; rw [hev]
   have HNC : Hid (some kc ≠ (Value.slice A n cap).ownBlock) := fun e => by
    have h1 : K.E[2]? = some (some K.c, K.mo) := by rw [HE3.out, ← e, hkc]
    have := h.bu.inj 0 2 K.c _ _ rfl h1
    omega
   have HR7 : Hid (∀ (v : Value) (o : Obj), RowE 34 1 v (n + 1) (msL K.s.ms ++ [.int .u32 u]) o → RowE 34 1 v (K.s.ms.length + 1) (msL K.s.ms ++ [.int .u32 u]) o) := fun v o R => by rw [hn]; exact R
   have hok2 : Ok1 K.C m (10 * m) { K.s with ms := K.s.ms ++ [u] } := ⟨hok.L, hok.ll, hok.p, hok.pr, hok.ck, by show (K.s.ms ++ [u]).length ≤ 1000; rw [List.length_append]; show K.s.ms.length + 1 ≤ _; omega, fun x hx => (List.mem_append.1 hx).elim (hok.mu x) (fun e => by obtain rfl := List.mem_singleton.1 e; exact hu), hok.es⟩
   have HHO : Hid (∀ W, Goes w0 w K W { K.s with ms := K.s.ms ++ [u] } → Calls Tryz.prog 85 #[pB kc] W fun en w' => en = .returned (.tuple #[]) ∧ Goes w0 w K w' (held K.C { K.s with ms := K.s.ms ++ [u] })) := fun W g => by
    have := holds_goes g K.C.n rfl h8 hok2.p (fun x hx => (hok2.pr x hx).2.2.1) hok2.ms (by have := hok2.es; omega) hkc
    exact this
   have H2 := HH
   have BA := qh ((bR w.heap.size w).alloc (nl _) (Obj.cells #[.int .u32 u] 34))
   have H3 := qh (HH.out.belows BA.out)
   have HS6 : Hid ((w.alloc (Obj.cells #[.int .u32 u] 34)).cell? ⟨kc, 13, none⟩ = some (.slice A n cap) ∧ (w.alloc (Obj.cells #[.int .u32 u] 34)).frozen? ⟨kc, 13, none⟩ = false) := ⟨by have := H3.out.cell 13 _ rfl; rw [hkc, hev] at this; exact this, by rw [← hkc]; exact H3.out.fz 13⟩
   clear h hn hev hkc hok hok2 hu h8
   go_enter Tryz.func27, Tryz.ntmps27
   go_wp2_with (first
    | (refine wpList_append_bu2 (w0 := w0) (E := K.E) (t := 34) (size := 1) (n := n) (v := .slice A n cap) (xs := msL K.s.ms) (o := K.mo) rfl (.tmp 18) (.tmp 20) 102 rfl (.int .u32 0) 4 Tryz.underlying102 u32_info rfl (by decide) H3.out.bu (HKE.out H3.out) 2 HE3.out rfl _ 1 1 [.int .u32 u] rfl rfl (cell_one_new _ _ _) (by simp [Value.oneCell']) HN1.out HN2.out (by decide) ?_; intro v7 w7 o7 k7 R7 hk7 B7 g7 n7; obtain ⟨A7, c7, rfl, -, -⟩ := R7.val; have hg7 := H3.out.push_mark _ o7 u k7 hk7 (HR7.out _ _ R7) B7 (by rw [HEB.out]; exact g7) (by rw [HEB.out]; exact n7); rw [HKC.out] at hg7; have G7 := qh (goes_then (Lv.of_below BA.out) (fun k hk => .inl hk) rfl rfl ⟨rfl, rfl⟩ hg7); have q7 := gr_cell1 g7 HS6.out.1 HNC.out; have f7 := gr_fz1 g7 HS6.out.1 HS6.out.2 HNC.out; clear R7 hk7 B7 g7 n7 hg7)
    | (go_at_call 85; (with_reducible refine (HHO.out _ G7.out).mono ?_); rintro en w8 ⟨rfl, hg8⟩; have HG8 := qh hg8; clear hg8))
   go_end0
   exact ⟨rfl, HG8.out⟩
 · rw [if_neg hlt]
   have hge : ¬ (n : Int) < 1000 := by omega
   have hge2 : (1000 : Int) ≤ (n : Int) := by omega
   clear h hn hev hkc hok hu h8
   go_enter Tryz.func27, Tryz.ntmps27
   go_wp2_with fail
   (try simp only [Exit.inBlock, Exit.then])
   refine bodyPost_ret (results_none rfl _ _ _) rfl ?_
   exact ⟨rfl, HH.out.goes (bR _ _)⟩
theorem Goes.press_cells {w0 w w1 : World} {K : Cm} {s : Pl} (g : Goes w0 w K w1 s) (kc kq me : Nat) (h1 : K.c = kc) (h2 : K.q = kq) (h3 : K.C.me = me) : w1.cell? ⟨kc, 10, none⟩ = some (pB kq) ∧ w1.cell? ⟨kc, 1, none⟩ = some (.int .i64 (me : Int)) := by
 obtain ⟨K1, e1, e2, e3, e4, g1, g2, g3⟩ := g
 have a1 := g1.cell 10 _ rfl
 have a2 := g1.cell 1 _ rfl
 rw [e3, e4.1, h1, h2] at a1
 rw [e3, e2, h1, h3] at a2
 exact ⟨a1, a2⟩
set_option maxHeartbeats 4000000 in
theorem core_press (w0 w : World) (K : Cm) (h : CM w0 w K) (m : Nat) (hok : Ok K.C m K.s) (h0 : 0 < K.C.n) (h8 : K.C.n ≤ 8) (hme : K.C.me < K.C.n) (b : UInt8) (a : Int) (s' : Pl) (hp : pressP K.C K.s b = (a, s')) :
 Calls Tryz.prog 16 #[pB K.c, vb b] w fun e w' => e = .returned (.int .i64 a) ∧ Goes w0 w K w' s' := by
 obtain ⟨kc, hkc⟩ : ∃ kc, K.c = kc := ⟨_, rfl⟩
 obtain ⟨kq, hkq⟩ : ∃ kq, K.q = kq := ⟨_, rfl⟩
 have hcl : w.cell? ⟨K.c, 15, none⟩ = some (.bool K.s.cl) := h.cell 15 _ rfl
 have HH := qh h
 rw [hkc] at hcl
 rw [hkc]
 have HCL := qh (fun (b : Bool) (hb : w.cell? ⟨kc, 15, none⟩ = some (.bool b)) => core_closed w kc b hb)
 unfold vb
 obtain ⟨bi, hbi⟩ : ∃ bi : Int, (b.toNat : Int) = bi := ⟨_, rfl⟩
 rw [hbi]
 unfold pressP at hp
 by_cases hcz : K.s.cl = true
 · rw [if_pos hcz] at hp
   injection hp with ea es
   subst ea es
   have HC1 := qh (HCL.out true (by rw [hcl, hcz]))
   clear HCL hcl hok h hbi
   go_enter Tryz.func16, Tryz.ntmps16
   go_wp2_with (first
    | (go_at_call 61; (with_reducible refine (HC1.out).mono ?_); rintro en w1 ⟨rfl, rfl⟩))
   go_ret
   exact ⟨rfl, HH.out.goes (bR _ _)⟩
 · rw [if_neg hcz] at hp
   have hcf : K.s.cl = false := by simpa using hcz
   have HC1 := qh (HCL.out false (by rw [hcl, hcf]))
   clear HCL hcl
   obtain ⟨l, hl, hl1⟩ := hok.line K.C.me hme
   obtain ⟨H, hH⟩ : ∃ H, l.length = H := ⟨_, rfl⟩
   rw [Ok.head_eq hl, hH] at hp
   rw [hl] at hp
   simp only [Option.getD_some] at hp
   have HHead : Hid (∀ W, Below w.heap.size w W → Calls Tryz.prog 57 #[pB kc] W fun e w' => e = .returned (.int .i64 H) ∧ Below W.heap.size W w') := fun W hW => by
    have := core_head w0 W K (h.belows hW) l hl H hH
    rw [hkc] at this
    exact this
   by_cases h1000 : 1000 ≤ H
   · rw [if_pos h1000] at hp
     injection hp with ea es
     subst ea es
     have h1i : (1000 : Int) ≤ (H : Int) := by omega
     clear hok h hbi hl hH hl1 hkc hkq
     go_enter Tryz.func16, Tryz.ntmps16
     go_wp2_with (first
      | (go_at_call 61; (with_reducible refine (HC1.out).mono ?_); rintro en w1 ⟨rfl, rfl⟩)
      | (go_at_call 57; (with_reducible refine (HHead.out _ (bR _ _)).mono ?_); rintro en w2 ⟨rfl, hb⟩; have HB2 := qh hb; clear hb))
     go_ret
     exact ⟨rfl, HH.out.goes HB2.out⟩
   · rw [if_neg h1000] at hp
     obtain ⟨F, hF⟩ : ∃ F, frontP K.s.L = F := ⟨_, rfl⟩
     rw [hF] at hp
     have hFH : F ≤ H := by
      obtain ⟨x, hx⟩ := h.line _ l hl
      have h1 := frontN_mem K.xs ⟨x, l⟩ (List.mem_of_getElem? hx)
      rw [frontN_P, h.ln, hF] at h1
      rw [← hH]; exact h1
     have HFront : Hid (∀ W, Below w.heap.size w W → Calls Tryz.prog 60 #[pB kq] W fun e w' => e = .returned (.int .i64 F) ∧ W = w') := fun W hW => by
      have h1 := h.belows hW
      have := front_any W K.q K.r K.xs h1.qf.qm (by rw [h1.xlen, hok.L]; exact h0) (by rw [h1.xlen, hok.L]; exact h8) F (by rw [frontN_P, h1.ln]; exact hF)
      rw [hkq] at this
      exact this
     obtain ⟨wi, hwi⟩ : ∃ wi, K.C.wi = wi := ⟨_, rfl⟩
     rw [hwi] at hp
     obtain ⟨me, hmq⟩ : ∃ me, K.C.me = me := ⟨_, rfl⟩
     have HCELL : Hid (∀ W, Below w.heap.size w W → W.cell? ⟨kc, 10, none⟩ = some (pB kq) ∧ W.cell? ⟨kc, 4, none⟩ = some (.int .i64 (wi : Int))) := fun W hW => by
      have h1 := (h.belows hW).cell 10 _ rfl
      have h2 := (h.belows hW).cell 4 _ rfl
      rw [hkc, hkq] at h1; rw [hkc, hwi] at h2
      exact ⟨h1, h2⟩
     have HCEL1 : Hid (∀ W, Below w.heap.size w W → W.cell? ⟨kc, 10, none⟩ = some (pB kq) ∧ W.cell? ⟨kc, 1, none⟩ = some (.int .i64 (me : Int))) := fun W hW => by
      have h1 := (h.belows hW).cell 10 _ rfl
      have h2 := (h.belows hW).cell 1 _ rfl
      rw [hkc, hkq] at h1; rw [hkc, hmq] at h2
      exact ⟨h1, h2⟩
     obtain ⟨x, hx⟩ := h.line _ l hl
     have HLine : Hid (∀ W, Below w.heap.size w W → Calls Tryz.prog 67 #[pB kq, .int .i64 (me : Int)] W fun e w' => e = .returned (pB x) ∧ W = w') := fun W hW => by
      have := line_in W K.q K.r K.xs (h.belows hW).qf.qm (me : Int) K.C.me (by rw [hmq]) ⟨x, l⟩ hx
      rw [hkq] at this
      exact this
     have HAdd : Hid (H < 1000 → ∀ W, Below w.heap.size w W → Calls Tryz.prog 68 #[pB x, .int .u8 bi] W fun e w' => e = .returned (.int .i64 0) ∧ Goes w0 w K w' { K.s with L := K.s.L.set K.C.me (l ++ [b]) }) := fun hlt W hW => by
      have h1 := h.belows hW
      have hk := (h1.qf.qm.line _ _ hx).1
      have h2 := add_ok W x H l (by rw [← hH]; exact hk) hH hlt b
      unfold vb at h2
      rw [hbi] at h2
      refine h2.mono fun e w' ⟨he, hlm, hg⟩ => ⟨he, ?_⟩
      obtain ⟨q1, q2⟩ := h1.oth.put K.C.me ⟨x, l⟩ hx (l ++ [b]) (H + 1) (by rw [List.length_append, hH]; rfl) hlm (by omega) hg
      exact goes_then (Lv.of_below hW) (fun i hi => .inl hi) rfl rfl ⟨rfl, rfl⟩ (h1.put_line K.C.me x l (l ++ [b]) hx q1 q2)
     obtain ⟨d, hd⟩ : ∃ d : Nat, H - F = d := ⟨_, rfl⟩
     have hdi : (H : Int) - (F : Int) = (d : Int) := by omega
     rw [hd] at hp
     have h1i : (H : Int) < 1000 := by omega
     have h1d : decide ((1000 : Int) ≤ (H : Int)) = false := by simp; omega
     have hH1000 : H < 1000 := by omega
     have HHL := qh hH1000
     have hwd : IntKind.i64.wrap (d : Int) = (d : Int) := by rw [IntKind.wrap_i64]; omega
     by_cases hst : wi ≤ d
     · rw [if_pos hst] at hp
       injection hp with ea es
       subst ea es
       have hsi : (wi : Int) ≤ (d : Int) := by omega
       have HKC := qh hkc; have HKQ := qh hkq; have HME := qh hmq
       clear hok h hbi hl hH hl1 hkc hkq hF hFH hwi hmq hx hd h1000
       go_enter Tryz.func16, Tryz.ntmps16
       go_wp2_with (first
        | (go_at_call 61; (with_reducible refine (HC1.out).mono ?_); rintro en w1 ⟨rfl, rfl⟩)
        | (go_at_call 57; (with_reducible refine (HHead.out _ (bR _ _)).mono ?_); rintro en w2 ⟨rfl, hb⟩; have HB2 := qh hb; clear hb))
       refine wp_region_held_drew (S := (fun w' => w'.cell? ⟨kc, 10, none⟩ = some (pB kq) ∧ w'.cell? ⟨kc, 4, none⟩ = some (.int .i64 (wi : Int)))) (by kernel_rfl) (HCELL.out _ HB2.out.drew) (fun hHeld => ?_)
       refine htk (i := 0) (v := ?_) rfl (by kernel_rfl) (fun _ _ _ h => h) (by rfl) hHeld ?_ ?_
       rotate_left 1
       · (intro w hSw; (try dsimp only at hSw); go_simp; try (with_reducible rfl))
       try simp only [Act.put, nB, nC, nD]
       refine htk (i := 2) (v := ?_) rfl (by kernel_rfl) (fun _ _ _ h => h) (by rfl) hHeld ?_ ?_
       rotate_left 1
       · (intro w hSw; (try dsimp only at hSw); go_simp; try (with_reducible rfl))
       try simp only [Act.put, nB, nC, nD]
       refine htk (i := 3) (v := ?_) rfl (by kernel_rfl) (fun _ _ _ h => h) (by rfl) hHeld ?_ ?_
       rotate_left 1
       · (intro w hSw; (try dsimp only at hSw); go_simp; try (with_reducible rfl))
       try simp only [Act.put, nB, nC, nD]
       refine htk (i := 4) (v := ?_) rfl (by kernel_rfl) (fun _ _ _ h => h) (by rfl) hHeld ?_ ?_
       rotate_left 1
       · (intro w hSw; (try dsimp only at hSw); go_simp; try (with_reducible rfl))
       try simp only [Act.put, nB, nC, nD]
       refine htk (i := 5) (v := ?_) rfl (by kernel_rfl) (fun _ _ _ h => h) (by rfl) hHeld ?_ ?_
       rotate_left 1
       · (intro w hSw; (try dsimp only at hSw); go_simp; try (with_reducible rfl))
       try simp only [Act.put, nB, nC, nD]
       refine htk (i := 8) (v := ?_) rfl (by kernel_rfl) (fun _ _ _ h => h) (by rfl) hHeld ?_ ?_
       rotate_left 1
       · (intro w hSw; (try dsimp only at hSw); go_simp; try (with_reducible rfl))
       try simp only [Act.put, nB, nC, nD]
       refine htk (i := 9) (v := ?_) rfl (by kernel_rfl) (fun _ _ _ h => h) (by rfl) hHeld ?_ ?_
       rotate_left 1
       · (intro w hSw; (try dsimp only at hSw); go_simp; try (with_reducible rfl))
       try simp only [Act.put, nB, nC, nD]
       refine htk (i := 10) (v := ?_) rfl (by kernel_rfl) (fun _ _ _ h => h) (by rfl) hHeld ?_ ?_
       rotate_left 1
       · (intro w hSw; (try dsimp only at hSw); go_simp; try (with_reducible rfl))
       try simp only [Act.put, nB, nC, nD]
       refine htk (i := 11) (v := ?_) rfl (by kernel_rfl) (fun _ _ _ h => h) (by rfl) hHeld ?_ ?_
       rotate_left 1
       · (intro w hSw; (try dsimp only at hSw); go_simp; try (with_reducible rfl))
       try simp only [Act.put, nB, nC, nD]
       refine htk (i := 12) (v := ?_) rfl (by kernel_rfl) (fun _ _ _ h => h) (by rfl) hHeld ?_ ?_
       rotate_left 1
       · (intro w hSw; (try dsimp only at hSw); go_simp; try (with_reducible rfl))
       try simp only [Act.put, nB, nC, nD]
       refine held_one (i := 1) rfl (by kernel_rfl) (by rfl) (fun K hK => ?_)
       go_simp
       refine (HHead.out _ HB2.out.drew).mono ?_
       rintro en w3 ⟨rfl, hb3⟩
       have HB3 := qh (HB2.out.drew.trans (hb3.mono HB2.out.drew.size))
       clear hb3
       refine hK.out _ _ (HCELL.out _ HB3.out) (fun hHeld2 => ?_)
       clear hK K hHeld; have hHeld := hHeld2; clear hHeld2
       try simp only [Act.put, nB, nC, nD]
       refine held_one (i := 6) rfl (by kernel_rfl) (by rfl) (fun K hK => ?_)
       go_simp
       refine (HFront.out _ HB3.out).mono ?_
       rintro en w5 ⟨rfl, rfl⟩
       refine hK.out _ _ (hHeld) (fun hHeld2 => ?_)
       clear hK K hHeld; have hHeld := hHeld2; clear hHeld2
       try simp only [Act.put, nB, nC, nD]
       refine held_one (i := 7) rfl (by kernel_rfl) (by rfl) (fun K hK => ?_)
       go_simp
       refine hK.out _ _ (hHeld) (fun hHeld2 => ?_)
       clear hK K hHeld; have hHeld := hHeld2; clear hHeld2
       try simp only [Act.put, nB, nC, nD]
       refine held_one (i := 13) rfl (by kernel_rfl) (by rfl) (fun K hK => ?_)
       go_simp
       refine hK.out _ _ (hHeld) (fun hHeld2 => ?_)
       clear hK K hHeld; have hHeld := hHeld2; clear hHeld2
       try simp only [Act.put, nB, nC, nD]
       refine held_one (i := 14) rfl (by kernel_rfl) (by rfl) (fun K hK => ?_)
       go_simp
       refine hK.out _ _ (hHeld) (fun hHeld2 => ?_)
       clear hK K hHeld; have hHeld := hHeld2; clear hHeld2
       try simp only [Act.put, nB, nC, nD]
       refine wpAnyH_done (by kernel_rfl) ?_ _
       have HB9 := qh HB3.out
       clear hHeld
       go_wp2_with fail
       go_ret
       exact ⟨rfl, HH.out.goes HB9.out⟩
     · rw [if_neg hst] at hp
       injection hp with ea es
       subst ea es
       have hsi : (d : Int) < (wi : Int) := by omega
       have hsd : decide ((wi : Int) ≤ (d : Int)) = false := by simp; omega
       have hse : decide (wi ≤ d) = false := by simp; omega
       have HKC := qh hkc; have HKQ := qh hkq; have HME := qh hmq
       clear hok h hbi hl hH hl1 hkc hkq hF hFH hwi hmq hx hd h1000
       go_enter Tryz.func16, Tryz.ntmps16
       go_wp2_with (first
        | (go_at_call 61; (with_reducible refine (HC1.out).mono ?_); rintro en w1 ⟨rfl, rfl⟩)
        | (go_at_call 57; (with_reducible refine (HHead.out _ (bR _ _)).mono ?_); rintro en w2 ⟨rfl, hb⟩; have HB2 := qh hb; clear hb))
       refine wp_region_held_drew (S := (fun w' => w'.cell? ⟨kc, 10, none⟩ = some (pB kq) ∧ w'.cell? ⟨kc, 4, none⟩ = some (.int .i64 (wi : Int)))) (by kernel_rfl) (HCELL.out _ HB2.out.drew) (fun hHeld => ?_)
       refine htk (i := 0) (v := ?_) rfl (by kernel_rfl) (fun _ _ _ h => h) (by rfl) hHeld ?_ ?_
       rotate_left 1
       · (intro w hSw; (try dsimp only at hSw); go_simp; try (with_reducible rfl))
       try simp only [Act.put, nB, nC, nD]
       refine htk (i := 2) (v := ?_) rfl (by kernel_rfl) (fun _ _ _ h => h) (by rfl) hHeld ?_ ?_
       rotate_left 1
       · (intro w hSw; (try dsimp only at hSw); go_simp; try (with_reducible rfl))
       try simp only [Act.put, nB, nC, nD]
       refine htk (i := 3) (v := ?_) rfl (by kernel_rfl) (fun _ _ _ h => h) (by rfl) hHeld ?_ ?_
       rotate_left 1
       · (intro w hSw; (try dsimp only at hSw); go_simp; try (with_reducible rfl))
       try simp only [Act.put, nB, nC, nD]
       refine htk (i := 4) (v := ?_) rfl (by kernel_rfl) (fun _ _ _ h => h) (by rfl) hHeld ?_ ?_
       rotate_left 1
       · (intro w hSw; (try dsimp only at hSw); go_simp; try (with_reducible rfl))
       try simp only [Act.put, nB, nC, nD]
       refine htk (i := 5) (v := ?_) rfl (by kernel_rfl) (fun _ _ _ h => h) (by rfl) hHeld ?_ ?_
       rotate_left 1
       · (intro w hSw; (try dsimp only at hSw); go_simp; try (with_reducible rfl))
       try simp only [Act.put, nB, nC, nD]
       refine htk (i := 8) (v := ?_) rfl (by kernel_rfl) (fun _ _ _ h => h) (by rfl) hHeld ?_ ?_
       rotate_left 1
       · (intro w hSw; (try dsimp only at hSw); go_simp; try (with_reducible rfl))
       try simp only [Act.put, nB, nC, nD]
       refine htk (i := 9) (v := ?_) rfl (by kernel_rfl) (fun _ _ _ h => h) (by rfl) hHeld ?_ ?_
       rotate_left 1
       · (intro w hSw; (try dsimp only at hSw); go_simp; try (with_reducible rfl))
       try simp only [Act.put, nB, nC, nD]
       refine htk (i := 10) (v := ?_) rfl (by kernel_rfl) (fun _ _ _ h => h) (by rfl) hHeld ?_ ?_
       rotate_left 1
       · (intro w hSw; (try dsimp only at hSw); go_simp; try (with_reducible rfl))
       try simp only [Act.put, nB, nC, nD]
       refine htk (i := 11) (v := ?_) rfl (by kernel_rfl) (fun _ _ _ h => h) (by rfl) hHeld ?_ ?_
       rotate_left 1
       · (intro w hSw; (try dsimp only at hSw); go_simp; try (with_reducible rfl))
       try simp only [Act.put, nB, nC, nD]
       refine htk (i := 12) (v := ?_) rfl (by kernel_rfl) (fun _ _ _ h => h) (by rfl) hHeld ?_ ?_
       rotate_left 1
       · (intro w hSw; (try dsimp only at hSw); go_simp; try (with_reducible rfl))
       try simp only [Act.put, nB, nC, nD]
       refine held_one (i := 1) rfl (by kernel_rfl) (by rfl) (fun K hK => ?_)
       go_simp
       refine (HHead.out _ HB2.out.drew).mono ?_
       rintro en w3 ⟨rfl, hb3⟩
       have HB3 := qh (HB2.out.drew.trans (hb3.mono HB2.out.drew.size))
       clear hb3
       refine hK.out _ _ (HCELL.out _ HB3.out) (fun hHeld2 => ?_)
       clear hK K hHeld; have hHeld := hHeld2; clear hHeld2
       try simp only [Act.put, nB, nC, nD]
       refine held_one (i := 6) rfl (by kernel_rfl) (by rfl) (fun K hK => ?_)
       go_simp
       refine (HFront.out _ HB3.out).mono ?_
       rintro en w5 ⟨rfl, rfl⟩
       refine hK.out _ _ (hHeld) (fun hHeld2 => ?_)
       clear hK K hHeld; have hHeld := hHeld2; clear hHeld2
       try simp only [Act.put, nB, nC, nD]
       refine held_one (i := 7) rfl (by kernel_rfl) (by rfl) (fun K hK => ?_)
       go_simp
       refine hK.out _ _ (hHeld) (fun hHeld2 => ?_)
       clear hK K hHeld; have hHeld := hHeld2; clear hHeld2
       try simp only [Act.put, nB, nC, nD]
       refine held_one (i := 13) rfl (by kernel_rfl) (by rfl) (fun K hK => ?_)
       go_simp
       refine hK.out _ _ (hHeld) (fun hHeld2 => ?_)
       clear hK K hHeld; have hHeld := hHeld2; clear hHeld2
       try simp only [Act.put, nB, nC, nD]
       refine held_one (i := 14) rfl (by kernel_rfl) (by rfl) (fun K hK => ?_)
       go_simp
       refine hK.out _ _ (hHeld) (fun hHeld2 => ?_)
       clear hK K hHeld; have hHeld := hHeld2; clear hHeld2
       try simp only [Act.put, nB, nC, nD]
       refine wpAnyH_done (by kernel_rfl) ?_ _
       have HB9 := qh HB3.out
       clear hHeld
       go_wp2_with fail
       refine wp_region_held_drew (S := (fun w' => w'.cell? ⟨kc, 10, none⟩ = some (pB kq) ∧ w'.cell? ⟨kc, 1, none⟩ = some (.int .i64 (me : Int)))) (by kernel_rfl) (HCEL1.out _ HB9.out.drew) (fun hHeld => ?_)
       refine htk (i := 0) (v := ?_) rfl (by kernel_rfl) (fun _ _ _ h => h) (by rfl) hHeld ?_ ?_
       rotate_left 1
       · (intro w hSw; (try dsimp only at hSw); go_simp; try (with_reducible rfl))
       try simp only [Act.put, nB, nC, nD]
       refine htk (i := 1) (v := ?_) rfl (by kernel_rfl) (fun _ _ _ h => h) (by rfl) hHeld ?_ ?_
       rotate_left 1
       · (intro w hSw; (try dsimp only at hSw); go_simp; try (with_reducible rfl))
       try simp only [Act.put, nB, nC, nD]
       refine htk (i := 2) (v := ?_) rfl (by kernel_rfl) (fun _ _ _ h => h) (by rfl) hHeld ?_ ?_
       rotate_left 1
       · (intro w hSw; (try dsimp only at hSw); go_simp; try (with_reducible rfl))
       try simp only [Act.put, nB, nC, nD]
       refine htk (i := 3) (v := ?_) rfl (by kernel_rfl) (fun _ _ _ h => h) (by rfl) hHeld ?_ ?_
       rotate_left 1
       · (intro w hSw; (try dsimp only at hSw); go_simp; try (with_reducible rfl))
       try simp only [Act.put, nB, nC, nD]
       refine htk (i := 4) (v := ?_) rfl (by kernel_rfl) (fun _ _ _ h => h) (by rfl) hHeld ?_ ?_
       rotate_left 1
       · (intro w hSw; (try dsimp only at hSw); go_simp; try (with_reducible rfl))
       try simp only [Act.put, nB, nC, nD]
       refine htk (i := 5) (v := ?_) rfl (by kernel_rfl) (fun _ _ _ h => h) (by rfl) hHeld ?_ ?_
       rotate_left 1
       · (intro w hSw; (try dsimp only at hSw); go_simp; try (with_reducible rfl))
       try simp only [Act.put, nB, nC, nD]
       refine htk (i := 6) (v := ?_) rfl (by kernel_rfl) (fun _ _ _ h => h) (by rfl) hHeld ?_ ?_
       rotate_left 1
       · (intro w hSw; (try dsimp only at hSw); go_simp; try (with_reducible rfl))
       try simp only [Act.put, nB, nC, nD]
       refine htk (i := 7) (v := ?_) rfl (by kernel_rfl) (fun _ _ _ h => h) (by rfl) hHeld ?_ ?_
       rotate_left 1
       · (intro w hSw; (try dsimp only at hSw); go_simp; try (with_reducible rfl))
       try simp only [Act.put, nB, nC, nD]
       refine htk (i := 8) (v := ?_) rfl (by kernel_rfl) (fun _ _ _ h => h) (by rfl) hHeld ?_ ?_
       rotate_left 1
       · (intro w hSw; (try dsimp only at hSw); go_simp; try (with_reducible rfl))
       try simp only [Act.put, nB, nC, nD]
       refine htk (i := 10) (v := ?_) rfl (by kernel_rfl) (fun _ _ _ h => h) (by rfl) hHeld ?_ ?_
       rotate_left 1
       · (intro w hSw; (try dsimp only at hSw); go_simp; try (with_reducible rfl))
       try simp only [Act.put, nB, nC, nD]
       refine held_one (i := 9) rfl (by kernel_rfl) (by rfl) (fun K hK => ?_)
       go_simp
       refine (HLine.out _ HB9.out.drew).mono ?_
       rintro en w6 ⟨rfl, rfl⟩
       refine hK.out _ _ (hHeld) (fun hHeld2 => ?_)
       clear hK K hHeld; have hHeld := hHeld2; clear hHeld2
       try simp only [Act.put, nB, nC, nD]
       refine held_one (i := 11) rfl (by kernel_rfl) (by rfl) (fun K hK => ?_)
       go_simp
       refine (HAdd.out HHL.out _ HB9.out.drew).mono ?_
       rintro en w7 ⟨rfl, hg7⟩
       have HG7 := qh hg7
       obtain ⟨s1, s2⟩ := HG7.out.press_cells kc kq me HKC.out HKQ.out HME.out
       clear hg7
       refine hK.out _ _ (⟨s1, s2⟩) (fun hHeld2 => ?_)
       clear hK K hHeld; have hHeld := hHeld2; clear hHeld2
       try simp only [Act.put, nB, nC, nD]
       refine held_one (i := 12) rfl (by kernel_rfl) (by rfl) (fun K hK => ?_)
       go_simp
       refine hK.out _ _ (hHeld) (fun hHeld2 => ?_)
       clear hK K hHeld; have hHeld := hHeld2; clear hHeld2
       try simp only [Act.put, nB, nC, nD]
       refine wpAnyH_done (by kernel_rfl) ?_ _
       clear hHeld
       go_wp2_with fail
       go_ret
       exact ⟨rfl, HG7.out⟩
end Go.Proofs.YtpnobpligchpiaaGreatDoor
