/- texts of YpPb -/
import Derived.Test.YtpnobpligchpiaaGreatDoorYpK
import Derived.Test.YtpnobpligchpiaaGreatDoorYpPa
namespace Go.Proofs.YtpnobpligchpiaaGreatDoor
set_option maxRecDepth 100000
open Go.RowKit
set_option linter.unusedVariables false
set_option linter.unusedSimpArgs false
theorem at_progB {w0 w : World} {C : Cf} {c q : Nat} {s s' : Pl} {O : Nat → Prop} {P : Program} {f : Nat} {args : Array Value} {xs : List (Nat × List UInt8)} (h : At w0 w C c q s O) (H : ∀ Kc : Cm, Kc.C = C → Kc.c = c → Kc.q = q → Kc.s = s → CM w0 w Kc → Calls P f args w fun e w' => ∃ v B, e = .returned v ∧ Tells w' B v Kc.C.me xs ∧ GoesB w0 w Kc w' s' B) :
 Calls P f args w fun e w' => ∃ v B, e = .returned v ∧ Tells w' B v C.me xs ∧ w.heap.size ≤ B ∧ B ≤ w'.heap.size ∧ At w0 w' C c q s' (With O B w'.heap.size) ∧ Same O w w' := by
 obtain ⟨Kc, q1, q2, q3, q4, hc, hx⟩ := h
 refine (H Kc q1 q2 q3 q4 hc).mono fun en w' ⟨v, B, he, ht, g⟩ => ?_
 have hB : w.heap.size ≤ B := by obtain ⟨K', -, -, -, -, -, -, -, -, g5⟩ := g; exact g5
 have hw : w.heap.size ≤ w'.heap.size := by obtain ⟨K', -, -, -, -, -, g2, -, -, -⟩ := g; exact g2.size
 obtain ⟨A, S⟩ := At.goesB q1 q2 q3 hc hx g
 rw [q1] at ht
 refine ⟨v, min B w'.heap.size, he, ?_, by omega, Nat.min_le_right _ _, A.less (fun k hk => ?_), S⟩
 · obtain ⟨ms, m1, m2⟩ := ht
   exact ⟨ms, ⟨m1.wr, fun k hk => Nat.le_trans (Nat.min_le_left _ _) (m1.ge k hk), fun m hm => ⟨(m1.ob m hm).1.less (Nat.min_le_left _ _), (m1.ob m hm).2⟩⟩, m2⟩
 · rcases hk with hk | hk
   · exact .inl hk
   · exact .inr ⟨by omega, hk.2⟩
section
variable {w0 w : World} {P : Pc} {s s1 s2 : Pl} {g g2 : List Int} {n : Nat} {O : Nat → Prop} {m : Nat}
theorem ptick_any (hp : PFit P) (hT : TabW w0) (h : PX w0 w P s g n O) (hok : Ok P.C m s) (hm9 : m ≤ 10000) (xs : List (Nat × List UInt8)) (hpr : tickP P.C s = (xs, s1)) :
 Calls Tryz.prog 50 #[pB P.x] w fun e w' => ∃ v B, e = .returned v ∧ Tells w' B v P.C.me xs ∧ w.heap.size ≤ B ∧ B ≤ w'.heap.size ∧ PX w0 w' P s1 g n (With O B w'.heap.size) ∧ Same O w w' := by
 have HCO := qh (plain_core w P.x P.c h.core)
 have HPR := qh (at_progB (xs := xs) (s' := s1) (P := Tryz.prog) (f := 20) (args := #[pB P.c]) h.at_ (fun Kc e1 e2 e3 e4 hk => by
  have := core_tick w0 w Kc hk hT m (by rw [e1, e4]; exact hok) hm9 (by rw [e1]; exact hp.f.2.1) (by rw [e1]; exact hp.f.2.2) xs s1 (by rw [e1, e4]; exact hpr)
  rw [e2] at this
  exact this))
 have HX := qh h
 clear h hok hpr hT hp
 go_enter Tryz.func50, Tryz.ntmps50
 go_wp2_with (first
  | (go_at_call 54; (with_reducible refine HCO.out.mono ?_); rintro e w1 ⟨rfl, rfl⟩)
  | (go_at_call 20; (with_reducible refine HPR.out.mono ?_); rintro e w2 ⟨v2, B2, rfl, t2, l2, m2, a2, s2'⟩; have HT2 := qh t2; have HL2 := qh l2; have HM2 := qh m2; have HA2 := qh (HX.out.stepB a2 s2' l2); clear t2 l2 m2 a2 s2'))
 go_ret
 exact ⟨_, B2, rfl, HT2.out, HL2.out, HM2.out, HA2.out⟩
theorem pclosed_any (h : PX w0 w P s g n O) (b : Bool) (hb : s.cl = b) :
 Calls Tryz.prog 53 #[pB P.x] w fun e w' => e = .returned (.bool b) ∧ w = w' := by
 have HCO := qh (plain_core w P.x P.c h.core)
 have HPR := qh (at_closed h.at_ b hb)
 clear h
 go_enter Tryz.func53, Tryz.ntmps53
 go_wp2_with (first
  | (go_at_call 54; (with_reducible refine HCO.out.mono ?_); rintro e w1 ⟨rfl, rfl⟩)
  | (go_at_call 61; (with_reducible refine HPR.out.mono ?_); rintro e w2 ⟨rfl, rfl⟩))
 go_ret
 exact ⟨rfl, rfl⟩
set_option maxHeartbeats 2000000 in
theorem pconf_any (hp : PFit P) (h : PX w0 w P s g n O) (hok : Ok P.C m s) (hn : frontP s.L = n) :
 Calls Tryz.prog 46 #[pB P.x] w fun e w' => ∃ v, e = .returned (.tuple #[v, .int .i64 (n : Int)]) ∧ OB w' w.heap.size v (gEnc g) ∧ Below w.heap.size w w' := by
 have hn9 : n ≤ 1000 := by rw [← hn]; exact frontP_le _
 have HCO := qh (plain_core w P.x P.c h.core)
 have HQU := qh (at_queue h.at_)
 have HFR := qh (at_front hp.f h.at_ hok n hn)
 have HKN := qh (pknown_any hp h hok n (.inr (nl _)) (n : Int) rfl hn9)
 have e1 : (List.range (n - n)).map (fun j => jointP s.L (n + j)) = [] := by rw [Nat.sub_self]; rfl
 rw [e1] at HKN
 have HX := qh h; have HPF := qh hp; have HN9 := qh hn9
 have HEN : Hid (∀ W, Below w.heap.size w W → Calls Tryz.prog 108 #[.agg (gC g)] W fun e w' => ∃ v, e = .returned v ∧ OB w' W.heap.size v (gEnc g) ∧ Below W.heap.size W w') := fun W _ => gencode_any g W h.gm.1 h.gm.2
 have c0 := h.core
 clear h hok hn hp e1 hn9
 go_enter Tryz.func46, Tryz.ntmps46
 go_wp2_with (first
  | (go_at_call 54; (with_reducible refine HCO.out.mono ?_); rintro e w1 ⟨rfl, rfl⟩)
  | (go_at_call 59; (with_reducible refine HQU.out.mono ?_); rintro e w1 ⟨rfl, rfl⟩)
  | (go_at_call 60; (with_reducible refine HFR.out.mono ?_); rintro e w1 ⟨rfl, rfl⟩)
  | (go_at_call 107; (with_reducible refine HKN.out.mono ?_); rintro e w2 ⟨v2, ms2, rfl, y2, m2, b2, -⟩; obtain ⟨A2, c2, rfl, p2⟩ := y2.presses 0 (by have := congrArg List.length m2; simpa using this); rw [m2] at p2; have HP2 := qh p2; have HB2 := qh b2; clear y2 m2 b2 p2)
  | (go_at_call 106; (with_reducible refine (behind_any HPF.out (HX.out.belows HB2.out) A2 [] 0 c2 rfl HP2.out (by omega) HN9.out g rfl).mono ?_); rintro e w3 ⟨rfl, b3⟩; have HB3 := qh (HB2.out.trans (b3.mono HB2.out.size)); clear b3)
  | (go_at_call 108; (with_reducible refine (HEN.out _ HB3.out).mono ?_); rintro e w4 ⟨v4, rfl, o4, b4⟩; have HO4 := qh (o4.less HB3.out.size); have HB4 := qh (HB3.out.trans (b4.mono HB3.out.size)); clear o4 b4))
 go_ret2
 exact ⟨_, rfl, HO4.out, HB4.out⟩
end
theorem rows_read {w : World} {base : Nat} {v : Value} {us : List Value} {R : List (List UInt8)} (h : w.ownsRow base 33 1 v us.length us) (hl : us.length = R.length)
 (he : ∀ (j : Nat) (l : List UInt8), R[j]? = some l → ∃ a c, us[j]? = some (Value.slice a l.length c) ∧ RB w w.heap.size a l ∧ l.length ≤ c ∧ c ≤ maxLen) : ∃ A c, v = .slice A R.length c ∧ RP w w.heap.size A R := by
 rcases h.2 with ⟨hv, h0⟩ | ⟨g, cap, cur, hv, h1, h2, h3, h4, h5, h6⟩
 · have h00 : R.length = 0 := by rw [← hl]; exact h0
   obtain rfl : R = [] := List.eq_nil_of_length_eq_zero h00
   exact ⟨none, 0, hv, RP.nil _ _ _⟩
 · refine ⟨some ⟨g, 0, none⟩, cap, by rw [hv, hl], fun hR0 => ⟨g, 0, rfl, (Array.getElem?_eq_some_iff.1 h2).1, fun j l hj => ?_⟩⟩
   obtain ⟨a, c, hu, hr, hle, hcm⟩ := he j l hj
   refine ⟨a, c, ?_, hr, hle, hcm⟩
   have hj2 : j < us.length := (List.getElem?_eq_some_iff.1 hu).1
   rw [Nat.zero_add, cell_of_row w g j _ _ _ h2]
   have e := congrArg (·[j]?) h6
   simp only [Nat.mul_one, List.getElem?_take, hj2, if_true] at e
   rw [hu] at e
   simpa using e
theorem RR.vals {w : World} {B g : Nat} {R : List (List UInt8)} (h : RR w B (some ⟨g, 0, none⟩) R) : ∃ us : List Value, us.length = R.length ∧ (∀ j u, us[j]? = some u → w.cell? ⟨g, j, none⟩ = some u) ∧ (∀ u ∈ us, u.oneCell' = true) ∧ ∀ (j : Nat) (l : List UInt8), R[j]? = some l → ∃ a c, us[j]? = some (Value.slice a l.length c) ∧ RB w B a l ∧ l.length ≤ c ∧ c ≤ maxLen := by
 have hone : ∀ j, j < R.length → ∃ u, w.cell? ⟨g, j, none⟩ = some u ∧ u.oneCell' = true ∧ ∀ l, R[j]? = some l → ∃ a c, u = Value.slice a l.length c ∧ RB w B a l ∧ l.length ≤ c ∧ c ≤ maxLen := fun j hj => by
  obtain ⟨g2, a, c, e, hg, hc, hr, hle, hcm⟩ := h j R[j] (List.getElem?_eq_getElem hj)
  obtain rfl : g = g2 := by injection e with e; injection e
  refine ⟨_, hc, rfl, fun l hl => ?_⟩
  rw [List.getElem?_eq_getElem hj] at hl
  obtain rfl := Option.some.inj hl
  exact ⟨a, c, rfl, hr, hle, hcm⟩
 refine ⟨(List.range R.length).map fun j => (w.cell? ⟨g, j, none⟩).getD undef, by simp, fun j u hj => ?_, fun u hu => ?_, fun j l hl => ?_⟩
 · rw [List.getElem?_map] at hj
   rcases Nat.lt_or_ge j R.length with c | c
   · rw [List.getElem?_range c] at hj
     obtain ⟨u2, h2, -, -⟩ := hone j c
     rw [h2]
     simpa [h2] using hj
   · rw [List.getElem?_eq_none (by simpa using c)] at hj; cases hj
 · obtain ⟨j, hj, rfl⟩ := List.mem_map.1 hu
   obtain ⟨u2, h2, h3, -⟩ := hone j (by simpa using hj)
   rw [h2]; exact h3
 · have hj := (List.getElem?_eq_some_iff.1 hl).1
   obtain ⟨u2, h2, -, h4⟩ := hone j hj
   obtain ⟨a, c, e, x⟩ := h4 l hl
   refine ⟨a, c, ?_, x⟩
   rw [List.getElem?_map, List.getElem?_range hj]
   show some ((w.cell? ⟨g, j, none⟩).getD undef) = _
   rw [h2, e]; rfl
theorem wp_append_none {op : Oper} {a : Act} {w : World} {K : Act → World → Prop} {Q : Exit → Act → World → Prop} (x y : Operand) (ho : op.op = .call { callee := .builtin .append, args := #[x, y], argTypes := #[73, 73] })
 (hx : a.eval x = .slice none 0 0) (g m c : Nat) (hy : a.eval y = .slice (some ⟨g, 0, none⟩) m c) (R : List (List UInt8)) (hR : R.length = m) (hr : RR w w.heap.size (some ⟨g, 0, none⟩) R) (hm9 : m ≤ 2000)
 (hk : ∀ A' c' w', RP w' w'.heap.size A' R → Below w.heap.size w w' → K (a.put op.dst (.slice A' m c')) w') : op.wp Tryz.prog a w K Q := by
 obtain ⟨us, hl, hu, h1, he⟩ := hr.vals
 obtain ⟨i0, hi0, hz0, hz1, hz2⟩ := info_parts bs_info
 have hrow : w.ownsRow w.heap.size 33 1 (.slice none 0 0) 0 [] := World.ownsRow_nil _ _ _ _
 obtain ⟨v', w', hrun, h2, h3, h4, h5⟩ := run_append_own_at (P := Tryz.prog) w w.heap.size 73 op.type 33 i0 (.slice none 0 0) 1 24 Tryz.underlying73 hi0 hz0 hz1 hz2 rfl (by decide) (.slice none 0 0) 0 [] hrow ⟨g, 0, none⟩ m c us (by rw [hl, hR, Nat.mul_one]) (fun j u hj => by rw [Addr.add_lit, Nat.zero_add]; exact hu j u hj) h1 (by unfold maxLen; omega) (by omega) (nl _)
 have hbl : Below w.heap.size w w' := (bR _ w).grown h3 (nl _) (fun k e => by cases e)
 rw [List.nil_append, Nat.zero_add, ← hR, ← hl] at h2
 obtain ⟨A', c', e, hp⟩ := rows_read (R := R) h2 hl (fun j l hj => by
  obtain ⟨a2, c2, q1, q2, q3, q4⟩ := he j l hj
  exact ⟨a2, c2, q1, (q2.below hbl).more hbl.size, q3, q4⟩)
 subst e
 have h9 := hk A' c' w' hp hbl
 rw [← hR] at h9
 unfold Oper.wp execOp
 simp only [ho, resolve, invoke, builtin, Sem.run_bind, Sem.run_pure, Result.andThen_ok, List.map_toArray, List.map_cons, List.map_nil, hx, hy, hrun]
 exact h9
def showP (C : Cf) (T : ByteArray) (os : List O4) (tb : List UInt8) (s : Pl) (g : List Int) (p0 : Nat) : List Int × Nat :=
 if s.head C ≤ frontP s.L then (g, frontP s.L) else (fdN T os ((frontP s.L : Nat) : Int) (rowsP ⟨C.g.toNat, C.o.toNat, tb⟩ 0 (s.head C) s.L (frontP s.L) p0) g (s.head C - frontP s.L), s.head C)
theorem byInfo3 : (Tryz.prog.info? 146).map (·.size) = some 3 := by kernel_rfl
theorem at_ahead {w0 w : World} {C : Cf} {c q : Nat} {s : Pl} {O : Nat → Prop} (hf : Fit C) (h : At w0 w C c q s O) {m : Nat} (hok : Ok C m s) (F : Nat) (hF : frontP s.L = F) (z o : Int) (A : Option Addr) (X cp : Nat) (tb : List UInt8) (hp : PM w A tb X cp) (hmay : mayB z o X = true) (t : Nat) (hFt : F < t) (ht : t ≤ 1000) (p0 : Nat) (hp0 : First s.L F p0) :
 Calls Tryz.prog 110 #[pB q, .agg #[.int .i64 z, .int .i64 o, .slice A X cp], .int .i64 0, .int .i64 (t : Int)] w fun e w' => ∃ g c', e = .returned (.slice (some ⟨g, 0, none⟩) (t - F) c') ∧ RR w' w'.heap.size (some ⟨g, 0, none⟩) (rowsP ⟨z.toNat, o.toNat, tb⟩ 0 t s.L F p0) ∧ Below w.heap.size w w' := by
 obtain ⟨K, rfl, rfl, rfl, rfl, h1, h2⟩ := h
 have hl := hok.L
 have hR : aheadG true ⟨z.toNat, o.toNat, tb⟩ 0 (t : Int) (K.xs.map Ln.l) F p0 = rowsP ⟨z.toNat, o.toNat, tb⟩ 0 t K.s.L F p0 := by
  unfold aheadG
  rw [if_pos ⟨by omega, by omega, by omega, rfl⟩, h1.ln]
  rfl
 refine (ahead_gen w K.q K.r K.xs h1.qf.qm K.C.n (by rw [h1.xlen, hl]) hf.1 hf.2.1 F (by rw [frontN_P, h1.ln]; exact hF) z o A X cp tb hp 0 (t : Int) p0 (fun _ => by rw [h1.ln]; exact hp0) true hmay _ hR).mono fun e w' ⟨A', c', he, hr, hb⟩ => ?_
 have hlen := rowsP_len ⟨z.toNat, o.toNat, tb⟩ 0 t K.s.L F p0
 obtain ⟨g, a, cc, e1, -⟩ := hr 0 _ (List.getElem?_eq_getElem (show 0 < (rowsP ⟨z.toNat, o.toNat, tb⟩ 0 t K.s.L F p0).length by rw [hlen]; omega))
 subst e1
 rw [hlen] at he
 exact ⟨g, c', he, hr, hb⟩
section
variable {w0 w : World} {P : Pc} {s : Pl} {g : List Int} {n : Nat} {O : Nat → Prop} {m : Nat}
set_option maxHeartbeats 4000000 in
theorem pdisp_any (hp : PFit P) (h : PX w0 w P s g n O) (hok : Ok P.C m s) (hn : frontP s.L = n) (hmay : mayB P.C.g P.C.o P.tb.length = true) (p0 : Nat) (hp0 : n < 1000 → First s.L n p0) (G : List Int) (N : Nat) (hG : showP P.C P.T P.os P.tb s g p0 = (G, N)) :
 Calls Tryz.prog 49 #[pB P.x] w fun e w' => ∃ v, e = .returned (.tuple #[v, .int .i64 (N : Int)]) ∧ OB w' w.heap.size v (gEnc G) ∧ Below w.heap.size w w' := by
 obtain ⟨H, hH⟩ : ∃ H, s.head P.C = H := ⟨_, rfl⟩
 have hn9 : n ≤ 1000 := by rw [← hn]; exact frontP_le _
 have hH9 : H ≤ 1000 := by
  obtain ⟨l, hl, h1⟩ := hok.line P.C.me hp.f.2.2
  rw [← hH, Ok.head_eq hl]; exact h1
 have HCO := qh (fun (W : World) (hW : Below w.heap.size w W) => plain_core W P.x P.c (h.belows hW).core)
 have HQU := qh (fun (W : World) (hW : Below w.heap.size w W) => at_queue (h.belows hW).at_)
 have HHD := qh (fun (W : World) (hW : Below w.heap.size w W) => at_head hp.f (h.belows hW).at_ hok H hH)
 have HFR := qh (fun (W : World) (hW : Below w.heap.size w W) => at_front hp.f (h.belows hW).at_ hok n hn)
 unfold showP at hG
 rw [hn, hH] at hG
 by_cases hle : H ≤ n
 · rw [if_pos hle] at hG
   injection hG with hG1 hG2
   subst hG1 hG2
   have HCF := qh (fun (W : World) (hW : Below w.heap.size w W) => pconf_any hp (h.belows hW) hok hn)
   have hz : (H : Int) ≤ (n : Int) := by omega
   have HR0 : Hid (Below w.heap.size w w) := bR _ _
   clear h hok hn hmay hp0 hp hn9 hH9 hH
   go_enter Tryz.func49, Tryz.ntmps49
   go_wp2_with (first
    | (go_at_call 54; first | (have h99 := HB2.out; clear h99; (with_reducible refine (HCO.out _ HB2.out).mono ?_); rintro e w1 ⟨rfl, rfl⟩) | ((with_reducible refine (HCO.out _ HR0.out).mono ?_); rintro e w1 ⟨rfl, rfl⟩))
    | (go_at_call 59; (with_reducible refine (HQU.out _ HR0.out).mono ?_); rintro e w1 ⟨rfl, rfl⟩)
    | (go_at_call 57; (with_reducible refine (HHD.out _ HR0.out).mono ?_); rintro e w2 ⟨rfl, b2⟩; have HB2 := qh b2; clear b2)
    | (go_at_call 60; (with_reducible refine (HFR.out _ HB2.out).mono ?_); rintro e w1 ⟨rfl, rfl⟩)
    | (go_at_call 46; (with_reducible refine (HCF.out _ HB2.out).mono ?_); rintro e w3 ⟨v3, rfl, o3, b3⟩; have HO3 := qh (o3.less HB2.out.size); have HB3 := qh (HB2.out.trans (b3.mono HB2.out.size)); clear o3 b3))
   go_ret2
   exact ⟨_, rfl, HO3.out, HB3.out⟩
 · rw [if_neg hle] at hG
   injection hG with hG1 hG2
   subst hG2
   obtain ⟨A, cap, htv, hcap, hcm, hrb⟩ := h.table
   obtain ⟨X, hX⟩ : ∃ X, P.tb.length = X := ⟨_, rfl⟩
   rw [hX] at htv hcap hmay
   obtain ⟨R, hR⟩ : ∃ R, rowsP ⟨P.C.g.toNat, P.C.o.toNat, P.tb⟩ 0 H s.L n p0 = R := ⟨_, rfl⟩
   have hRl : R.length = H - n := by rw [← hR]; exact rowsP_len _ _ _ _ _ _
   rw [hR] at hG1
   have hnH : n < H := by omega
   have HAH := qh (fun (W : World) (hW : Below w.heap.size w W) => at_ahead hp.f (h.belows hW).at_ hok n hn P.C.g P.C.o A X cap P.tb ⟨hX, hcap, hcm, (hrb.below hW).more hW.size⟩ hmay H hnH hH9 p0 (hp0 (by omega)))
   rw [hR] at HAH
   have HKN := qh (fun (W : World) (hW : Below w.heap.size w W) => pknown_any hp (h.belows hW) hok n (.inr (nl _)) (n : Int) rfl hn9)
   have HBH := qh (fun (W : World) (hW : Below w.heap.size w W) (PA : Option Addr) (pc : Nat) (hps : RP W W.heap.size PA R) => behind_any hp (h.belows hW) PA R (H - n) pc hRl hps (by omega) hn9 G hG1)
   have HEN : Hid (∀ W, Calls Tryz.prog 108 #[.agg (gC G)] W fun e w' => ∃ v, e = .returned v ∧ OB w' W.heap.size v (gEnc G) ∧ Below W.heap.size W w') := fun W => by
    have hgm : gam G := by rw [← hG1]; exact fdN_gam h.gm _
    exact gencode_any G W hgm.1 hgm.2
   have HRG : Hid (∀ W, Below w.heap.size w W → W.rangeAt P.x 3 [.int .i64 P.C.g, .int .i64 P.C.o, .slice A X cap]) := fun W hW => by
    have := (h.belows hW).row.by_ (by omega)
    rw [htv] at this
    exact this
   have hz : ¬ (H : Int) ≤ (n : Int) := by omega
   have hzd : decide ((H : Int) ≤ (n : Int)) = false := decide_eq_false hz
   have HR0 : Hid (Below w.heap.size w w) := bR _ _
   have HRL := qh hRl
   have HM9 : Hid (H - n ≤ 2000) := by show _ ≤ _; omega
   clear h hok hn hmay hp0 hp hn9 hH9 hH hcap hcm hrb hRl hnH hG1 hX hR htv
   go_enter Tryz.func49, Tryz.ntmps49
   go_upto_region 4 with (first
    | (go_at_call 54; (with_reducible refine (HCO.out _ HR0.out).mono ?_); rintro e w1 ⟨rfl, rfl⟩)
    | (go_at_call 59; (with_reducible refine (HQU.out _ HR0.out).mono ?_); rintro e w1 ⟨rfl, rfl⟩)
    | (go_at_call 57; (with_reducible refine (HHD.out _ HR0.out).mono ?_); rintro e w2 ⟨rfl, b2⟩; have HB2 := qh b2; clear b2)
    | (go_at_call 60; (with_reducible refine (HFR.out _ HB2.out).mono ?_); rintro e w1 ⟨rfl, rfl⟩))
   have HD2 : Hid (Below w.heap.size w w2.drew) := HB2.out.drew
   refine wp_region_held_drew (S := (fun w' => w'.rangeAt P.x 3 [.int .i64 P.C.g, .int .i64 P.C.o, .slice A X cap])) (by kernel_rfl) (HRG.out _ HD2.out) (fun hHeld => ?_)
   refine htk (i := 0) (v := ?_) rfl (by kernel_rfl) (fun _ _ _ h => h) (by rfl) hHeld ?_ ?_
   rotate_left 1
   · (intro w hSw; (try dsimp only at hSw); go_simp; try (with_reducible rfl))
   try simp only [Act.put, nB, nC, nD]
   refine htk (i := 1) (v := ?_) rfl (by kernel_rfl) (fun _ _ _ h => h) (by rfl) hHeld ?_ ?_
   rotate_left 1
   · (intro w hSw; (try dsimp only at hSw); go_simp; try (with_reducible rfl))
   try simp only [Act.put, nB, nC, nD]
   refine htk (i := 4) (v := ?_) rfl (by kernel_rfl) (fun _ _ _ h => h) (by rfl) hHeld ?_ ?_
   rotate_left 1
   · (intro w hSw; (try dsimp only at hSw); go_simp; try (with_reducible rfl))
   try simp only [Act.put, nB, nC, nD]
   refine htk (i := 5) (v := ?_) rfl (by kernel_rfl) (fun _ _ _ h => h) (by rfl) hHeld ?_ ?_
   rotate_left 1
   · (intro w hSw; (try dsimp only at hSw); go_simp; try (with_reducible rfl))
   try simp only [Act.put, nB, nC, nD]
   refine htk (i := 6) (v := ?_) rfl (by kernel_rfl) (fun _ _ _ h => h) (by rfl) hHeld ?_ ?_
   rotate_left 1
   · (intro w hSw; (try dsimp only at hSw); go_simp; try (with_reducible rfl))
   try simp only [Act.put, nB, nC, nD]
   refine htk (i := 7) (v := ?_) rfl (by kernel_rfl) (fun _ _ _ h => h) (by rfl) hHeld ?_ ?_
   rotate_left 1
   · (intro w hSw; (try dsimp only at hSw); go_simp; try (with_reducible rfl))
   try simp only [Act.put, nB, nC, nD]
   refine htk (i := 8) (v := .agg #[.int .i64 P.C.g, .int .i64 P.C.o, .slice A X cap]) rfl (by kernel_rfl) (fun _ _ _ h => h) (by rfl) hHeld (fun W hW => exec_load_mid 146 _ rfl P.x 3 (by rfl) _ _ Tryz.underlying146 rfl (by rw [byInfo3]; rfl) W hW) ?_
   try simp only [Act.put, nB, nC, nD]
   refine htk (i := 9) (v := ?_) rfl (by kernel_rfl) (fun _ _ _ h => h) (by rfl) hHeld ?_ ?_
   rotate_left 1
   · (intro w hSw; (try dsimp only at hSw); go_simp; try (with_reducible rfl))
   try simp only [Act.put, nB, nC, nD]
   refine held_one (i := 2) rfl (by kernel_rfl) (by rfl) (fun K hK => ?_)
   go_simp
   (with_reducible refine (HFR.out _ HD2.out).mono ?_)
   rintro e w3 ⟨rfl, rfl⟩
   refine hK.out _ _ (HRG.out _ HD2.out) (fun hHeld2 => ?_)
   clear hK K hHeld; have hHeld := hHeld2; clear hHeld2
   try simp only [Act.put, nB, nC, nD]
   refine held_one (i := 3) rfl (by kernel_rfl) (by rfl) (fun K hK => ?_)
   go_simp
   (with_reducible refine (HKN.out _ HD2.out).mono ?_)
   rintro e w4 ⟨v4, ms4, rfl, -, -, b4, n4⟩
   obtain rfl := n4 (nl _)
   have HB4 := qh (HD2.out.trans (b4.mono HD2.out.size))
   clear b4 n4
   refine hK.out _ _ (HRG.out _ HB4.out) (fun hHeld2 => ?_)
   clear hK K hHeld; have hHeld := hHeld2; clear hHeld2
   try simp only [Act.put, nB, nC, nD]
   refine held_one (i := 10) rfl (by kernel_rfl) (by rfl) (fun K hK => ?_)
   go_simp
   (with_reducible refine (HAH.out _ HB4.out).mono ?_)
   rintro e w5 ⟨g5, c5, rfl, r5, b5⟩
   have HR5 := qh r5
   have HB5 := qh (HB4.out.trans (b5.mono HB4.out.size))
   clear r5 b5
   refine hK.out _ _ (HRG.out _ HB5.out) (fun hHeld2 => ?_)
   clear hK K hHeld; have hHeld := hHeld2; clear hHeld2
   try simp only [Act.put, nB, nC, nD]
   refine held_one (i := 11) rfl (by kernel_rfl) (by rfl) (fun K hK => ?_)
   refine wp_append_none (.tmp 24) (.tmp 31) rfl (by rfl) g5 (H - n) c5 (by rfl) R HRL.out HR5.out HM9.out ?_
   intro A6 c6 w6 p6 b6
   have HP6 := qh p6
   have HB6 := qh (HB5.out.trans (b6.mono HB5.out.size))
   clear p6 b6
   refine hK.out _ _ (HRG.out _ HB6.out) (fun hHeld2 => ?_)
   clear hK K hHeld; have hHeld := hHeld2; clear hHeld2
   try simp only [Act.put, nB, nC, nD]
   refine htk (i := 12) (v := ?_) rfl (by kernel_rfl) (fun _ _ _ h => h) (by rfl) hHeld ?_ ?_
   rotate_left 1
   · (intro w hSw; (try dsimp only at hSw); go_simp; try (with_reducible rfl))
   try simp only [Act.put, nB, nC, nD]
   refine wpAnyH_done (by kernel_rfl) ?_ _
   clear hHeld
   go_wp2_with (first | (go_at_call 106; (with_reducible refine (HBH.out _ HB6.out A6 c6 HP6.out).mono ?_); rintro e w7 ⟨rfl, b7⟩; have HB7 := qh (HB6.out.trans (b7.mono HB6.out.size)); clear b7) | (go_at_call 108; (with_reducible refine (HEN.out _).mono ?_); rintro e w8 ⟨v8, rfl, o8, b8⟩; have HO8 := qh (o8.less HB7.out.size); have HB8 := qh (HB7.out.trans (b8.mono HB7.out.size)); clear o8 b8))
   go_ret2
   exact ⟨_, rfl, HO8.out, HB8.out⟩
end
end Go.Proofs.YtpnobpligchpiaaGreatDoor
