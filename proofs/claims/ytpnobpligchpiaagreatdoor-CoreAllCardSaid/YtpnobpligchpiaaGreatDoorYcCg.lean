/- texts of YcCg -/
import Derived.Deep.MidRow
import Derived.Test.YtpnobpligchpiaaGreatDoorYcCb
import Derived.Test.YtpnobpligchpiaaGreatDoorYcCd
import Derived.Test.YtpnobpligchpiaaGreatDoorYcCe
import Derived.Test.YtpnobpligchpiaaGreatDoorYcCf
import Derived.Test.YtpnobpligchpiaaGreatDoorYcQ
import Derived.Test.YtpnobpligchpiaaGreatDoorYcV
namespace Go.Proofs.YtpnobpligchpiaaGreatDoor
set_option maxRecDepth 100000
open Go.RowKit
set_option linter.unusedVariables false
set_option linter.unusedSimpArgs false
theorem doc_receive (UN : UnpOwn) (w0 w : World) (K : Dm) (h : DM w0 w K) {kc : Nat} (hkc : K.c = kc) (m : Nat) (hok : Ok K.C m K.s) (hm9 : m ≤ 10000) (h0 : 0 < K.C.n) (h8 : K.C.n ≤ 8) (hme : K.C.me < K.C.n) (A : Option Addr) (l : List UInt8) (n c : Nat) (hr : RB w w.heap.size A l) (hn : l.length = n) (hc : n ≤ c) (hm : c ≤ maxLen) (hl : n ≤ 4096)
    (o : Option Pk) (ho : Told l o) (a : Int) (s' : Pl) (hp : recvP K.C K.s o = (a, s')) :
    Calls Tryz.prog 25 #[pB kc, .slice A n c] w fun e w' => e = .returned (.int .i64 a) ∧ GoesD w0 w K w' s' := by
  unfold recvP at hp
  by_cases hcz : K.s.cl = true
  · rw [if_pos hcz] at hp
    injection hp with ea es
    subst ea es
    refine (doc_recv_closed w kc (by rw [← hkc, ← hcz]; exact h.cell 18 _ rfl) _).mono ?_
    rintro e w' ⟨rfl, rfl⟩
    exact ⟨rfl, h.goes (Below.refl _ _)⟩
  · rw [if_neg hcz] at hp
    have hcf : K.s.cl = false := by simpa using hcz
    cases o with
    | none =>
      injection hp with ea es
      subst ea es
      exact doc_recv_none w0 w K h hkc hcf A l n c hr hn hc hm hl ho
    | some p =>
      by_cases hfm : forMe K.C p
      · simp only [if_pos hfm] at hp
        injection hp with ea es
        subst ea es
        by_cases hk : p.k = 1
        · exact doc_recv_input UN w0 w K h hkc hcf m hok hm9 h0 h8 hme A l n c hr hn hc hm hl p ho hfm hk
        · exact doc_recv_quit UN w0 w K h hkc hcf m hok hm9 h0 h8 hme A l n c hr hn hc hm hl p ho hfm hk
      · simp only [if_neg hfm] at hp
        injection hp with ea es
        subst ea es
        exact doc_recv_other UN w0 w K h hkc hcf A l n c hr hn hc hm hl p ho hfm
theorem DM.same {w0 w w' : World} {K : Dm} (h : DM w0 w K) (hb : Below w0.heap.size w0 w') (hs : ∀ k, DB K k → w'.heap[k]? = w.heap[k]?) : DM w0 w' K :=
  ⟨⟨hb, fun i k o hi => ⟨(h.bu.get i k o hi).1, (hs k (.inr (ent_DO hi))).trans (h.bu.get i k o hi).2⟩, h.bu.inj⟩, h.km, h.ke, h.lr.same fun k hk => hs k (.inl hk), h.ln, h.far⟩
def Duo (w0 w : World) (C : Cf) (c q d : Nat) (s t : Pl) (O : Nat → Prop) : Prop :=
  ∃ K : Dm, K.C = C ∧ K.c = d ∧ K.s = t ∧ DM w0 w K ∧ At w0 w C c q s (fun k => DB K k ∨ O k) ∧ ∀ k, O k → ¬ DB K k
section
variable {w0 w w' : World} {C : Cf} {c q d : Nat} {s t s' t' : Pl} {O O' : Nat → Prop}
theorem Duo.be (h : Duo w0 w C c q d s t O) : Below w0.heap.size w0 w := by obtain ⟨K, -, -, -, h, -⟩ := h; exact h.be
theorem Duo.ob (h : Duo w0 w C c q d s t O) : ∀ k, O k → w0.heap.size ≤ k ∧ k < w.heap.size := by obtain ⟨K, -, -, -, -, h, -⟩ := h; exact fun k hk => h.ob k (.inr hk)
theorem Duo.less (h : Duo w0 w C c q d s t O) (ho : ∀ k, O' k → O k) : Duo w0 w C c q d s t O' := by
  obtain ⟨K, a, b, e, h1, h2, h3⟩ := h
  exact ⟨K, a, b, e, h1, h2.less (fun k hk => hk.imp id (ho k)), fun k hk => h3 k (ho k hk)⟩
theorem Duo.belows (h : Duo w0 w C c q d s t O) (hb : Below w.heap.size w w') : Duo w0 w' C c q d s t O := by
  obtain ⟨K, a, b, e, h1, h2, h3⟩ := h
  exact ⟨K, a, b, e, h1.belows hb, h2.belows hb, h3⟩
theorem Duo.grab (h : Duo w0 w C c q d s t O) (hb : Below w.heap.size w w') : Duo w0 w' C c q d s t (Grab O w w') := by
  obtain ⟨K, a, b, e, h1, h2, h3⟩ := h
  refine ⟨K, a, b, e, h1.belows hb, (h2.grab hb).less (fun k hk => ?_), fun k hk hd => ?_⟩
  · rcases hk with hk | hk | hk
    · exact .inl (.inl hk)
    · exact .inl (.inr hk)
    · exact .inr hk
  · rcases hk with hk | hk
    · exact h3 k hk hd
    · have := (h1.lt hd).2; omega
theorem Duo.prog (h : ∃ K : Dm, K.C = C ∧ K.c = d ∧ K.s = t ∧ DM w0 w K ∧ (∀ k, O k → ¬ DB K k) ∧ At w0 w' C c q s' (fun k => DB K k ∨ O k) ∧ Same (fun k => DB K k ∨ O k) w w') : Duo w0 w' C c q d s' t O ∧ Same O w w' := by
  obtain ⟨K, a, b, e, h1, h2, h3, h4⟩ := h
  exact ⟨⟨K, a, b, e, h1.same h3.be (fun k hk => h4 k (.inl hk)), h3, h2⟩, fun k hk => h4 k (.inr hk)⟩
theorem Duo.doc {K : Dm} (a : K.C = C) (b : K.c = d) (h1 : DM w0 w K) (h2 : At w0 w C c q s (fun k => DB K k ∨ O k)) (h3 : ∀ k, O k → ¬ DB K k) (g : GoesO w0 w K w' t' O') (ho : ∀ k, O' k → O k ∨ w.heap.size ≤ k) : Duo w0 w' C c q d s t' O' ∧ Same O w w' := by
  obtain ⟨K', e1, e2, e3, H1, L1, N1, X1⟩ := g
  obtain ⟨Kc, q1, q2, q3, q4, hc, hx⟩ := h2
  have hcm : CM w0 w' Kc := hc.keep L1 (fun k hk => (h1.lt hk).1) (fun k hk hd => (hx k (.inl hd)).2.2 hk)
  refine ⟨⟨K', e2.trans a, e3.trans b, e1, H1, ⟨Kc, q1, q2, q3, q4, hcm, fun k hk => ?_⟩, fun k hk => (X1 k hk).2⟩, fun k hk => L1.block k (hx k (.inr hk)).2.1 (h3 k hk)⟩
  have hlt : ∀ k, w.heap.size ≤ k → ¬ CB Kc k := fun k hk e => by have := (hc.lt e).2; omega
  rcases hk with hk | hk
  · refine ⟨(H1.lt hk).1, (H1.lt hk).2, ?_⟩
    exact (N1 k hk).elim (fun e => (hx k (.inl e)).2.2) (hlt k)
  · rcases ho k hk with e | e
    · exact ⟨(hx k (.inr e)).1, (X1 k hk).1, (hx k (.inr e)).2.2⟩
    · exact ⟨Nat.le_trans hc.be.size e, (X1 k hk).1, hlt k e⟩
end
theorem lv_refl (w : World) (B : Nat → Prop) : Lv w w B := Lv.of_below (Below.refl _ _)
theorem GoesD.beside {w0 w w' : World} {K : Dm} {s' : Pl} {O : Nat → Prop} (g : GoesD w0 w K w' s') (h : ∀ k, O k → k < w.heap.size ∧ ¬ DB K k) : GoesO w0 w K w' s' O :=
  (goeso_then (lv_refl w _) (fun k hk => .inl hk) h rfl rfl g).1
theorem GoesO.add {w0 w w' : World} {K : Dm} {s' : Pl} {O O' : Nat → Prop} (g : GoesO w0 w K w' s' O') (h : ∀ k, O k → k < w.heap.size ∧ ¬ DB K k) : GoesO w0 w K w' s' (fun k => O k ∨ O' k) := by
  obtain ⟨K', e1, e2, e3, H1, L1, N1, X1⟩ := g
  refine ⟨K', e1, e2, e3, H1, L1, N1, fun k hk => ?_⟩
  rcases hk with hk | hk
  · exact ⟨Nat.lt_of_lt_of_le (h k hk).1 L1.size, fun e => (N1 k e).elim (h k hk).2 (fun e2 => by have := (h k hk).1; omega)⟩
  · exact X1 k hk
section
variable {w0 w : World} {C : Cf} {c q d : Nat} {s t s' t' : Pl} {O : Nat → Prop} {P : Program} {f : Nat} {args : Array Value}
theorem duo_prog {Φ : Ending → World → Prop} (h : Duo w0 w C c q d s t O) (H : ∀ Kc : Cm, Kc.C = C → Kc.c = c → Kc.q = q → Kc.s = s → CM w0 w Kc → Calls P f args w fun e w' => Φ e w' ∧ Goes w0 w Kc w' s') :
    Calls P f args w fun e w' => Φ e w' ∧ Duo w0 w' C c q d s' t O ∧ Same O w w' := by
  obtain ⟨K, a, b, e, h1, ⟨Kc, q1, q2, q3, q4, hc, hx⟩, h3⟩ := h
  exact (H Kc q1 q2 q3 q4 hc).mono fun en w' ⟨he, g⟩ => ⟨he, by
    obtain ⟨A, S⟩ := At.goes q1 q2 q3 hc hx g
    exact Duo.prog ⟨K, a, b, e, h1, h3, A, S⟩⟩
theorem duo_progB {xs : List (Nat × List UInt8)} (h : Duo w0 w C c q d s t O) (H : ∀ Kc : Cm, Kc.C = C → Kc.c = c → Kc.q = q → Kc.s = s → CM w0 w Kc → Calls P f args w fun e w' => ∃ v B, e = .returned v ∧ Tells w' B v Kc.C.me xs ∧ GoesB w0 w Kc w' s' B) :
    Calls P f args w fun e w' => ∃ v B, e = .returned v ∧ Tells w' B v C.me xs ∧ w.heap.size ≤ B ∧ B ≤ w'.heap.size ∧ Duo w0 w' C c q d s' t (With O B w'.heap.size) ∧ Same O w w' := by
  obtain ⟨K, a, b, e, h1, ⟨Kc, q1, q2, q3, q4, hc, hx⟩, h3⟩ := h
  refine (H Kc q1 q2 q3 q4 hc).mono fun en w' ⟨v, B, he, ht, g⟩ => ?_
  have hB : w.heap.size ≤ B := by obtain ⟨K', -, -, -, -, -, -, -, -, g5⟩ := g; exact g5
  obtain ⟨A, S⟩ := At.goesB q1 q2 q3 hc hx g
  rw [q1] at ht
  refine ⟨v, min B w'.heap.size, he, ?_, ?_, Nat.min_le_right _ _, ?_⟩
  · obtain ⟨ms, m1, m2⟩ := ht
    exact ⟨ms, ⟨m1.wr, fun k hk => Nat.le_trans (Nat.min_le_left _ _) (m1.ge k hk), fun m hm => ⟨(m1.ob m hm).1.less (Nat.min_le_left _ _), (m1.ob m hm).2⟩⟩, m2⟩
  · have hw : w.heap.size ≤ w'.heap.size := by obtain ⟨K', -, -, -, -, -, g2, -, -, -⟩ := g; exact g2.size
    omega
  · obtain ⟨D, S2⟩ := Duo.prog (O := O) ⟨K, a, b, e, h1, h3, A.less (fun k hk => .inl hk), S⟩
    refine ⟨⟨K, a, b, e, h1.same A.be (fun k hk => S k (.inl hk)), A.less (fun k hk => ?_), fun k hk hd => ?_⟩, S2⟩
    · rcases hk with hk | hk | hk
      · exact .inl (.inl hk)
      · exact .inl (.inr hk)
      · exact .inr ⟨by omega, hk.2⟩
    · rcases hk with hk | hk
      · exact h3 k hk hd
      · have h9 := (h1.lt hd).2
        have := hk.1; have := hk.2; omega
theorem duo_doc {Φ : Ending → World → Prop} (h : Duo w0 w C c q d s t O) (H : ∀ K : Dm, K.C = C → K.c = d → K.s = t → DM w0 w K → Calls P f args w fun e w' => Φ e w' ∧ GoesD w0 w K w' t') :
    Calls P f args w fun e w' => Φ e w' ∧ Duo w0 w' C c q d s t' O ∧ Same O w w' := by
  obtain ⟨K, a, b, e, h1, h2, h3⟩ := h
  exact (H K a b e h1).mono fun en w' ⟨he, g⟩ => ⟨he, Duo.doc a b h1 h2 h3 (g.beside (fun k hk => ⟨(h2.ob k (.inr hk)).2, h3 k hk⟩)) (fun k hk => .inl hk)⟩
theorem duo_docT {xs : List (Nat × List UInt8)} (h : Duo w0 w C c q d s t O) (H : ∀ K : Dm, K.C = C → K.c = d → K.s = t → DM w0 w K → Calls P f args w fun e w' => ∃ v, e = .returned v ∧ DTold w0 w K w' t' xs v) :
    Calls P f args w fun e w' => ∃ v B, e = .returned v ∧ DTells w' B v C.me xs ∧ w.heap.size ≤ B ∧ Duo w0 w' C c q d s t' (With O B w'.heap.size) ∧ Same O w w' := by
  obtain ⟨K, a, b, e, h1, h2, h3⟩ := h
  refine (H K a b e h1).mono fun en w' ⟨v, he, B, h4, h5, g⟩ => ?_
  rw [a] at h4
  refine ⟨v, B, he, h4, h5, ?_⟩
  obtain ⟨D, S⟩ := Duo.doc (O' := With O B w'.heap.size) a b h1 h2 h3 (g.add (fun k hk => ⟨(h2.ob k (.inr hk)).2, h3 k hk⟩)) (fun k hk => hk.imp id (fun e => Nat.le_trans h5 e.1))
  exact ⟨D, S⟩
theorem duo_told (h : Duo w0 w C c q d s t O) : Calls Tryz.prog 34 #[pB d] w fun e w' => ∃ v, e = .returned v ∧ RwO w' w0.heap.size v t.es ∧ Duo w0 w' C c q d s (toldP t) O ∧ Same O w w' := by
  have h9 := h
  have := duo_doc (Φ := fun e w' => ∃ v, e = .returned v ∧ RwO w' w0.heap.size v t.es) (t' := toldP t) (P := Tryz.prog) (f := 34) (args := #[pB d]) h (fun K a b e h1 => by
    subst b e
    refine (doc_told w K.c K.ev (h1.cell 17 _ rfl) (h1.fz 17)).mono ?_
    rintro en w' ⟨rfl, rfl⟩
    refine ⟨⟨_, rfl, ?_⟩, h1.set_told⟩
    have hr : w.ownsRow w0.heap.size 119 3 K.ev K.s.es.length (rwsL K.s.es) := h1.bu.owns h1.ke (i := 6) rfl
    refine ownsRow_same hr fun k hk => Below.heap_setCell _ _ _ _ (fun e2 => ?_)
    have e3 : k = K.c := e2
    have h7 : K.E[6]? = some (some K.c, K.eo) := by rw [← e3, ← hk]; rfl
    have := h1.bu.inj 0 6 K.c _ _ rfl h7
    omega)
  exact this.mono fun e w' ⟨⟨v, he, hr⟩, h2, h3⟩ => ⟨v, he, hr, h2, h3⟩
end
theorem exec_conv {op : Oper} {a : Act} {t1 t2 : TypeId} (x : Operand) (ho : op.op = .convert t1 t2 x) (v : Value) (hx : a.eval x = v) (u : Value) (w : World) (hrun : (convert t1 t2 v).run Tryz.prog w = .ok u w) : (execOp a.eval op).run Tryz.prog w = .ok (.value u) w := by
  unfold execOp
  simp only [ho, hx, Sem.run_bind, Sem.run_pure, Result.andThen_ok, hrun]
theorem wp_conv {op : Oper} {a : Act} {K : Act → World → Prop} {Q : Exit → Act → World → Prop} {t1 t2 : TypeId} {w : World} (x : Operand) (ho : op.op = .convert t1 t2 x) (v : Value) (hx : a.eval x = v) (u : Value) (hrun : (convert t1 t2 v).run Tryz.prog w = .ok u w) (hk : K (a.put op.dst u) w) : op.wp Tryz.prog a w K Q := by
  unfold Oper.wp execOp
  simp only [ho, hx, Sem.run_bind, Sem.run_pure, Result.andThen_ok, hrun]
  exact hk
set_option maxHeartbeats 8000000 in
theorem same_any (w0 w : World) (C : Cf) (c q d : Nat) (s : Pl) (O : Nat → Prop) (hf : Fit C) (h : Duo w0 w C c q d s s O) (m : Nat) (hok : Ok C m s) :
    Calls Tryz.prog 35 #[pB c, pB d] w fun e w' => e = .returned (.bool true) ∧ Below w.heap.size w w' := by
  obtain ⟨N, hN⟩ : ∃ N, C.n = N := ⟨_, rfl⟩
  obtain ⟨H, hH⟩ : ∃ H, s.head C = H := ⟨_, rfl⟩
  obtain ⟨F, hF⟩ : ∃ F, frontP s.L = F := ⟨_, rfl⟩
  obtain ⟨M, hM⟩ : ∃ M, s.ms.length = M := ⟨_, rfl⟩
  obtain ⟨cl, hcl⟩ : ∃ cl, s.cl = cl := ⟨_, rfl⟩
  have HA : Hid (∀ W, Below w.heap.size w W → ∃ O', At w0 W C c q s O') := fun W hW => by
    obtain ⟨K, a, b, e, h1, h2, h3⟩ := h.belows hW; exact ⟨_, h2⟩
  have HD : Hid (∃ K : Dm, K.C = C ∧ K.c = d ∧ K.s = s ∧ ∀ W, Below w.heap.size w W → DM w0 W K) := by
    obtain ⟨K, a, b, e, h1, h2, h3⟩ := h
    exact ⟨K, a, b, e, fun W hW => h1.belows hW⟩
  obtain ⟨K, eC, ec, es, hd⟩ := HD.out
  have hLn : s.L.length = N := hok.L.trans hN
  have hN0 : 0 < N := by have := hf.1; omega
  have hN8 : N ≤ 8 := by have := hf.2.1; omega
  obtain ⟨g, cap, cur, hlv, -, -, -, -⟩ := (hd w (Below.refl _ _)).lines (by rw [es]; omega) N (by rw [es]; exact hLn)
  obtain ⟨A, capm, hmv, -, -⟩ := (hd w (Below.refl _ _)).marks
  rw [es, hM] at hmv
  obtain ⟨lm, hlm, -⟩ := hok.line C.me hf.2.2
  have HH1 : Hid (∀ W, Below w.heap.size w W → Calls Tryz.prog 57 #[pB c] W fun e w' => e = .returned (.int .i64 (H : Int)) ∧ Below W.heap.size W w') := fun W hW => by
    obtain ⟨O', hA⟩ := HA.out W hW; exact at_head hf hA hok H hH
  have HH2 : Hid (∀ W, Below w.heap.size w W → Calls Tryz.prog 69 #[pB d] W fun e w' => e = .returned (.int .i64 (H : Int)) ∧ Below W.heap.size W w') := fun W hW => by
    have := doc_head w0 W K (hd W hW) lm (by rw [es, eC]; exact hlm) (by rw [es, eC, hLn, hN]) H (by rw [← hH, Ok.head_eq hlm])
    rw [ec] at this
    exact this.mono fun e w' ⟨he, hw⟩ => ⟨he, by rw [hw]; exact (Below.refl _ _).drew⟩
  have HQ1 : Hid (∀ W, Below w.heap.size w W → Calls Tryz.prog 59 #[pB c] W fun e w' => e = .returned (pB q) ∧ W = w') := fun W hW => by
    obtain ⟨O', hA⟩ := HA.out W hW; exact at_queue hA
  have HF1 : Hid (∀ W, Below w.heap.size w W → Calls Tryz.prog 60 #[pB q] W fun e w' => e = .returned (.int .i64 (F : Int)) ∧ W = w') := fun W hW => by
    obtain ⟨O', hA⟩ := HA.out W hW; exact at_front hf hA hok F hF
  have HF2 : Hid (∀ W, Below w.heap.size w W → Calls Tryz.prog 70 #[pB d] W fun e w' => e = .returned (.int .i64 (F : Int)) ∧ W = w') := fun W hW => by
    have := doc_front w0 W K (hd W hW) (by rw [es]; omega) (by rw [es]; omega) (by rw [es]; exact hok.ll) F (by rw [es]; exact hF)
    rw [ec] at this
    exact this
  have HM1 : Hid (∀ W, Below w.heap.size w W → Calls Tryz.prog 58 #[pB c] W fun e w' => e = .returned (.int .i64 (M : Int)) ∧ W = w') := fun W hW => by
    obtain ⟨O', hA⟩ := HA.out W hW; exact at_marks hA M hM
  have HC1 : Hid (∀ W, Below w.heap.size w W → Calls Tryz.prog 61 #[pB c] W fun e w' => e = .returned (.bool cl) ∧ W = w') := fun W hW => by
    obtain ⟨O', hA⟩ := HA.out W hW; exact at_closed hA cl hcl
  have HCE : Hid (∀ W, Below w.heap.size w W → W.cell? ⟨d, 16, none⟩ = some (.slice A M capm) ∧ W.cell? ⟨d, 18, none⟩ = some (.bool cl)) := fun W hW => by
    have a1 := (hd W hW).cell 16 _ rfl; have a2 := (hd W hW).cell 18 _ rfl
    rw [ec, hmv] at a1; rw [ec, es, hcl] at a2
    exact ⟨a1, a2⟩
  have HC0 : Hid (∀ W, Below w.heap.size w W → W.cell? ⟨d, 0, none⟩ = some (.int .i64 (N : Int))) := fun W hW => by
    have a1 := (hd W hW).cell 0 _ rfl
    rw [ec, eC, hN] at a1; exact a1
  have HLI : Hid (∀ k, k < N → ∃ (l : List UInt8) (b : Nat) (A2 : Option Addr) (L c2 : Nat), l.length = L ∧ ∀ W, Below w.heap.size w W →
      (Calls Tryz.prog 67 #[pB q, .int .i64 (k : Int)] W fun e w' => e = .returned (pB b) ∧ W = w') ∧
      (Calls Tryz.prog 92 #[pB b] W fun e w' => ∃ v, e = .returned v ∧ OB w' W.heap.size v l ∧ Below W.heap.size W w') ∧
      W.cell? ⟨d, 10, none⟩ = some (.slice (some ⟨g, 0, none⟩) N cap) ∧ W.cell? ⟨g, k, none⟩ = some (.slice A2 L c2) ∧ (convert 33 9 (.slice A2 L c2)).run Tryz.prog W = .ok (.string (str l)) W) := fun k hk => by
    obtain ⟨l, hl, hl1⟩ := hok.line k (by omega)
    obtain ⟨A2, c2, -, -, hm9, -, -⟩ := (hd w (Below.refl _ _)).line_at hlv k l (by rw [es]; exact hl) l.length rfl
    obtain ⟨O', hA⟩ := HA.out w (Below.refl _ _)
    obtain ⟨Kc, q1, q2, q3, q4, hc, hx⟩ := hA
    obtain ⟨b, hb⟩ := hc.line k l (by rw [q4]; exact hl)
    refine ⟨l, b, A2, l.length, c2, rfl, fun W hW => ?_⟩
    have hcW := hc.belows hW
    have hdW := hd W hW
    have h10 := hdW.cell 10 _ rfl
    rw [ec, hlv] at h10
    have hlr := hdW.lr
    rw [hlv] at hlr
    obtain ⟨A3, c3, z1, z2, z3⟩ := hlr.line_at k _ hm9 l.length rfl
    injection z2 with z4 z5 z6
    subst z4 z6
    refine ⟨?_, all_any W b l.length l ((hcW.qf.qm.line _ _ hb).1) rfl hl1, h10, z1, conv_rb z3 l.length c2 rfl⟩
    have := line_in W Kc.q Kc.r Kc.xs hcW.qf.qm (k : Int) k rfl ⟨b, l⟩ hb
    rw [q3] at this
    exact this
  clear h hok hf HA HD eC ec es hd hLn hlv hmv hlm hN hH hF hM hcl
  have HB0 := Lib.hid (Below.refl w.heap.size w)
  go_enter Tryz.func35, Tryz.ntmps35
  go_wp2_with fail
  have HB1 : Hid (Below w.heap.size w w.drew) := (Below.refl _ _).drew
  refine wp_region_held_drew (S := (fun w' => w'.cell? ⟨d, 16, none⟩ = some (.slice A M capm) ∧ w'.cell? ⟨d, 18, none⟩ = some (.bool cl))) (by kernel_rfl) (HCE.out _ HB1.out) (fun hHeld => ?_)
  refine held_take (i := 0) (v := ?_) rfl (by kernel_rfl) (by kernel_rfl) (by kernel_rfl) (fun _ _ _ h => h) (by rfl) hHeld ?_ ?_
  rotate_left 1
  · (intro w hSw; (try dsimp only at hSw); go_simp; try (with_reducible rfl))
  try simp only [Act.put, nB, nC, nD]
  refine held_take (i := 2) (v := ?_) rfl (by kernel_rfl) (by kernel_rfl) (by kernel_rfl) (fun _ _ _ h => h) (by rfl) hHeld ?_ ?_
  rotate_left 1
  · (intro w hSw; (try dsimp only at hSw); go_simp; try (with_reducible rfl))
  try simp only [Act.put, nB, nC, nD]
  refine held_one (i := 1) rfl (by kernel_rfl) (by rfl) (fun K hK => ?_)
  go_simp
  refine (HH1.out _ HB1.out).mono ?_
  rintro en w2 ⟨rfl, hb⟩
  have HB2 := Lib.hid (HB1.out.trans (hb.mono HB1.out.size))
  clear hb
  refine hK.out _ _ (HCE.out _ HB2.out) (fun hHeld2 => ?_)
  clear hK K hHeld; have hHeld := hHeld2; clear hHeld2
  try simp only [Act.put, nB, nC, nD]
  refine held_one (i := 3) rfl (by kernel_rfl) (by rfl) (fun K hK => ?_)
  go_simp
  refine (HH2.out _ HB2.out).mono ?_
  rintro en w3 ⟨rfl, hb⟩
  have HB3 := Lib.hid (HB2.out.trans (hb.mono HB2.out.size))
  clear hb
  refine hK.out _ _ (HCE.out _ HB3.out) (fun hHeld2 => ?_)
  clear hK K hHeld; have hHeld := hHeld2; clear hHeld2
  try simp only [Act.put, nB, nC, nD]
  refine held_take (i := 4) (v := ?_) rfl (by kernel_rfl) (by kernel_rfl) (by kernel_rfl) (fun _ _ _ h => h) (by rfl) hHeld ?_ ?_
  rotate_left 1
  · (intro w hSw; (try dsimp only at hSw); go_simp; try (with_reducible rfl))
  try simp only [Act.put, nB, nC, nD]
  refine held_take (i := 5) (v := ?_) rfl (by kernel_rfl) (by kernel_rfl) (by kernel_rfl) (fun _ _ _ h => h) (by rfl) hHeld ?_ ?_
  rotate_left 1
  · (intro w hSw; (try dsimp only at hSw); go_simp; try (with_reducible rfl))
  try simp only [Act.put, nB, nC, nD]
  refine held_take (i := 6) (v := ?_) rfl (by kernel_rfl) (by kernel_rfl) (by kernel_rfl) (fun _ _ _ h => h) (by rfl) hHeld ?_ ?_
  rotate_left 1
  · (intro w hSw; (try dsimp only at hSw); go_simp; try (with_reducible rfl))
  try simp only [Act.put, nB, nC, nD]
  refine held_take (i := 9) (v := ?_) rfl (by kernel_rfl) (by kernel_rfl) (by kernel_rfl) (fun _ _ _ h => h) (by rfl) hHeld ?_ ?_
  rotate_left 1
  · (intro w hSw; (try dsimp only at hSw); go_simp; try (with_reducible rfl))
  try simp only [Act.put, nB, nC, nD]
  refine held_one (i := 7) rfl (by kernel_rfl) (by rfl) (fun K hK => ?_)
  go_simp
  refine (HQ1.out _ HB3.out).mono ?_
  rintro en w4 ⟨rfl, rfl⟩
  have HB4 := HB3
  refine hK.out _ _ (hHeld) (fun hHeld2 => ?_)
  clear hK K hHeld; have hHeld := hHeld2; clear hHeld2
  try simp only [Act.put, nB, nC, nD]
  refine held_one (i := 8) rfl (by kernel_rfl) (by rfl) (fun K hK => ?_)
  go_simp
  refine (HF1.out _ HB4.out).mono ?_
  rintro en w5 ⟨rfl, rfl⟩
  have HB5 := HB4
  refine hK.out _ _ (hHeld) (fun hHeld2 => ?_)
  clear hK K hHeld; have hHeld := hHeld2; clear hHeld2
  try simp only [Act.put, nB, nC, nD]
  refine held_one (i := 10) rfl (by kernel_rfl) (by rfl) (fun K hK => ?_)
  go_simp
  refine (HF2.out _ HB5.out).mono ?_
  rintro en w6 ⟨rfl, rfl⟩
  have HB6 := HB5
  refine hK.out _ _ (hHeld) (fun hHeld2 => ?_)
  clear hK K hHeld; have hHeld := hHeld2; clear hHeld2
  try simp only [Act.put, nB, nC, nD]
  refine held_take (i := 11) (v := ?_) rfl (by kernel_rfl) (by kernel_rfl) (by kernel_rfl) (fun _ _ _ h => h) (by rfl) hHeld ?_ ?_
  rotate_left 1
  · (intro w hSw; (try dsimp only at hSw); go_simp; try (with_reducible rfl))
  try simp only [Act.put, nB, nC, nD]
  refine held_take (i := 12) (v := ?_) rfl (by kernel_rfl) (by kernel_rfl) (by kernel_rfl) (fun _ _ _ h => h) (by rfl) hHeld ?_ ?_
  rotate_left 1
  · (intro w hSw; (try dsimp only at hSw); go_simp; try (with_reducible rfl))
  try simp only [Act.put, nB, nC, nD]
  refine held_take (i := 13) (v := ?_) rfl (by kernel_rfl) (by kernel_rfl) (by kernel_rfl) (fun _ _ _ h => h) (by rfl) hHeld ?_ ?_
  rotate_left 1
  · (intro w hSw; (try dsimp only at hSw); go_simp; try (with_reducible rfl))
  try simp only [Act.put, nB, nC, nD]
  refine held_take (i := 14) (v := ?_) rfl (by kernel_rfl) (by kernel_rfl) (by kernel_rfl) (fun _ _ _ h => h) (by rfl) hHeld ?_ ?_
  rotate_left 1
  · (intro w hSw; (try dsimp only at hSw); go_simp; try (with_reducible rfl))
  try simp only [Act.put, nB, nC, nD]
  refine held_take (i := 16) (v := ?_) rfl (by kernel_rfl) (by kernel_rfl) (by kernel_rfl) (fun _ _ _ h => h) (by rfl) hHeld ?_ ?_
  rotate_left 1
  · (intro w hSw; (try dsimp only at hSw); go_simp; try (with_reducible rfl))
  try simp only [Act.put, nB, nC, nD]
  refine held_take (i := 17) (v := ?_) rfl (by kernel_rfl) (by kernel_rfl) (by kernel_rfl) (fun _ _ _ h => h) (by rfl) hHeld ?_ ?_
  rotate_left 1
  · (intro w hSw; (try dsimp only at hSw); go_simp; try (with_reducible rfl))
  try simp only [Act.put, nB, nC, nD]
  refine held_take (i := 18) (v := ?_) rfl (by kernel_rfl) (by kernel_rfl) (by kernel_rfl) (fun _ _ _ h => h) (by rfl) hHeld ?_ ?_
  rotate_left 1
  · (intro w hSw; (try dsimp only at hSw); go_simp; try (with_reducible rfl))
  try simp only [Act.put, nB, nC, nD]
  refine held_take (i := 19) (v := ?_) rfl (by kernel_rfl) (by kernel_rfl) (by kernel_rfl) (fun _ _ _ h => h) (by rfl) hHeld ?_ ?_
  rotate_left 1
  · (intro w hSw; (try dsimp only at hSw); go_simp; try (with_reducible rfl))
  try simp only [Act.put, nB, nC, nD]
  refine held_take (i := 20) (v := ?_) rfl (by kernel_rfl) (by kernel_rfl) (by kernel_rfl) (fun _ _ _ h => h) (by rfl) hHeld ?_ ?_
  rotate_left 1
  · (intro w hSw; (try dsimp only at hSw); go_simp; try (with_reducible rfl))
  try simp only [Act.put, nB, nC, nD]
  refine held_one (i := 15) rfl (by kernel_rfl) (by rfl) (fun K hK => ?_)
  go_simp
  refine (HM1.out _ HB6.out).mono ?_
  rintro en w7 ⟨rfl, rfl⟩
  have HB7 := HB6
  refine hK.out _ _ (hHeld) (fun hHeld2 => ?_)
  clear hK K hHeld; have hHeld := hHeld2; clear hHeld2
  try simp only [Act.put, nB, nC, nD]
  refine held_take (i := 21) (v := ?_) rfl (by kernel_rfl) (by kernel_rfl) (by kernel_rfl) (fun _ _ _ h => h) (by rfl) hHeld ?_ ?_
  rotate_left 1
  · (intro w hSw; (try dsimp only at hSw); go_simp; try (with_reducible rfl))
  try simp only [Act.put, nB, nC, nD]
  refine held_take (i := 22) (v := ?_) rfl (by kernel_rfl) (by kernel_rfl) (by kernel_rfl) (fun _ _ _ h => h) (by rfl) hHeld ?_ ?_
  rotate_left 1
  · (intro w hSw; (try dsimp only at hSw); go_simp; try (with_reducible rfl))
  try simp only [Act.put, nB, nC, nD]
  refine held_take (i := 23) (v := ?_) rfl (by kernel_rfl) (by kernel_rfl) (by kernel_rfl) (fun _ _ _ h => h) (by rfl) hHeld ?_ ?_
  rotate_left 1
  · (intro w hSw; (try dsimp only at hSw); go_simp; try (with_reducible rfl))
  try simp only [Act.put, nB, nC, nD]
  refine held_take (i := 24) (v := ?_) rfl (by kernel_rfl) (by kernel_rfl) (by kernel_rfl) (fun _ _ _ h => h) (by rfl) hHeld ?_ ?_
  rotate_left 1
  · (intro w hSw; (try dsimp only at hSw); go_simp; try (with_reducible rfl))
  try simp only [Act.put, nB, nC, nD]
  refine held_take (i := 26) (v := ?_) rfl (by kernel_rfl) (by kernel_rfl) (by kernel_rfl) (fun _ _ _ h => h) (by rfl) hHeld ?_ ?_
  rotate_left 1
  · (intro w hSw; (try dsimp only at hSw); go_simp; try (with_reducible rfl))
  try simp only [Act.put, nB, nC, nD]
  refine held_take (i := 27) (v := ?_) rfl (by kernel_rfl) (by kernel_rfl) (by kernel_rfl) (fun _ _ _ h => h) (by rfl) hHeld ?_ ?_
  rotate_left 1
  · (intro w hSw; (try dsimp only at hSw); go_simp; try (with_reducible rfl))
  try simp only [Act.put, nB, nC, nD]
  refine held_take (i := 28) (v := ?_) rfl (by kernel_rfl) (by kernel_rfl) (by kernel_rfl) (fun _ _ _ h => h) (by rfl) hHeld ?_ ?_
  rotate_left 1
  · (intro w hSw; (try dsimp only at hSw); go_simp; try (with_reducible rfl))
  try simp only [Act.put, nB, nC, nD]
  refine held_take (i := 29) (v := ?_) rfl (by kernel_rfl) (by kernel_rfl) (by kernel_rfl) (fun _ _ _ h => h) (by rfl) hHeld ?_ ?_
  rotate_left 1
  · (intro w hSw; (try dsimp only at hSw); go_simp; try (with_reducible rfl))
  try simp only [Act.put, nB, nC, nD]
  refine held_one (i := 25) rfl (by kernel_rfl) (by rfl) (fun K hK => ?_)
  go_simp
  refine (HC1.out _ HB7.out).mono ?_
  rintro en w8 ⟨rfl, rfl⟩
  have HB8 := HB7
  refine hK.out _ _ (hHeld) (fun hHeld2 => ?_)
  clear hK K hHeld; have hHeld := hHeld2; clear hHeld2
  try simp only [Act.put, nB, nC, nD]
  refine held_take (i := 30) (v := .bool false) rfl (by kernel_rfl) (by kernel_rfl) (by kernel_rfl) (fun _ _ _ h => h) (by rfl) hHeld (fun w hw => (by (try dsimp only at hw); go_simp; first | done | rfl | simp | (cases cl <;> rfl))) ?_
  try simp only [Act.put, nB, nC, nD]
  refine held_take (i := 31) (v := ?_) rfl (by kernel_rfl) (by kernel_rfl) (by kernel_rfl) (fun _ _ _ h => h) (by rfl) hHeld ?_ ?_
  rotate_left 1
  · (intro w hSw; (try dsimp only at hSw); go_simp; try (with_reducible rfl))
  try simp only [Act.put, nB, nC, nD]
  refine wpAnyH_done (by kernel_rfl) ?_ _
  have HBE := Lib.hid HB8.out
  clear hHeld
  go_wp2_with fail
  go_loopw [5] (fun i wr => ∃ (k : Nat), i = .int .i64 (k : Int) ∧ k ≤ N ∧ Hid (Below w.heap.size w wr)) (fun i _ => N - (intOf i).toNat)
  case atStart => exact ⟨0, rfl, by omega, HBE⟩
  case round =>
    obtain ⟨k, rfl, hk, HB⟩ := hrel
    have c0 := HC0.out wr HB.out
    by_cases hlt : k < N
    · obtain ⟨l, b, A2, L, c2, hL, hall⟩ := HLI.out k hlt
      have HAL := Lib.hid hall
      have HLL := Lib.hid hL
      have hkn : (k : Int) < (N : Int) := by omega
      have hk2 : Hid (k + 1 ≤ N) := hlt
      have hms : Hid (N - (k + 1) < N - k) := by show _ < _; omega
      clear hall hL
      go_wp2_with fail
      refine wp_region_held_drew (S := (fun w' => w'.cell? ⟨d, 10, none⟩ = some (.slice (some ⟨g, 0, none⟩) N cap) ∧ w'.cell? ⟨g, k, none⟩ = some (.slice A2 L c2) ∧ (convert 33 9 (.slice A2 L c2)).run Tryz.prog w' = .ok (.string (str l)) w')) (by kernel_rfl) ((HAL.out _ HB.out.drew).2.2) (fun hHeld => ?_)
      refine held_take (i := 0) (v := ?_) rfl (by kernel_rfl) (by kernel_rfl) (by kernel_rfl) (fun _ _ _ h => h) (by rfl) hHeld ?_ ?_
      rotate_left 1
      · (intro w hSw; (try dsimp only at hSw); go_simp; try (with_reducible rfl))
      try simp only [Act.put, nB, nC, nD]
      refine held_take (i := 2) (v := ?_) rfl (by kernel_rfl) (by kernel_rfl) (by kernel_rfl) (fun _ _ _ h => h) (by rfl) hHeld ?_ ?_
      rotate_left 1
      · (intro w hSw; (try dsimp only at hSw); go_simp; try (with_reducible rfl))
      try simp only [Act.put, nB, nC, nD]
      refine held_take (i := 6) (v := ?_) rfl (by kernel_rfl) (by kernel_rfl) (by kernel_rfl) (fun _ _ _ h => h) (by rfl) hHeld ?_ ?_
      rotate_left 1
      · (intro w hSw; (try dsimp only at hSw); go_simp; try (with_reducible rfl))
      try simp only [Act.put, nB, nC, nD]
      refine held_take (i := 7) (v := ?_) rfl (by kernel_rfl) (by kernel_rfl) (by kernel_rfl) (fun _ _ _ h => h) (by rfl) hHeld ?_ ?_
      rotate_left 1
      · (intro w hSw; (try dsimp only at hSw); go_simp; try (with_reducible rfl))
      try simp only [Act.put, nB, nC, nD]
      refine held_take (i := 8) (v := ?_) rfl (by kernel_rfl) (by kernel_rfl) (by kernel_rfl) (fun _ _ _ h => h) (by rfl) hHeld ?_ ?_
      rotate_left 1
      · (intro w hSw; (try dsimp only at hSw); go_simp; try (with_reducible rfl))
      try simp only [Act.put, nB, nC, nD]
      refine held_take (i := 9) (v := ?_) rfl (by kernel_rfl) (by kernel_rfl) (by kernel_rfl) (fun _ _ _ h => h) (by rfl) hHeld ?_ ?_
      rotate_left 1
      · (intro w hSw; (try dsimp only at hSw); go_simp; try (with_reducible rfl))
      try simp only [Act.put, nB, nC, nD]
      refine held_take (i := 10) (v := ?_) rfl (by kernel_rfl) (by kernel_rfl) (by kernel_rfl) (fun _ _ _ h => h) (by rfl) hHeld ?_ ?_
      rotate_left 1
      · (intro w hSw; (try dsimp only at hSw); go_simp; try (with_reducible rfl))
      try simp only [Act.put, nB, nC, nD]
      refine held_take (i := 11) (v := ?_) rfl (by kernel_rfl) (by kernel_rfl) (by kernel_rfl) (fun _ _ _ h => h) (by rfl) hHeld ?_ ?_
      rotate_left 1
      · (intro w hSw; (try dsimp only at hSw); go_simp; try (with_reducible rfl))
      try simp only [Act.put, nB, nC, nD]
      refine held_take (i := 12) (v := ?_) rfl (by kernel_rfl) (by kernel_rfl) (by kernel_rfl) (fun _ _ _ h => h) (by rfl) hHeld ?_ ?_
      rotate_left 1
      · (intro w hSw; (try dsimp only at hSw); go_simp; try (with_reducible rfl))
      try simp only [Act.put, nB, nC, nD]
      refine held_take (i := 13) (v := ?_) rfl (by kernel_rfl) (by kernel_rfl) (by kernel_rfl) (fun _ _ _ h => h) (by rfl) hHeld ?_ ?_
      rotate_left 1
      · (intro w hSw; (try dsimp only at hSw); go_simp; try (with_reducible rfl))
      try simp only [Act.put, nB, nC, nD]
      refine held_take (i := 14) (v := .string (str l)) rfl (by kernel_rfl) (by kernel_rfl) (by kernel_rfl) (fun _ _ _ h => h) (by rfl) hHeld (fun w hw => exec_conv (.tmp 60) rfl _ (by rfl) _ w hw.2.2) ?_
      try simp only [Act.put, nB, nC, nD]
      refine held_one (i := 1) rfl (by kernel_rfl) (by rfl) (fun K hK => ?_)
      go_simp
      refine (HQ1.out _ HB.out.drew).mono ?_
      rintro en w1 ⟨rfl, rfl⟩
      refine hK.out _ _ (hHeld) (fun hHeld2 => ?_)
      clear hK K hHeld; have hHeld := hHeld2; clear hHeld2
      try simp only [Act.put, nB, nC, nD]
      refine held_one (i := 3) rfl (by kernel_rfl) (by rfl) (fun K hK => ?_)
      go_simp
      refine ((HAL.out _ HB.out.drew).1).mono ?_
      rintro en w2 ⟨rfl, rfl⟩
      refine hK.out _ _ (hHeld) (fun hHeld2 => ?_)
      clear hK K hHeld; have hHeld := hHeld2; clear hHeld2
      try simp only [Act.put, nB, nC, nD]
      refine held_one (i := 4) rfl (by kernel_rfl) (by rfl) (fun K hK => ?_)
      go_simp
      refine ((HAL.out _ HB.out.drew).2.1).mono ?_
      rintro en w3 ⟨v3, rfl, ho3, hb3⟩
      obtain ⟨A3, c3, rfl, -, -, hr3⟩ := ho3.form_n L HLL.out
      have HR3 := Lib.hid hr3
      have HB9 := Lib.hid (HB.out.drew.trans (hb3.mono HB.out.drew.size))
      clear ho3 hb3 hr3
      refine hK.out _ _ ((HAL.out _ HB9.out).2.2) (fun hHeld2 => ?_)
      clear hK K hHeld; have hHeld := hHeld2; clear hHeld2
      try simp only [Act.put, nB, nC, nD]
      refine held_one (i := 5) rfl (by kernel_rfl) (by rfl) (fun K hK => ?_)
      refine wp_conv (.tmp 51) rfl _ (by rfl) _ (conv_rb HR3.out L c3 HLL.out) ?_
      refine hK.out _ _ (hHeld) (fun hHeld2 => ?_)
      clear hK K hHeld; have hHeld := hHeld2; clear hHeld2
      try simp only [Act.put, nB, nC, nD]
      refine held_take (i := 15) (v := .bool false) rfl (by kernel_rfl) (by kernel_rfl) (by kernel_rfl) (fun _ _ _ h => h) (by rfl) hHeld (fun w hw => (by (try dsimp only at hw); go_simp; first | done | rfl | simp)) ?_
      try simp only [Act.put, nB, nC, nD]
      refine wpAnyH_done (by kernel_rfl) ?_ _
      clear hHeld
      go_wp2_with fail
      go_roundw
      case rel => exact ⟨k + 1, by go_num, hk2.out, HB9⟩
      case measure => simp [intOf]; have := hms.out; omega
    · obtain rfl : N = k := by omega
      go_wp2_with fail
      go_ret
      exact ⟨rfl, HB.out⟩
abbrev opL21 (kd : Int) (bA : Option Addr) (bn bc : Nat) (k f t id fi : Int) (A : Option Addr) (n c : Nat) (ac fr su : Int) (ft : Bool) (sm : Int) : List Value :=
  [.int .i64 kd, .slice bA bn bc, .int .i64 k, .int .i64 f, .int .i64 t, .int .i64 id, .int .i64 fi, .slice A n c, .int .i64 ac, .int .i64 fr, .int .u32 su, .bool ft, .int .u32 sm]
abbrev opV21 (kd : Int) (bA : Option Addr) (bn bc : Nat) (k f t id fi : Int) (A : Option Addr) (n c : Nat) (ac fr su : Int) (ft : Bool) (sm : Int) : Value := .agg (opL21 kd bA bn bc k f t id fi A n c ac fr su ft sm).toArray
abbrev opO21 (kd : Int) (bA : Option Addr) (bn bc : Nat) (k f t id fi : Int) (A : Option Addr) (n c : Nat) (ac fr su : Int) (ft : Bool) (sm : Int) : Obj := .cells (opL21 kd bA bn bc k f t id fi A n c ac fr su ft sm).toArray 38 (0, 0)
theorem op_range {w : World} {b : Nat} {kd : Int} {bA : Option Addr} {bn bc : Nat} {k f t id fi : Int} {A : Option Addr} {n c : Nat} {ac fr su : Int} {ft : Bool} {sm : Int} (h : w.heap[b]? = some (opO21 kd bA bn bc k f t id fi A n c ac fr su ft sm)) :
    w.rangeAt b 2 [.int .i64 k, .int .i64 f, .int .i64 t, .int .i64 id, .int .i64 fi, .slice A n c, .int .i64 ac, .int .i64 fr, .int .u32 su] := fun j v hj => by
  rw [cell_of_row w b _ _ _ _ h, List.getElem?_toArray]
  match j, hj with
  | 0, hj | 1, hj | 2, hj | 3, hj | 4, hj | 5, hj | 6, hj | 7, hj | 8, hj => exact hj
  | n + 9, hj => simp at hj
set_option maxHeartbeats 4000000 in
theorem lpacket_any (C : Cf) (kd : Int) (bA : Option Addr) (bn bc : Nat) (k f t id fi : Int) (A : Option Addr) (n c : Nat) (ac fr su : Int) (ft : Bool) (sm : Int) (l : List UInt8) (w : World) (hn : l.length = n) (hc : n ≤ c) (hm : c ≤ maxLen) (X : Nat) (hX : (l.take 33).length = X) :
    Calls Tryz.prog 23 #[C.v, opV21 kd bA bn bc k f t id fi A n c ac fr su ft sm] w fun e w' => e = .returned (pkV k f (if ft then (C.me : Int) else t) (if ft then C.id else id) fi A X c ac fr su) ∧ Below w.heap.size w w' := by
  have HS := Lib.hid (fun W => short_n A l n c 33 W hn (by omega) hc hm X hX 33 rfl)
  obtain ⟨P, hP⟩ : ∃ P, w.heap.size = P := ⟨_, rfl⟩
  obtain ⟨W1, hW1⟩ : ∃ W1, W1 = w.alloc (cfO C.n C.me C.id C.dl C.wi C.g C.o C.br C.wk C.ro) := ⟨_, rfl⟩
  obtain ⟨W2, hW2⟩ : ∃ W2, W2 = W1.alloc (opO21 kd bA bn bc k f t id fi A n c ac fr su ft sm) := ⟨_, rfl⟩
  have s1 : W1.heap.size = P + 1 := by rw [hW1, World.size_alloc, hP]
  have s2 : W2.heap.size = P + 2 := by rw [hW2, World.size_alloc, s1]
  have b2 : Below P w W2 := by rw [hW2, hW1, ← hP]; exact ((Below.refl _ _).alloc (Nat.le_refl _) _).alloc (by simp) _
  have h1 : W2.heap[P + 1]? = some (opO21 kd bA bn bc k f t id fi A n c ac fr su ft sm) := by rw [hW2, ← s1]; exact heap_alloc_new _ _
  have h0 : CfAt W2 P C := by
    have : W2.heap[P]? = some (cfO C.n C.me C.id C.dl C.wi C.g C.o C.br C.wk C.ro) := by
      rw [hW2]; refine (Below.heap_alloc _ _ _ (by omega)).trans ?_
      rw [hW1, ← hP]; exact heap_alloc_new _ _
    exact CfAt.of_heap this
  have H0 := Lib.hid h0; have H1 := Lib.hid h1; have HB2 := Lib.hid b2; have HZ2 := Lib.hid s2
  have HW : Hid (W2 = (w.alloc (cfO C.n C.me C.id C.dl C.wi C.g C.o C.br C.wk C.ro)).alloc (opO21 kd bA bn bc k f t id fi A n c ac fr su ft sm)) := by show _ = _; rw [hW2, hW1]
  have HP := Lib.hid hP
  clear hn hm hX hP hW1 hW2 s1 s2 b2 h1 h0
  go_enter Tryz.func23, Tryz.ntmps23
  go_upto_region 1 with fail
  rw [← HW.out]
  try rw [HP.out]
  obtain ⟨W3, hW3⟩ : ∃ W3, W3 = W2.alloc (pkO 0 0 0 0 0 none 0 0 0 0 0) := ⟨_, rfl⟩
  have b3 : Below P w W3 := by rw [hW3]; exact HB2.out.alloc (by have := HZ2.out; omega) _
  have HR3 : Hid (W3.heap[P + 1]? = some (opO21 kd bA bn bc k f t id fi A n c ac fr su ft sm)) := by show _ = _; rw [hW3]; exact (Below.heap_alloc _ _ _ (by have := HZ2.out; omega)).trans H1.out
  have HC3 : Hid (CfAt W3 P C) := fun j v hv => by rw [hW3]; exact (World.cell?_of_block (a := ⟨P, j, none⟩) (Below.heap_alloc _ _ _ (by have := HZ2.out; show P < _; omega))).trans (H0.out j v hv)
  have HZ3 : Hid (PkM W3 (P + 1 + 1) 0 0 0 0 0 none 0 0 0 0 0) := by
    have h9 := heap_alloc_new W2 (pkO 0 0 0 0 0 none 0 0 0 0 0)
    rw [HZ2.out] at h9
    rw [hW3]; exact h9
  have HS3 : Hid (W3.heap.size = P + 3) := by show _ = _; rw [hW3, World.size_alloc, HZ2.out]
  have HB3 := Lib.hid b3
  rw [← hW3]
  have ftc : (W3.alloc (Obj.cells #[.int .i64 k, .int .i64 f, .int .i64 t, .int .i64 id, .int .i64 fi, .slice A X c, .int .i64 ac, .int .i64 fr, .int .u32 su] 36)).cell? ⟨P + 1, 11, none⟩ = some (.bool ft) := by
    rw [cell_of_row _ (P + 1) 11 _ _ _ ((Below.heap_alloc _ _ _ (by have := HS3.out; omega)).trans HR3.out)]; rfl
  clear hW3 b3
  go_upto_if 13 with (first
    | (refine wpList_load_mid rfl 36 (.tmp 6) rfl (P + 1) 2 (by rfl) _ _ (op_range HR3.out) Tryz.underlying36 rfl (by rw [pk_info]; rfl) ?_)
    | (go_at_call 26; (with_reducible refine (HS.out _).mono ?_); rintro e w1 ⟨rfl, rfl⟩))
  obtain ⟨W5, hW5⟩ : ∃ W5, W5 = W3.alloc (Obj.cells #[.int .i64 k, .int .i64 f, .int .i64 t, .int .i64 id, .int .i64 fi, .slice A X c, .int .i64 ac, .int .i64 fr, .int .u32 su] 36) := ⟨_, rfl⟩
  obtain ⟨Q, hQ⟩ : ∃ Q, W3.heap.size = Q := ⟨_, rfl⟩
  have HK5 : Hid (PkM W5 Q k f t id fi A X c ac fr su) := by rw [hW5, ← hQ]; exact heap_alloc_new _ _
  have HZ5 : Hid (PkM W5 (P + 1 + 1) 0 0 0 0 0 none 0 0 0 0 0) := by rw [hW5]; exact (Below.heap_alloc _ _ _ (by have := HS3.out; omega)).trans HZ3.out
  have HC5 : Hid (CfAt W5 P C) := fun j v hv => by rw [hW5]; exact (World.cell?_of_block (a := ⟨P, j, none⟩) (Below.heap_alloc _ _ _ (by have := HS3.out; show P < _; omega))).trans (HC3.out j v hv)
  have HB5 : Hid (Below P w W5) := by rw [hW5]; exact HB3.out.alloc (by have := HS3.out; omega) _
  have HQ3 : Hid (Q = P + 3) := by show _ = _; rw [← hQ, HS3.out]
  rw [← hW5, hQ]
  clear hW5 hQ ftc
  cases ft with
  | false =>
    have n2 : P + 1 + 1 ≠ Q := by have := HQ3.out; omega
    go_wp2_with (first
      | (refine wpList_load_pk rfl (.tmp 5) rfl Q (by rfl) HK5.out ?_)
      | (refine wpList_store_pk rfl (.tmp 4) (.tmp 20) rfl (P + 1 + 1) (by rfl) HZ5.out (by rfl) ?_; intro w7 p7 z7 g7))
    obtain ⟨r0, r1, r2, r3, r4, r5, r6, r7, r8⟩ := p7.c
    refine bodyPost_ret (v := pkV k f t id fi A X c ac fr su) (by simp [results, Tryz.results23, go_sem, r0, r1, r2, r3, r4, r5, r6, r7, r8]) rfl ⟨rfl, ?_⟩
    have hfin := HB5.out.grown g7 (by have := HB5.out.size; have := HP.out; omega) (fun j hj => by cases hj; omega)
    rw [← HP.out] at hfin
    exact hfin
  | true =>
    have n0 : P ≠ Q := by have := HQ3.out; omega
    have n3 : Q ≠ P := by have := HQ3.out; omega
    have a1 := HC5.out 1 (.int .i64 (C.me : Int)) rfl
    have a2 := HC5.out 2 (.int .i64 C.id) rfl
    obtain ⟨-, -, q2, q3, -, -, -, -, -⟩ := HK5.out.c
    have z2 := HK5.out.fz 2; have z3 := HK5.out.fz 3
    go_wp2_with fail
    go_big_region
    obtain ⟨W6, hW6⟩ : ∃ W6, W6 = ((W5.setCell ⟨Q, 2, none⟩ (.int .i64 (C.me : Int))).setCell ⟨Q, 3, none⟩ (.int .i64 C.id)).drew := ⟨_, rfl⟩
    have HK6 : Hid (PkM W6 Q k f (C.me : Int) C.id fi A X c ac fr su) := by rw [hW6]; exact (HK5.out.set_t _).set_id _
    have HZ6 : Hid (PkM W6 (P + 1 + 1) 0 0 0 0 0 none 0 0 0 0 0) := by
      have n2 : P + 1 + 1 ≠ Q := by have := HQ3.out; omega
      rw [hW6]; exact (Below.heap_setCell _ _ _ _ n2).trans ((Below.heap_setCell _ _ _ _ n2).trans HZ5.out)
    have HB6 : Hid (Below P w W6) := by rw [hW6]; exact ((HB5.out.setCell (p := ⟨Q, 2, none⟩) (by have := HQ3.out; show P ≤ Q; omega) _).setCell (p := ⟨Q, 3, none⟩) (by have := HQ3.out; show P ≤ Q; omega) _).drew
    rw [← hW6]
    clear hW6 a1 a2 q2 q3 z2 z3
    go_wp2_with (first
      | (refine wpList_load_pk rfl (.tmp 5) rfl Q (by rfl) HK6.out ?_)
      | (refine wpList_store_pk rfl (.tmp 4) (.tmp 20) rfl (P + 1 + 1) (by rfl) HZ6.out (by rfl) ?_; intro w7 p7 z7 g7))
    obtain ⟨r0, r1, r2, r3, r4, r5, r6, r7, r8⟩ := p7.c
    refine bodyPost_ret (v := pkV k f (C.me : Int) C.id fi A X c ac fr su) (by simp [results, Tryz.results23, go_sem, r0, r1, r2, r3, r4, r5, r6, r7, r8]) rfl ⟨rfl, ?_⟩
    have hfin := HB6.out.grown g7 (by have := HB6.out.size; have := HP.out; omega) (fun j hj => by cases hj; omega)
    rw [← HP.out] at hfin
    exact hfin
open Go.Joins Go.ChangeShapes Go.WideShapes Go.ChangeAt Go.RowKit Go.Deep
structure O21 where
  kd : Int
  bA : Option Addr
  bl : List UInt8
  bc : Nat
  k : Int
  f : Int
  t : Int
  id : Int
  fi : Int
  A : Option Addr
  l : List UInt8
  c : Nat
  ac : Int
  fr : Int
  su : Int
  ft : Bool
  sm : Int
abbrev O21.L (o : O21) : List Value := opL21 o.kd o.bA o.bl.length o.bc o.k o.f o.t o.id o.fi o.A o.l.length o.c o.ac o.fr o.su o.ft o.sm
def At21 (w : World) (b off : Nat) (o : O21) : Prop := ∀ j v, o.L[j]? = some v → w.cell? ⟨b, off + j, none⟩ = some v
def RO21 (w : World) (B : Nat) (A : Option Addr) (qs : List O21) : Prop :=
  0 < qs.length → ∃ b off, A = some ⟨b, off, none⟩ ∧ b < B ∧ ∀ j (h : j < qs.length), At21 w b (off + j * 13) qs[j]
theorem RO21.below {w w' : World} {B : Nat} {A : Option Addr} {qs : List O21} (h : RO21 w B A qs) (hb : Below B w w') : RO21 w' B A qs := fun h0 => by
  obtain ⟨b, off, e, hlt, hc⟩ := h h0
  exact ⟨b, off, e, hlt, fun j hj i v hv => (hb.cell (p := ⟨b, _, none⟩) hlt).trans (hc j hj i v hv)⟩
structure InO21 (w : World) (o : O21) : Prop where
  rb : RB w w.heap.size o.bA o.bl
  be : o.bl.length ≤ o.bc
  bm : o.bc ≤ maxLen
  rl : RB w w.heap.size o.A o.l
  le : o.l.length ≤ o.c
  lm : o.c ≤ maxLen
  su : 0 ≤ o.su ∧ o.su ≤ 4294967295
  sm : 0 ≤ o.sm ∧ o.sm ≤ 4294967295
theorem list13 {cs : List Value} (h : cs.length = 13) : ∃ a b c d e f g h i j k l m, cs = [a, b, c, d, e, f, g, h, i, j, k, l, m] := by
  match cs, h with
  | [a, b, c, d, e, f, g, h, i, j, k, l, m], _ => exact ⟨a, b, c, d, e, f, g, h, i, j, k, l, m, rfl⟩
section
variable {H : Type} {enc : TypeId × Value → H}
theorem bytes_of21 {W : World} {v : Value} {fuel : Nat} {y : DataW H × List MemPlace} (hf : DataW.trod enc Tryz.prog W 0 (fun _ => true) true fuel 33 [v] = some y) :
    ∃ (A : Option Addr) (l : List UInt8) (cap : Nat), v = .slice A l.length cap ∧ RB W W.heap.size A l ∧ l.length ≤ cap ∧ cap ≤ maxLen := by
  rcases open_ints Tryz.underlying33 Tryz.underlying5 kitCellsByte hf with ⟨hcs, _⟩ | ⟨a, len, cap, zs, hcs, _, hl, hm, hz, _, hcell, hwz⟩
  · simp only [List.cons.injEq, and_true] at hcs
    subst hcs
    exact ⟨none, [], 0, rfl, RB.nil _ _ _, by simp, by unfold maxLen; omega⟩
  · simp only [List.cons.injEq, and_true] at hcs
    subst hcs
    simp only [if_true] at hz
    have hll : ((zs.take len).map fun n => UInt8.ofNat n.toNat).length = len := by simp; omega
    refine ⟨some a, (zs.take len).map fun n => UInt8.ofNat n.toNat, cap, by rw [hll], fun h0 => ?_, by omega, hm⟩
    rw [hll] at h0
    obtain ⟨b, off, spot⟩ := a
    have hspot : spot = none := by simpa [Addr.add] using World.cell?_spot (hcell 0 (by omega))
    subst hspot
    have hc0 := hcell 0 (by omega)
    rw [Addr.add_lit] at hc0
    refine ⟨b, off, rfl, cell_lt hc0, fun j hj => ?_⟩
    rw [hll] at hj
    have hc := hcell j (by omega)
    rw [Addr.add_lit] at hc
    rw [hc, List.getElem_map, List.getElem_take, vb, byte_back (hwz _ (List.getElem_mem _))]
    simp [List.getD, show j < zs.length by omega]
theorem get_y21 {ys : List (DataW H × List MemPlace)} {n : Nat} (h : ys.length = n) (j : Nat) (hj : j < n) : ∃ y, ys[j]? = some y := ⟨_, List.getElem?_eq_getElem (by omega)⟩
theorem int_cells21 : Tryz.prog.cellsOf 3 = 1 := by kernel_rfl
theorem op13_cells : Tryz.prog.cellsOf 38 = 13 := by kernel_rfl
theorem pk_cells21 : Tryz.prog.cellsOf 36 = 9 := by kernel_rfl
theorem sl_cells21 : Tryz.prog.cellsOf 33 = 1 := by kernel_rfl
theorem bool_cells21 : Tryz.prog.cellsOf 4 = 1 := by kernel_rfl
theorem u32_cells21 : Tryz.prog.cellsOf 34 = 1 := by kernel_rfl
theorem i64_cells21 : Tryz.prog.cellsOf 2 = 1 := by kernel_rfl
theorem open_op13 {W : World} {a : Addr} {fuel : Nat} {cs : List Value} {x : DataW H × List MemPlace} (hcl : cs.length = 13) (hat : ∀ i, i < 13 → W.cell? (a.add i) = cs[i]?) (ht : DataW.trod enc Tryz.prog W 0 (fun _ => true) true fuel 38 cs = some x) :
    ∃ o : O21, (∀ j v, o.L[j]? = some v → W.cell? (a.add j) = some v) ∧ InO21 W o := by
  obtain ⟨c0, c1, c2, c3, c4, c5, c6, c7, c8, c9, c10, c11, c12, rfl⟩ := list13 hcl
  obtain ⟨ys, n', _, _, _, hyl, hf⟩ := DataW.trod_struct Tryz.underlying38 ht
  have hyl : ys.length = 5 := hyl
  obtain ⟨y0, e0⟩ := get_y21 hyl 0 (by omega)
  obtain ⟨y1, e1⟩ := get_y21 hyl 1 (by omega)
  obtain ⟨y2, e2⟩ := get_y21 hyl 2 (by omega)
  obtain ⟨y3, e3⟩ := get_y21 hyl 3 (by omega)
  obtain ⟨y4, e4⟩ := get_y21 hyl 4 (by omega)
  have t0 : DataW.trod enc Tryz.prog W 0 (fun _ => true) true n' 3 ((([c0, c1, c2, c3, c4, c5, c6, c7, c8, c9, c10, c11, c12] : List Value).drop 0).take (Tryz.prog.cellsOf 3)) = ys[0]? := hf 0 _ rfl
  rw [int_cells21, e0] at t0
  have t1 : DataW.trod enc Tryz.prog W 0 (fun _ => true) true n' 33 ((([c0, c1, c2, c3, c4, c5, c6, c7, c8, c9, c10, c11, c12] : List Value).drop 1).take (Tryz.prog.cellsOf 33)) = ys[1]? := hf 1 _ rfl
  rw [sl_cells21, e1] at t1
  have t2 : DataW.trod enc Tryz.prog W 0 (fun _ => true) true n' 36 ((([c0, c1, c2, c3, c4, c5, c6, c7, c8, c9, c10, c11, c12] : List Value).drop 2).take (Tryz.prog.cellsOf 36)) = ys[2]? := hf 2 _ rfl
  rw [pk_cells21, e2] at t2
  have t3 : DataW.trod enc Tryz.prog W 0 (fun _ => true) true n' 4 ((([c0, c1, c2, c3, c4, c5, c6, c7, c8, c9, c10, c11, c12] : List Value).drop 11).take (Tryz.prog.cellsOf 4)) = ys[3]? := hf 3 _ rfl
  rw [bool_cells21, e3] at t3
  have t4 : DataW.trod enc Tryz.prog W 0 (fun _ => true) true n' 34 ((([c0, c1, c2, c3, c4, c5, c6, c7, c8, c9, c10, c11, c12] : List Value).drop 12).take (Tryz.prog.cellsOf 34)) = ys[4]? := hf 4 _ rfl
  rw [u32_cells21, e4] at t4
  obtain ⟨zs, n2, _, _, _, hzl, hg⟩ := DataW.trod_struct Tryz.underlying36 t2
  have hzl : zs.length = 9 := hzl
  obtain ⟨z0, f0⟩ := get_y21 hzl 0 (by omega)
  obtain ⟨z1, f1⟩ := get_y21 hzl 1 (by omega)
  obtain ⟨z2, f2⟩ := get_y21 hzl 2 (by omega)
  obtain ⟨z3, f3⟩ := get_y21 hzl 3 (by omega)
  obtain ⟨z4, f4⟩ := get_y21 hzl 4 (by omega)
  obtain ⟨z5, f5⟩ := get_y21 hzl 5 (by omega)
  obtain ⟨z6, f6⟩ := get_y21 hzl 6 (by omega)
  obtain ⟨z7, f7⟩ := get_y21 hzl 7 (by omega)
  obtain ⟨z8, f8⟩ := get_y21 hzl 8 (by omega)
  have p0 : DataW.trod enc Tryz.prog W 0 (fun _ => true) true n2 3 ((([c2, c3, c4, c5, c6, c7, c8, c9, c10] : List Value).drop 0).take (Tryz.prog.cellsOf 3)) = zs[0]? := hg 0 _ rfl
  rw [int_cells21, f0] at p0
  have p1 : DataW.trod enc Tryz.prog W 0 (fun _ => true) true n2 3 ((([c2, c3, c4, c5, c6, c7, c8, c9, c10] : List Value).drop 1).take (Tryz.prog.cellsOf 3)) = zs[1]? := hg 1 _ rfl
  rw [int_cells21, f1] at p1
  have p2 : DataW.trod enc Tryz.prog W 0 (fun _ => true) true n2 3 ((([c2, c3, c4, c5, c6, c7, c8, c9, c10] : List Value).drop 2).take (Tryz.prog.cellsOf 3)) = zs[2]? := hg 2 _ rfl
  rw [int_cells21, f2] at p2
  have p3 : DataW.trod enc Tryz.prog W 0 (fun _ => true) true n2 2 ((([c2, c3, c4, c5, c6, c7, c8, c9, c10] : List Value).drop 3).take (Tryz.prog.cellsOf 2)) = zs[3]? := hg 3 _ rfl
  rw [i64_cells21, f3] at p3
  have p4 : DataW.trod enc Tryz.prog W 0 (fun _ => true) true n2 3 ((([c2, c3, c4, c5, c6, c7, c8, c9, c10] : List Value).drop 4).take (Tryz.prog.cellsOf 3)) = zs[4]? := hg 4 _ rfl
  rw [int_cells21, f4] at p4
  have p5 : DataW.trod enc Tryz.prog W 0 (fun _ => true) true n2 33 ((([c2, c3, c4, c5, c6, c7, c8, c9, c10] : List Value).drop 5).take (Tryz.prog.cellsOf 33)) = zs[5]? := hg 5 _ rfl
  rw [sl_cells21, f5] at p5
  have p6 : DataW.trod enc Tryz.prog W 0 (fun _ => true) true n2 3 ((([c2, c3, c4, c5, c6, c7, c8, c9, c10] : List Value).drop 6).take (Tryz.prog.cellsOf 3)) = zs[6]? := hg 6 _ rfl
  rw [int_cells21, f6] at p6
  have p7 : DataW.trod enc Tryz.prog W 0 (fun _ => true) true n2 3 ((([c2, c3, c4, c5, c6, c7, c8, c9, c10] : List Value).drop 7).take (Tryz.prog.cellsOf 3)) = zs[7]? := hg 7 _ rfl
  rw [int_cells21, f7] at p7
  have p8 : DataW.trod enc Tryz.prog W 0 (fun _ => true) true n2 34 ((([c2, c3, c4, c5, c6, c7, c8, c9, c10] : List Value).drop 8).take (Tryz.prog.cellsOf 34)) = zs[8]? := hg 8 _ rfl
  rw [u32_cells21, f8] at p8
  have hu := Tryz.underlying3
  have h64 := Tryz.underlying2
  have h32 := Tryz.underlying34
  obtain ⟨kd, g0, _, _⟩ := DataW.trod_int hu t0
  obtain ⟨bA, bl, bc, g1, br, bc1, bm⟩ := bytes_of21 (v := c1) t1
  obtain ⟨ft, g11, _⟩ := DataW.trod_bool Tryz.underlying4 t3
  obtain ⟨sm, g12, _, w12⟩ := DataW.trod_int h32 t4
  obtain ⟨k, g2, _, _⟩ := DataW.trod_int hu p0
  obtain ⟨f, g3, _, _⟩ := DataW.trod_int hu p1
  obtain ⟨t, g4, _, _⟩ := DataW.trod_int hu p2
  obtain ⟨id, g5, _, _⟩ := DataW.trod_int h64 p3
  obtain ⟨fi, g6, _, _⟩ := DataW.trod_int hu p4
  obtain ⟨A, l, c, g7, lr, lc, lm⟩ := bytes_of21 (v := c7) p5
  obtain ⟨ac, g8, _, _⟩ := DataW.trod_int hu p6
  obtain ⟨fr, g9, _, _⟩ := DataW.trod_int hu p7
  obtain ⟨su, g10, _, w10⟩ := DataW.trod_int h32 p8
  obtain rfl : c0 = _ := by simpa using g0
  obtain rfl : c2 = _ := by simpa using g2
  obtain rfl : c3 = _ := by simpa using g3
  obtain rfl : c4 = _ := by simpa using g4
  obtain rfl : c5 = _ := by simpa using g5
  obtain rfl : c6 = _ := by simpa using g6
  obtain rfl : c8 = _ := by simpa using g8
  obtain rfl : c9 = _ := by simpa using g9
  obtain rfl : c10 = _ := by simpa using g10
  obtain rfl : c11 = _ := by simpa using g11
  obtain rfl : c12 = _ := by simpa using g12
  subst g1 g7
  refine ⟨⟨kd, bA, bl, bc, k, f, t, id, fi, A, l, c, ac, fr, su, ft, sm⟩, fun j v hj => ?_, ⟨br, bc1, bm, lr, lc, lm, bounds_u32 w10, bounds_u32 w12⟩⟩
  have hj13 : j < 13 := (List.getElem?_eq_some_iff.1 hj).1
  rw [hat j hj13]; exact hj
theorem open_op13list {W : World} {base : Nat} {v : Value} {d : DataW H} {p : List MemPlace} (hval : Value.okWide Tryz.prog W .any base 24 v) (h : DataW.Trod enc Tryz.prog W 0 (fun _ => true) true 24 v d p) :
    ∃ A qs cap, v = .slice A (qs : List O21).length cap ∧ RO21 W W.heap.size A qs ∧ qs.length ≤ cap ∧ cap ≤ maxLen ∧ ∀ o ∈ qs, InO21 W o := by
  obtain ⟨a1, len1, cap1, rfl⟩ := okWide_slice Tryz.underlying24 hval
  obtain ⟨fuel, h⟩ := h
  rcases open_slice Tryz.underlying24 h with ⟨hcs, _⟩ | ⟨a, len, cap, m, n, D, Pl, hcs, _, hl, hm, hmm, _, hi⟩
  · simp [Value.cells] at hcs
    obtain ⟨rfl, rfl, rfl⟩ := hcs
    exact ⟨none, [], 0, rfl, fun h => absurd h (by simp), by simp, by unfold maxLen; omega, fun o ho => by cases ho⟩
  · simp [Value.cells] at hcs
    obtain ⟨rfl, rfl, rfl⟩ := hcs
    simp only [if_true] at hmm
    rw [op13_cells] at hi
    have hx : ∀ i, i < len1 → ∃ o : O21, (∀ j v, o.L[j]? = some v → W.cell? ((a.add (i * 13)).add j) = some v) ∧ InO21 W o := fun i hlt => by
      obtain ⟨cs', hc, ht'⟩ := hi i (by omega)
      obtain ⟨_, hcl, hat⟩ := World.cells?_some hc
      exact open_op13 hcl hat ht'
    obtain ⟨f, hf⟩ : ∃ f : Nat → O21, ∀ i, i < len1 → (∀ j v, (f i).L[j]? = some v → W.cell? ((a.add (i * 13)).add j) = some v) ∧ InO21 W (f i) :=
      ⟨fun i => if h : i < len1 then Classical.choose (hx i h) else ⟨0, none, [], 0, 0, 0, 0, 0, 0, none, [], 0, 0, 0, 0, false, 0⟩, fun i h => by simp only [dif_pos h]; exact Classical.choose_spec (hx i h)⟩
    refine ⟨some a, (List.range len1).map f, cap1, by simp, fun h0 => ?_, by simpa using hl, hm, fun o ho => ?_⟩
    · simp only [List.length_map, List.length_range] at h0
      obtain ⟨b, off, spot⟩ := a
      have hc00 := (hf 0 h0).1 0 _ rfl
      have hspot : spot = none := by
        have h1 := World.cell?_spot hc00
        simpa [Addr.add] using h1
      subst hspot
      rw [Addr.add_lit, Addr.add_lit] at hc00
      refine ⟨b, off, rfl, cell_lt hc00, fun j hj i v hv => ?_⟩
      simp only [List.length_map, List.length_range] at hj
      rw [List.getElem_map, List.getElem_range] at hv
      have hc := (hf j hj).1 i v hv
      simp only [Addr.add_lit] at hc
      exact hc
    · obtain ⟨i, hi, rfl⟩ := List.mem_map.1 ho
      exact (hf i (List.mem_range.1 hi)).2
end
abbrev cfZ (n me id dl wi g o br wk ro : Int) : List Value := [.int .i64 n, .int .i64 me, .int .i64 id, .int .i64 dl, .int .i64 wi, .int .i64 g, .int .i64 o, .int .i64 br, .int .i64 wk, .int .i64 ro]
theorem wpList_load_cz {w : World} {ops : Array Oper} {rest : List Oper} {o : Oper} {a : Act} {Q : Exit → Act → World → Prop} (hgd : o.guard = none) (x : Operand) (ho : o.op = .load 23 x)
    (c : Nat) (hx : a.eval x = .pointer (some ⟨c, 0, none⟩)) (cs : List Value) (hcs : cs.length = 10) (h : w.rangeAt c 0 cs)
    (hk : wpList Tryz.prog ops Q rest (a.put o.dst (.agg cs.toArray)) w) : wpList Tryz.prog ops Q (o :: rest) a w :=
  wpList_load_mid hgd 23 x ho c 0 hx cs _ h Tryz.underlying23 rfl (by rw [cf_size, hcs]) hk
theorem cz_range {w : World} {b : Nat} {n me id dl wi g o br wk ro : Int} (h : w.heap[b]? = some (cfO n me id dl wi g o br wk ro)) : w.rangeAt b 0 (cfZ n me id dl wi g o br wk ro) := fun j v hj => by
  rw [Nat.zero_add, cell_of_row w b j _ _ _ h]
  rw [← hj]; simp [cfZ]
theorem exec_load_cz {S : World → Prop} {op : Oper} {a : Act} (x : Operand) (ho : op.op = .load 23 x) (c : Nat) (hx : a.eval x = .pointer (some ⟨c, 0, none⟩)) (cs : List Value) (hcs : cs.length = 10) (w : World) (hw : w.rangeAt c 0 cs) : (execOp a.eval op).run Tryz.prog w = .ok (.value (.agg cs.toArray)) w := by
  have := run_loadVar_mid (P := Tryz.prog) w c 0 23 cs _ hw Tryz.underlying23 rfl (by rw [cf_size, hcs])
  unfold execOp
  simp only [ho, hx, Instr.loadAt, Instr.sureAddr, Sem.run_bind, Sem.run_pure, Result.andThen_ok, this]
theorem cz_below {W W' : World} {b : Nat} {cs : List Value} (h : W.rangeAt b 0 cs) (hb : Below W.heap.size W W') (hlt : b < W.heap.size) : W'.rangeAt b 0 cs := fun j v hj => (hb.cell (p := ⟨b, _, none⟩) hlt).trans (h j v hj)
set_option maxHeartbeats 4000000 in
theorem all_no (n me id dl wi g o br wk ro : Int) (hno : ¬ MayC n me id dl wi g o br wk ro) (A : Option Addr) (k c : Nat) (w : World) (hT : TabW w) :
    Calls Tryz.prog 3 #[cfV n me id dl wi g o br wk ro, .slice A k c] w fun e w' => e = .returned (.bool true) ∧ Below w.heap.size w w' := by
  obtain ⟨P, hP⟩ : ∃ P, w.heap.size = P := ⟨_, rfl⟩
  obtain ⟨W1, hW1⟩ : ∃ W1, W1 = w.alloc (cfO n me id dl wi g o br wk ro) := ⟨_, rfl⟩
  have b1 : Below w.heap.size w W1 := by rw [hW1]; exact (Below.refl _ _).alloc (Nat.le_refl _) _
  have r1 : W1.rangeAt P 0 (cfZ n me id dl wi g o br wk ro) := by rw [hW1, ← hP]; exact cz_range (heap_alloc_new w _)
  have p1 : P < W1.heap.size := by rw [hW1, ← hP]; simp
  have HT1 := Lib.hid (hT.below b1 hT.lt)
  have HR : Hid (∀ W, Below W1.heap.size W1 W → W.rangeAt P 0 (cfZ n me id dl wi g o br wk ro)) := fun W hb => cz_below r1 hb p1
  have HBG := Lib.hid (begun21_any W1 HT1.out)
  have HNW := Lib.hid (fun W => core_new_no n me id dl wi g o br wk ro hno W)
  have HM1 := Lib.hid (fun W => core_may n me id dl wi g o br wk ro false ⟨fun e => (by cases e), fun e => absurd e hno⟩ W)
  have HM2 := Lib.hid (fun W => ref_may n me id dl wi g o br wk ro false ⟨fun e => (by cases e), fun e => absurd e hno⟩ W)
  have HB1 := Lib.hid b1; have HW1 := Lib.hid hW1; have HPP := Lib.hid hP
  clear hno hT b1 r1 p1 hW1 hP
  go_enter Tryz.func3, Tryz.ntmps3
  go_upto_region 1 with fail
  rw [← HW1.out]
  try rw [HPP.out]
  go_wp2_with (first
    | (go_at_call 11; (refine (HBG.out).mono ?_); rintro en w1 ⟨rfl, hb⟩; have HB2 := Lib.hid hb; clear hb)
    | (refine wpList_load_cz rfl (.tmp 2) rfl P (by rfl) (cfZ n me id dl wi g o br wk ro) rfl (HR.out _ HB2.out) ?_)
    | (go_at_call 12; (refine (HNW.out _).mono ?_); rintro en w2 ⟨rfl, hb⟩; have HB3 := Lib.hid (HB2.out.trans (hb.mono HB2.out.size)); clear hb))
  have HB4 : Hid (Below W1.heap.size W1 w2.drew) := HB3.out.drew
  refine wp_region_held_drew (S := (fun w' => w'.rangeAt P 0 (cfZ n me id dl wi g o br wk ro))) (by kernel_rfl) (HR.out _ HB4.out) (fun hHeld => ?_)
  refine held_take (i := 0) (v := (.agg (cfZ n me id dl wi g o br wk ro).toArray)) rfl (by kernel_rfl) (by kernel_rfl) (by kernel_rfl) (fun _ _ _ h => h) (by rfl) hHeld (fun w hw => exec_load_cz (S := fun _ => True) (.tmp 2) rfl P (by rfl) (cfZ n me id dl wi g o br wk ro) rfl w hw) ?_
  try simp only [Act.put, nB, nC, nD]
  refine held_take (i := 2) (v := (.agg (cfZ n me id dl wi g o br wk ro).toArray)) rfl (by kernel_rfl) (by kernel_rfl) (by kernel_rfl) (fun _ _ _ h => h) (by rfl) hHeld (fun w hw => exec_load_cz (S := fun _ => True) (.tmp 2) rfl P (by rfl) (cfZ n me id dl wi g o br wk ro) rfl w hw) ?_
  try simp only [Act.put, nB, nC, nD]
  refine held_one (i := 1) rfl (by kernel_rfl) (by rfl) (fun K hK => ?_)
  go_simp
  refine (HM1.out _).mono ?_
  rintro en w5 ⟨rfl, hb⟩
  have HB5 := Lib.hid (HB4.out.trans (hb.mono HB4.out.size))
  clear hb
  refine hK.out _ _ (HR.out _ HB5.out) (fun hHeld2 => ?_)
  clear hK K hHeld; have hHeld := hHeld2; clear hHeld2
  try simp only [Act.put, nB, nC, nD]
  refine held_one (i := 3) rfl (by kernel_rfl) (by rfl) (fun K hK => ?_)
  go_simp
  refine (HM2.out _).mono ?_
  rintro en w6 ⟨rfl, hb⟩
  have HB6 := Lib.hid (HB5.out.trans (hb.mono HB5.out.size))
  clear hb
  refine hK.out _ _ (HR.out _ HB6.out) (fun hHeld2 => ?_)
  clear hK K hHeld; have hHeld := hHeld2; clear hHeld2
  try simp only [Act.put, nB, nC, nD]
  refine held_take (i := 4) (v := ?_) rfl (by kernel_rfl) (by kernel_rfl) (by kernel_rfl) (fun _ _ _ h => h) (by rfl) hHeld ?_ ?_
  rotate_left 1
  · (intro w hSw; (try dsimp only at hSw); go_simp; try (with_reducible rfl))
  try simp only [Act.put, nB, nC, nD]
  refine held_take (i := 5) (v := ?_) rfl (by kernel_rfl) (by kernel_rfl) (by kernel_rfl) (fun _ _ _ h => h) (by rfl) hHeld ?_ ?_
  rotate_left 1
  · (intro w hSw; (try dsimp only at hSw); go_simp; try (with_reducible rfl))
  try simp only [Act.put, nB, nC, nD]
  refine held_take (i := 6) (v := ?_) rfl (by kernel_rfl) (by kernel_rfl) (by kernel_rfl) (fun _ _ _ h => h) (by rfl) hHeld ?_ ?_
  rotate_left 1
  · (intro w hSw; (try dsimp only at hSw); go_simp; try (with_reducible rfl))
  try simp only [Act.put, nB, nC, nD]
  refine held_take (i := 7) (v := ?_) rfl (by kernel_rfl) (by kernel_rfl) (by kernel_rfl) (fun _ _ _ h => h) (by rfl) hHeld ?_ ?_
  rotate_left 1
  · (intro w hSw; (try dsimp only at hSw); go_simp; try (with_reducible rfl))
  try simp only [Act.put, nB, nC, nD]
  refine held_take (i := 8) (v := (.agg (cfZ n me id dl wi g o br wk ro).toArray)) rfl (by kernel_rfl) (by kernel_rfl) (by kernel_rfl) (fun _ _ _ h => h) (by rfl) hHeld (fun w hw => exec_load_cz (S := fun _ => True) (.tmp 2) rfl P (by rfl) (cfZ n me id dl wi g o br wk ro) rfl w hw) ?_
  try simp only [Act.put, nB, nC, nD]
  refine held_one (i := 9) rfl (by kernel_rfl) (by rfl) (fun K hK => ?_)
  go_simp
  refine (HM2.out _).mono ?_
  rintro en w7 ⟨rfl, hb⟩
  have HB7 := Lib.hid (HB6.out.trans (hb.mono HB6.out.size))
  clear hb
  refine hK.out _ _ (HR.out _ HB7.out) (fun hHeld2 => ?_)
  clear hK K hHeld; have hHeld := hHeld2; clear hHeld2
  try simp only [Act.put, nB, nC, nD]
  refine held_take (i := 10) (v := ?_) rfl (by kernel_rfl) (by kernel_rfl) (by kernel_rfl) (fun _ _ _ h => h) (by rfl) hHeld ?_ ?_
  rotate_left 1
  · (intro w hSw; (try dsimp only at hSw); go_simp; try (with_reducible rfl))
  try simp only [Act.put, nB, nC, nD]
  refine held_take (i := 11) (v := ?_) rfl (by kernel_rfl) (by kernel_rfl) (by kernel_rfl) (fun _ _ _ h => h) (by rfl) hHeld ?_ ?_
  rotate_left 1
  · (intro w hSw; (try dsimp only at hSw); go_simp; try (with_reducible rfl))
  try simp only [Act.put, nB, nC, nD]
  refine wpAnyH_done (by kernel_rfl) ?_ _
  clear hHeld
  go_wp2_with fail
  go_ret
  exact ⟨rfl, HB1.out.trans (HB7.out.mono HB1.out.size)⟩
theorem duo_new {w0 w : World} {C : Cf} {c q : Nat} {s : Pl} (hm : C.may) (h : At w0 w C c q s (fun _ => False)) :
    Calls Tryz.prog 15 #[C.v] w fun e w' => ∃ d, e = .returned (pB d) ∧ Duo w0 w' C c q d s (newP C) (fun _ => False) ∧ Below w.heap.size w w' :=
  (doc_new w0 w h.be C hm).mono fun e w' ⟨K, he, a, b, hd, hb, hge⟩ => ⟨K.c, he, ⟨K, a, rfl, b, hd, (h.grab hb).less (fun k hk => hk.elim (fun e => .inr ⟨hge k e, (hd.lt e).2⟩) (fun e => e.elim)), fun k hk => hk.elim⟩, hb⟩
section
variable {w0 w : World} {C : Cf} {c q d : Nat} {s : Pl} {O : Nat → Prop} {m : Nat}
theorem duo_press (hf : Fit C) (h : Duo w0 w C c q d s s O) (hok : Ok C m s) (b : UInt8) (a : Int) (s' : Pl) (hp : pressP C s b = (a, s')) :
    Calls Tryz.prog 16 #[pB c, vb b] w fun e w' => e = .returned (.int .i64 a) ∧ Duo w0 w' C c q d s' s O ∧ Same O w w' :=
  duo_prog (Φ := fun e _ => e = .returned (.int .i64 a)) h (fun Kc e1 e2 e3 e4 hc => by
    subst e1 e2 e4
    exact core_press w0 w Kc hc m hok hf.1 hf.2.1 hf.2.2 b a s' hp)
theorem duo_dpress {s1 : Pl} (hf : Fit C) (h : Duo w0 w C c q d s1 s O) (hok : Ok C m s) (b : UInt8) (a : Int) (s' : Pl) (hp : pressP C s b = (a, s')) :
    Calls Tryz.prog 17 #[pB d, vb b] w fun e w' => e = .returned (.int .i64 a) ∧ Duo w0 w' C c q d s1 s' O ∧ Same O w w' :=
  duo_doc (Φ := fun e _ => e = .returned (.int .i64 a)) h (fun K e1 e2 e3 hd => by
    subst e1 e3
    exact doc_press w0 w K hd m hok hf.1 hf.2.1 hf.2.2 b a s' hp e2)
theorem duo_recv (hf : Fit C) (h : Duo w0 w C c q d s s O) (hok : Ok C m s) (hT : TabW w0) (hm9 : m ≤ 10000) (A : Option Addr) (l : List UInt8) (n cp : Nat) (hr : RB w w.heap.size A l) (hn : l.length = n) (hc : n ≤ cp) (hm : cp ≤ maxLen) (hl : n ≤ 4096) (o : Option Pk) (ho : Told l o) (a : Int) (s' : Pl) (hp : recvP C s o = (a, s')) :
    Calls Tryz.prog 24 #[pB c, .slice A n cp] w fun e w' => e = .returned (.int .i64 a) ∧ Duo w0 w' C c q d s' s O ∧ Same O w w' :=
  duo_prog (Φ := fun e _ => e = .returned (.int .i64 a)) h (fun Kc e1 e2 e3 e4 hk => by
    subst e1 e2 e4
    exact core_receive w0 w Kc hk hT m hok hm9 hf.2.1 hf.2.2 A l n cp hr hn hc hm hl o ho a s' hp)
theorem duo_drecv {s1 : Pl} (UN : UnpOwn) (hf : Fit C) (h : Duo w0 w C c q d s1 s O) (hok : Ok C m s) (hm9 : m ≤ 10000) (A : Option Addr) (l : List UInt8) (n cp : Nat) (hr : RB w w.heap.size A l) (hn : l.length = n) (hc : n ≤ cp) (hm : cp ≤ maxLen) (hl : n ≤ 4096) (o : Option Pk) (ho : Told l o) (a : Int) (s' : Pl) (hp : recvP C s o = (a, s')) :
    Calls Tryz.prog 25 #[pB d, .slice A n cp] w fun e w' => e = .returned (.int .i64 a) ∧ Duo w0 w' C c q d s1 s' O ∧ Same O w w' :=
  duo_doc (Φ := fun e _ => e = .returned (.int .i64 a)) h (fun K e1 e2 e3 hd => by
    subst e1 e3
    exact doc_receive UN w0 w K hd e2 m hok hm9 hf.1 hf.2.1 hf.2.2 A l n cp hr hn hc hm hl o ho a s' hp)
theorem duo_mark (hf : Fit C) (h : Duo w0 w C c q d s s O) (hok : Ok C m s) (hm9 : m ≤ 10000) (u : Int) (hu : 0 ≤ u ∧ u ≤ 4294967295) :
    Calls Tryz.prog 27 #[pB c, .int .u32 u] w fun e w' => e = .returned (.tuple #[]) ∧ Duo w0 w' C c q d (markP C s u) s O ∧ Same O w w' :=
  duo_prog (Φ := fun e _ => e = .returned (.tuple #[])) h (fun Kc e1 e2 e3 e4 hk => by
    subst e1 e2 e4
    exact core_mark w0 w Kc hk m hok hm9 hf.2.1 u hu)
theorem duo_dmark {s1 : Pl} (hf : Fit C) (h : Duo w0 w C c q d s1 s O) (hok : Ok C m s) (hm9 : m ≤ 10000) (u : Int) (hu : 0 ≤ u ∧ u ≤ 4294967295) (hlt : s.ms.length < 1000) :
    Calls Tryz.prog 28 #[pB d, .int .u32 u] w fun e w' => e = .returned (.tuple #[]) ∧ Duo w0 w' C c q d s1 (markP C s u) O ∧ Same O w w' :=
  duo_doc (Φ := fun e _ => e = .returned (.tuple #[])) h (fun K e1 e2 e3 hd => by
    subst e1 e3
    exact doc_mark w0 w K hd m hok hm9 hf.2.1 hf.1 u hu hlt e2)
theorem duo_tick (hf : Fit C) (h : Duo w0 w C c q d s s O) (hok : Ok C m s) (hT : TabW w0) (hm9 : m ≤ 10000) (xs : List (Nat × List UInt8)) (s' : Pl) (hp : tickP C s = (xs, s')) :
    Calls Tryz.prog 20 #[pB c] w fun e w' => ∃ v B, e = .returned v ∧ Tells w' B v C.me xs ∧ w.heap.size ≤ B ∧ B ≤ w'.heap.size ∧ Duo w0 w' C c q d s' s (With O B w'.heap.size) ∧ Same O w w' :=
  duo_progB h (fun Kc e1 e2 e3 e4 hk => by
    subst e1 e2 e4
    exact core_tick w0 w Kc hk hT m hok hm9 hf.2.1 hf.2.2 xs s' hp)
theorem duo_dtick {s1 : Pl} (hf : Fit C) (h : Duo w0 w C c q d s1 s O) (hok : Ok C m s) (hm9 : m ≤ 10000) (xs : List (Nat × List UInt8)) (s' : Pl) (hp : tickP C s = (xs, s')) :
    Calls Tryz.prog 21 #[pB d] w fun e w' => ∃ v B, e = .returned v ∧ DTells w' B v C.me xs ∧ w.heap.size ≤ B ∧ Duo w0 w' C c q d s1 s' (With O B w'.heap.size) ∧ Same O w w' :=
  duo_docT h (fun K e1 e2 e3 hd => by
    subst e1 e3
    exact doc_tick w0 w K hd m hok hm9 hf.1 hf.2.1 hf.2.2 xs s' hp e2)
theorem duo_quit (hf : Fit C) (h : Duo w0 w C c q d s s O) (hok : Ok C m s) (hT : TabW w0) (xs : List (Nat × List UInt8)) (s' : Pl) (hp : quitP C s = (xs, s')) :
    Calls Tryz.prog 29 #[pB c] w fun e w' => ∃ v B, e = .returned v ∧ Tells w' B v C.me xs ∧ w.heap.size ≤ B ∧ B ≤ w'.heap.size ∧ Duo w0 w' C c q d s' s (With O B w'.heap.size) ∧ Same O w w' :=
  duo_progB h (fun Kc e1 e2 e3 e4 hk => by
    subst e1 e2 e4
    exact core_quit w0 w Kc hk hT m hok hf.2.1 hf.2.2 xs s' hp)
theorem duo_dquit {s1 : Pl} (hf : Fit C) (h : Duo w0 w C c q d s1 s O) (xs : List (Nat × List UInt8)) (s' : Pl) (hp : quitP C s = (xs, s')) :
    Calls Tryz.prog 30 #[pB d] w fun e w' => ∃ v B, e = .returned v ∧ DTells w' B v C.me xs ∧ w.heap.size ≤ B ∧ Duo w0 w' C c q d s1 s' (With O B w'.heap.size) ∧ Same O w w' :=
  duo_docT h (fun K e1 e2 e3 hd => by
    subst e1 e3
    exact doc_quit w0 w K hd hf.2.1 xs s' hp e2)
theorem duo_events (h : Duo w0 w C c q d s s O) : Calls Tryz.prog 33 #[pB c] w fun e w' => ∃ v, e = .returned v ∧ EvR w' v s.es ∧ Duo w0 w' C c q d (toldP s) s O ∧ Same O w w' := by
  obtain ⟨K, a, b, e, h1, h2, h3⟩ := h
  refine (at_events h2).mono fun en w' ⟨v, he, hv, hA, hS⟩ => ?_
  obtain ⟨D, S⟩ := Duo.prog (O := O) ⟨K, a, b, e, h1, h3, hA, hS⟩
  exact ⟨v, he, hv, D, S⟩
end
theorem unpOwn : UnpOwn := fun A l n c w h1 h2 h3 h4 h5 p hp => unp_own A l n c w h1 h2 h3 h4 h5 p hp
theorem op21_size : (Tryz.prog.info? 38).map (·.size) = some 13 := by kernel_rfl
theorem wpList_load_op21 {w : World} {ops : Array Oper} {rest : List Oper} {o : Oper} {a : Act} {Q : Exit → Act → World → Prop} (hgd : o.guard = none) (x : Operand) (ho : o.op = .load 38 x)
    (b off : Nat) (hx : a.eval x = .pointer (some ⟨b, off, none⟩)) {kd : Int} {bA : Option Addr} {bn bc : Nat} {k f t id fi : Int} {A : Option Addr} {n c : Nat} {ac fr su : Int} {ft : Bool} {sm : Int} (h : w.rangeAt b off (opL21 kd bA bn bc k f t id fi A n c ac fr su ft sm))
    (hk : wpList Tryz.prog ops Q rest (a.put o.dst (opV21 kd bA bn bc k f t id fi A n c ac fr su ft sm)) w) : wpList Tryz.prog ops Q (o :: rest) a w :=
  wpList_load_mid hgd 38 x ho b off hx _ _ h Tryz.underlying38 rfl (by rw [op21_size]; rfl) hk
def OpB (w : World) (R : Nat) (kd : Int) (bA : Option Addr) (bn bc : Nat) (k f t id fi : Int) (A : Option Addr) (n c : Nat) (ac fr su : Int) (ft : Bool) (sm : Int) : Prop := w.heap[R]? = some (opO21 kd bA bn bc k f t id fi A n c ac fr su ft sm)
section
variable {w w' : World} {R : Nat} {kd : Int} {bA : Option Addr} {bn bc : Nat} {k f t id fi : Int} {A : Option Addr} {n c : Nat} {ac fr su : Int} {ft : Bool} {sm : Int}
theorem OpB.cells (h : OpB w R kd bA bn bc k f t id fi A n c ac fr su ft sm) : w.cell? ⟨R, 0, none⟩ = some (.int .i64 kd) ∧ w.cell? ⟨R, 1, none⟩ = some (.slice bA bn bc) ∧ w.cell? ⟨R, 12, none⟩ = some (.int .u32 sm) := by
  unfold OpB at h
  refine ⟨?_, ?_, ?_⟩ <;> (rw [cell_of_row _ _ _ _ _ _ h]; rfl)
theorem OpB.range (h : OpB w R kd bA bn bc k f t id fi A n c ac fr su ft sm) : w.rangeAt R 0 (opL21 kd bA bn bc k f t id fi A n c ac fr su ft sm) := fun j v hj => by
  rw [Nat.zero_add, cell_of_row w R j _ _ _ h, List.getElem?_toArray]
  exact hj
theorem OpB.lt (h : OpB w R kd bA bn bc k f t id fi A n c ac fr su ft sm) : R < w.heap.size := cell_lt h.cells.1
end
theorem wpList_store_op21 {w : World} {ops : Array Oper} {rest : List Oper} {o : Oper} {a : Act} {Q : Exit → Act → World → Prop} (hgd : o.guard = none) (x y : Operand) (ho : o.op = .store 38 x y)
    (b : Nat) (hx : a.eval x = .pointer (some ⟨b, 0, none⟩)) (h : w.heap[b]? = some (opO21 0 none 0 0 0 0 0 0 0 none 0 0 0 0 0 false 0))
    {kd : Int} {bA : Option Addr} {bn bc : Nat} {k f t id fi : Int} {A : Option Addr} {n c : Nat} {ac fr su : Int} {ft : Bool} {sm : Int} (hy : a.eval y = opV21 kd bA bn bc k f t id fi A n c ac fr su ft sm)
    (hk : ∀ w', OpB w' b kd bA bn bc k f t id fi A n c ac fr su ft sm → w'.heap.size = w.heap.size → w.grownBy w' (some b) → wpList Tryz.prog ops Q rest (a.put o.dst undef) w') : wpList Tryz.prog ops Q (o :: rest) a w := by
  refine wpList_plain hgd fun K hK => ?_
  have hrun := run_storeVar_row (P := Tryz.prog) w b 38 38 _ (opL21 kd bA bn bc k f t id fi A n c ac fr su ft sm).toArray h (by rw [op21_size]; rfl) rfl (by simp [Value.oneCell'])
  unfold Oper.wp execOp
  simp only [ho, hx, hy, opV21, Instr.storeAt, Instr.sureAddr, Sem.run_bind, Sem.run_pure, Result.andThen_ok, hrun]
  exact hK _ _ (hk _ (setRow_heap w b _ _ _ _ h) (by simp [World.setRow]) ⟨rfl, rfl, rfl, by simp [World.setRow], fun k hk hne => setRow_other w b k _ (fun e => hne (by rw [e]))⟩)
theorem press_ms (C : Cf) (s : Pl) (b : UInt8) : (pressP C s b).2.ms = s.ms := by
  unfold pressP; split
  · rfl
  · split
    · rfl
    · split <;> rfl
theorem recv_ms (C : Cf) (s : Pl) (o : Option Pk) : (recvP C s o).2.ms = s.ms := by
  unfold recvP; split
  · rfl
  · split
    · rfl
    · split
      · rename_i p h
        show (heldN (tellP C (hearP s p.f.toNat) p) C.n).ms = s.ms
        rw [(heldN_ms _ _).1]
        unfold tellP; split <;> rfl
      · rfl
theorem mark_ms (C : Cf) (s : Pl) (u : Int) : (markP C s u).ms.length ≤ s.ms.length + 1 := by
  unfold markP; split
  · show (heldN _ C.n).ms.length ≤ _
    rw [(heldN_ms _ _).1]; simp
  · omega
theorem tick_ms (C : Cf) (s : Pl) : (tickP C s).2.ms = s.ms := by
  unfold tickP; split
  · rfl
  · split <;> rfl
theorem quit_ms (C : Cf) (s : Pl) : (quitP C s).2.ms = s.ms := by
  unfold quitP; split <;> rfl
theorem others_len (C : Cf) : (othersP C).length ≤ C.n := by
  unfold othersP
  exact Nat.le_trans (List.length_filter_le _ _) (by simp)
theorem tick_len (C : Cf) (s : Pl) : (tickP C s).1.length ≤ C.n := by
  unfold tickP; split
  · simp
  · split
    · simp
    · rw [List.length_map]; exact others_len C
theorem quit_len (C : Cf) (s : Pl) : (quitP C s).1.length ≤ C.n := by
  unfold quitP; split
  · simp
  · rw [List.length_map]; exact others_len C
theorem told_bounds {l : List UInt8} {o : Option Pk} (h : Told l o) (p : Pk) (e : o = some p) : p.fr ≤ 1000 ∧ p.ac ≤ 1000 ∧ 0 ≤ p.su ∧ p.su ≤ 4294967295 := by
  subst e
  obtain ⟨h1, h2, -⟩ := h
  refine ⟨?_, ?_, h2.1, h2.2⟩ <;> (unfold Pk.may mayC at h1; rcases h1 with ⟨-, h | h⟩ <;> omega)
theorem dt_keep {w1 w2 w3 : World} {O : Nat → Prop} {B me : Nat} {v : Value} {xs : List (Nat × List UInt8)} (h : DTells w2 B v me xs) (S : Same (Grab (With O B w1.heap.size) w1 w2) w2 w3) : DTells w3 B v me xs :=
  h.keep fun k ha hb => S k (by
    by_cases hk : k < w1.heap.size
    · exact .inl (.inr ⟨ha, hk⟩)
    · exact .inr ⟨by omega, hb⟩)
end Go.Proofs.YtpnobpligchpiaaGreatDoor
