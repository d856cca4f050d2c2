/- texts of YpE -/
import Derived.Test.YtpnobpligchpiaaGreatDoorYpA
import Derived.Test.YtpnobpligchpiaaGreatDoorYpB
import Derived.Test.YtpnobpligchpiaaGreatDoorYpH
import Derived.Test.YtpnobpligchpiaaGreatDoorYpK
namespace Go.Proofs.YtpnobpligchpiaaGreatDoor
set_option maxRecDepth 100000
open Go.RowKit
set_option linter.unusedVariables false
set_option linter.unusedSimpArgs false
theorem int_info2 : ∃ i0, Tryz.prog.info? 3 = some i0 ∧ i0.zero = some (.int .i64 0) ∧ i0.size = 1 ∧ i0.bytes = 8 :=
 info_parts (show (Tryz.prog.info? 3).map (fun i => (i.zero, i.size, i.bytes)) = some (some (.int .i64 0), 1, 8) from by kernel_rfl)
abbrev nsL (xs : List Nat) : List Value := xs.map fun (x : Nat) => .int .i64 ((x : Nat) : Int)
def ON (w : World) (base : Nat) (v : Value) (xs : List Nat) : Prop := w.ownsRow base 3 1 v xs.length (nsL xs)
theorem ON.at {w : World} {base : Nat} {v : Value} {xs : List Nat} (h : ON w base v xs) : ∃ A cap, v = .slice A xs.length cap ∧ ∀ (j x : Nat), xs[j]? = some x → ∃ b, A = some ⟨b, 0, none⟩ ∧ b < w.heap.size ∧ w.cell? ⟨b, j, none⟩ = some (.int .i64 (x : Int)) := by
 rcases h.2 with ⟨hv, h0⟩ | ⟨g, cap, cur, hv, h1, h2, h3, h4, h5, h6⟩
 · exact ⟨none, 0, by rw [hv, h0], fun j x hx => by have := (List.getElem?_eq_some_iff.1 hx).1; omega⟩
 · refine ⟨_, cap, hv, fun j x hx => ⟨g, rfl, (Array.getElem?_eq_some_iff.1 h2).1, ?_⟩⟩
   have hj := (List.getElem?_eq_some_iff.1 hx).1
   have e : (cur.toList.take (xs.length * 1))[j]? = some (.int .i64 (x : Int)) := by rw [h6, List.getElem?_map, hx]; rfl
   rw [List.getElem?_take_of_lt (by omega), Array.getElem?_toList] at e
   rw [cell_of_row w g j _ _ _ h2, e]
abbrev iOne (x : Int) : Obj := .cells #[.int .i64 x] 3
theorem wpList_append_n1 {w : World} {ops : Array Oper} {rest : List Oper} {o : Oper} {a : Act} {Q : Exit → Act → World → Prop} (hgd : o.guard = none) (s x : Operand)
 (ho : o.op = .call { callee := .builtin .append, args := #[s, x], argTypes := #[92, 92] })
 (base : Nat) (v : Value) (xs : List Nat) (y : Nat) (hs : a.eval s = v) (hown : ON (w.alloc (iOne (y : Int))) base v xs) (hx : a.eval x = .slice (some ⟨w.heap.size, 0, none⟩) 1 1) (hlen : xs.length ≤ 1000) (hbase : base ≤ w.heap.size)
 (h : ∀ v' w', ON w' base v' (xs ++ [y]) → (w.alloc (iOne (y : Int))).grownBy w' v.ownBlock → wpList Tryz.prog ops Q rest (a.put o.dst v') w') : wpList Tryz.prog ops Q (o :: rest) a (w.alloc (iOne (y : Int))) := by
 obtain ⟨i0, hi0, hz0, hz1, hz2⟩ := int_info2
 refine wpList_append_own_at (P := Tryz.prog) (w.alloc (iOne (y : Int))) hgd s x 92 ho base 3 i0 (.int .i64 0) 1 8 Tryz.underlying92 hi0 hz0 hz1 hz2 rfl (by decide) v xs.length _ hs hown ⟨w.heap.size, 0, none⟩ 1 1 [.int .i64 (y : Int)] hx rfl (cell_one_new _ _ _) (by simp [Value.oneCell']) (by unfold maxLen; omega) (by omega) (by rw [World.size_alloc]; omega) ?_
 intro v' w' h1 h2 _ _
 refine h v' w' ?_ h2
 unfold ON
 rw [List.length_append, nsL, List.map_append]
 exact h1
def otN (me k : Nat) : List Nat := (List.range k).filter fun i => decide (i ≠ me)
theorem otN_on (me k : Nat) (h : k ≠ me) : otN me (k + 1) = otN me k ++ [k] := by
 unfold otN; rw [List.range_succ, List.filter_append]; simp [h]
theorem otN_off (me k : Nat) (h : k = me) : otN me (k + 1) = otN me k := by
 unfold otN; rw [List.range_succ, List.filter_append]; simp [h]
theorem otN_len (me k : Nat) : (otN me k).length ≤ k := by unfold otN; exact Nat.le_trans (List.length_filter_le _ _) (by simp)
theorem otN_mem {me k j x : Nat} (h : (otN me k)[j]? = some x) : x < k ∧ x ≠ me := by
 have := List.mem_of_getElem? h
 unfold otN at this
 simpa using this
theorem othersP_eq (C : Cf) : othersP C = otN C.me C.n := rfl
set_option maxHeartbeats 4000000 in
theorem core_others (w0 w : World) (K : Cm) (h : CM w0 w K) (h8 : K.C.n ≤ 8) {kc : Nat} (hkc : K.c = kc) :
 Calls Tryz.prog 71 #[pB kc] w fun e w' => ∃ v, e = .returned v ∧ ON w' w.heap.size v (othersP K.C) ∧ Below w.heap.size w w' := by
 obtain ⟨N, hN⟩ : ∃ N, K.C.n = N := ⟨_, rfl⟩
 obtain ⟨me, hme⟩ : ∃ me, K.C.me = me := ⟨_, rfl⟩
 rw [othersP_eq, hN, hme]
 rw [hN] at h8
 have c12 : w.cell? ⟨kc, 12, none⟩ = some (.slice (some ⟨K.p, 0, none⟩) N N) := by have := h.cell 12 _ rfl; rw [hN, hkc] at this; exact this
 have c1 : w.cell? ⟨kc, 1, none⟩ = some (.int .i64 (me : Int)) := by have := h.cell 1 _ rfl; rw [hme, hkc] at this; exact this
 have HK : Hid (kc < w.heap.size) := by show _ < _; rw [← hkc]; exact h.clt
 have HC1 := qh c1
 clear h hN hme hkc c1
 go_enter Tryz.func71, Tryz.ntmps71
 go_wp2_with fail
 clear c12
 go_loopw [3, 4, 10] (fun v1 pp ii wr => ∃ (k : Nat) (vv : Value), ii = .int .i64 (k : Int) ∧ vv = v1 ∧ k ≤ N ∧ Hid (ON wr w.heap.size vv (otN me k)) ∧ Hid (Below w.heap.size w wr)) (fun _ _ ii _ => N - (intOf ii).toNat)
 case atStart => exact ⟨0, _, rfl, rfl, by omega, World.ownsRow_nil _ _ _ _, bR _ _⟩
 case round =>
  obtain ⟨k, vv, rfl, rfl, hk, HO, HB⟩ := hrel
  by_cases hlt : k < N
  · have c1 := (HB.out.cell (p := ⟨kc, 1, none⟩) HK.out).trans HC1.out
    have hkN : (k : Int) < (N : Int) := by omega
    have hk2 : Hid (k + 1 ≤ N) := hlt
    have hms : Hid (N - (k + 1) < N - k) := by show _ < _; omega
    by_cases hm : k = me
    · have hb : ((k : Int) == (me : Int)) = true := by simp; omega
      subst hm
      have HO2 : Hid (ON wr w.heap.size vv (otN k (k + 1))) := by show ON _ _ _ _; rw [otN_off k k rfl]; exact HO.out
      go_wp2_with fail
      go_roundw
      case rel => exact ⟨k + 1, _, by go_num, rfl, hk2.out, HO2, HB⟩
      case measure => simp [intOf]; have := hms.out; omega
    · have hb : ((k : Int) == (me : Int)) = false := by simp; omega
      have HA := qh (HB.out.alloc HB.out.size (iOne (k : Int)))
      have HOA : Hid (ON (wr.alloc (iOne (k : Int))) w.heap.size vv (otN me k)) := by
       show ON _ _ _ _
       exact ownsRow_same HO.out fun i hi => Below.heap_alloc _ _ _ (World.ownsRow.lt HO.out i hi).2
      have HLN : Hid ((otN me k).length ≤ 1000) := by show _ ≤ _; have := otN_len me k; omega
      have HGE : Hid (∀ i, vv.ownBlock = some i → w.heap.size ≤ i) := fun i hi => (World.ownsRow.lt HO.out i hi).1
      have HME := qh hm
      go_wp2_with (first
       | (refine wpList_append_n1 rfl (.tmp 20) (.tmp 22) rfl w.heap.size _ (otN me k) k rfl HOA.out rfl HLN.out HB.out.size ?_; intro v7 w7 o7 g7; have HO7 := qh o7; have HB7 := qh (HA.out.grown g7 HA.out.size HGE.out); clear o7 g7))
      go_roundw
      case rel => exact ⟨k + 1, _, by go_num, rfl, hk2.out, by show ON _ _ _ _; rw [otN_on me k HME.out]; exact HO7.out, HB7⟩
      case measure => simp [intOf]; have := hms.out; omega
  · obtain rfl : k = N := by omega
    go_wp2_with fail
    go_ret
    exact ⟨_, rfl, HO.out, HB.out⟩
structure ML (w : World) (base : Nat) (v : Value) (ms : List Ml) : Prop where
 wr : WR w v ms
 ge : ∀ k, v.ownBlock = some k → base ≤ k
 ob : ∀ m ∈ ms, OB w base m.v m.l ∧ ∀ k, m.v.ownBlock = some k → v.ownBlock ≠ some k
theorem ML.nil (w : World) (base : Nat) : ML w base (.slice none 0 0) [] := ⟨WR.nil w, fun k hk => (by cases hk), fun m hm => (by cases hm)⟩
theorem ML.same {w w' : World} {base : Nat} {v : Value} {ms : List Ml} (h : ML w base v ms) (hs : ∀ k, base ≤ k → k < w.heap.size → w'.heap[k]? = w.heap[k]?) : ML w' base v ms :=
 ⟨h.wr.same fun k hk => hs k (h.ge k hk) (h.wr.lt k hk), h.ge, fun m hm => ⟨(h.ob m hm).1.same fun k hk => hs k ((h.ob m hm).1.lt k hk).1 ((h.ob m hm).1.lt k hk).2, (h.ob m hm).2⟩⟩
theorem ML.belows {w w' : World} {base : Nat} {v : Value} {ms : List Ml} (h : ML w base v ms) (hb : Below w.heap.size w w') : ML w' base v ms := h.same fun k _ hk => hb.block k hk
theorem ML.snoc {w w' : World} {base : Nat} {v v' : Value} {ms : List Ml} {m : Ml} (h : ML w base v ms) (hm : OB w base m.v m.l) (hmv : ∀ k, m.v.ownBlock = some k → v.ownBlock ≠ some k) (r : WR w' v' (ms ++ [m])) (g : w.grownBy w' v.ownBlock) (hv : ∀ k, v'.ownBlock = some k → v.ownBlock = some k ∨ w.heap.size ≤ k) (hbase : base ≤ w.heap.size) : ML w' base v' (ms ++ [m]) := by
 refine ⟨r, fun k hk => (hv k hk).elim (h.ge k) (fun e => Nat.le_trans hbase e), fun x hx => ?_⟩
 have key : ∀ x : Ml, OB w base x.v x.l → (∀ k, x.v.ownBlock = some k → v.ownBlock ≠ some k) → OB w' base x.v x.l ∧ ∀ k, x.v.ownBlock = some k → v'.ownBlock ≠ some k := fun x ho ha =>
  ⟨ho.same fun k hk => g.block k (ho.lt k hk).2 (fun e => ha k hk e.symm), fun k hk e => (hv k e).elim (ha k hk) (fun e2 => by have := (ho.lt k hk).2; omega)⟩
 rcases List.mem_append.1 hx with hx | hx
 · exact key x (h.ob x hx).1 (h.ob x hx).2
 · obtain rfl := List.mem_singleton.1 hx; exact key x hm hmv
def Tells (w : World) (base : Nat) (v : Value) (me : Nat) (xs : List (Nat × List UInt8)) : Prop := ∃ ms, ML w base v ms ∧ ms.map (fun m => (m.f, m.t, m.l)) = xs.map fun p => ((me : Int), (p.1 : Int), p.2)
theorem Tells.belows {w w' : World} {base : Nat} {v : Value} {me : Nat} {xs : List (Nat × List UInt8)} (h : Tells w base v me xs) (hb : Below w.heap.size w w') : Tells w' base v me xs := by
 obtain ⟨ms, h1, h2⟩ := h; exact ⟨ms, h1.belows hb, h2⟩
theorem Tells.nil (w : World) (base : Nat) (me : Nat) : Tells w base (.slice none 0 0) me [] := ⟨[], ML.nil w base, rfl⟩
theorem Tells.at {w : World} {base : Nat} {v : Value} {me : Nat} {xs : List (Nat × List UInt8)} (h : Tells w base v me xs) : ∃ A cap, v = .slice A xs.length cap ∧ xs.length ≤ cap ∧ cap ≤ maxLen ∧ ∀ (j tt : Nat) (l : List UInt8), xs[j]? = some (tt, l) → ∃ (g : Nat) (B : Option Addr) (n c : Nat), A = some ⟨g, 0, none⟩ ∧ g < w.heap.size ∧ w.cell? ⟨g, j * 3, none⟩ = some (.int .i64 (me : Int)) ∧ w.cell? ⟨g, j * 3 + 1, none⟩ = some (.int .i64 (tt : Int)) ∧ w.cell? ⟨g, j * 3 + 2, none⟩ = some (.slice B n c) ∧ RB w w.heap.size B l ∧ l.length = n ∧ n ≤ c ∧ c ≤ maxLen := by
 obtain ⟨ms, h1, h2⟩ := h
 have hl : ms.length = xs.length := by have := congrArg List.length h2; simpa using this
 obtain ⟨A, cap, hv, hc, hm⟩ := h1.wr.form xs.length hl
 refine ⟨A, cap, hv, hc, hm, fun j tt l hj => ?_⟩
 have hjx := (List.getElem?_eq_some_iff.1 hj).1
 obtain ⟨g, hA, a0, a1, a2⟩ := (hv ▸ h1.wr).at j (by omega)
 have e := congrArg (·[j]?) h2
 simp only [List.getElem?_map, hj, List.getElem?_eq_getElem (show j < ms.length by omega), Option.map_some] at e
 have e2 := Option.some.inj e
 injection e2 with e3 e4
 injection e4 with e4 e5
 obtain ⟨ho, -⟩ := h1.ob ms[j] (List.getElem_mem _)
 obtain ⟨B, c, hB, q1, q2, q3⟩ := ho.form_n l.length (by rw [e5])
 rw [hB] at a2
 rw [e3] at a0; rw [e4] at a1; rw [e5] at q3
 exact ⟨g, B, l.length, c, hA, cell_lt a0, a0, a1, a2, q3, rfl, q1, q2⟩
def inP (C : Cf) (s : Pl) (i : Nat) : Pk :=
 ⟨1, 0, 0, 0, ((((s.ps[i]?).map Pr.ha).getD 0 : Nat) : Int), ((((s.L[i]?).getD []).length : Nat) : Int), ((s.ms.length : Nat) : Int), lastM s, (((s.L[C.me]?).getD []).drop (((s.ps[i]?).map Pr.ha).getD 0)).take 32⟩
def Says (w w' : World) (e : Ending) (p : Pk) : Prop :=
 ∃ (A : Option Addr) (n c : Nat), e = .returned (pkV p.k p.f p.t p.id p.fi A n c p.ac p.fr p.su) ∧ RB w' w'.heap.size A p.l ∧ p.l.length = n ∧ n ≤ c ∧ c ≤ maxLen ∧ Below w.heap.size w w'
theorem rb_wrote {w w' : World} {A : Option Addr} {l : List UInt8} {k : Nat} (h : RB w w.heap.size A l) (g : w.grownBy w' (some k)) (hk : 0 < l.length → ∀ b off, A = some ⟨b, off, none⟩ → b ≠ k) : RB w' w'.heap.size A l := fun h0 => by
 obtain ⟨b, off, e, hb, hc⟩ := h h0
 refine ⟨b, off, e, Nat.lt_of_lt_of_le hb g.size, fun j hj => ?_⟩
 exact (World.cell?_of_block (a := ⟨b, off + j, none⟩) (g.block b hb (fun e2 => hk h0 b off e (Option.some.inj e2)))).trans (hc j hj)
theorem fin_below {w W1 wx w7 : World} {R : Nat} (b1 : Below w.heap.size w W1) (hb : Below W1.heap.size W1 wx) (g : wx.grownBy w7 (some R)) (hR : w.heap.size = R) : Below w.heap.size w w7 :=
 (b1.trans (hb.mono b1.size)).grown g (Nat.le_trans b1.size hb.size) (fun k e => by cases e; omega)
theorem ob_where {w : World} {base : Nat} {A : Option Addr} {n c : Nat} {l : List UInt8} (h : OB w base (.slice A n c) l) : ∀ b off, A = some ⟨b, off, none⟩ → base ≤ b ∧ b < w.heap.size := fun b off e => by
 rcases h.2 with ⟨hv, -⟩ | ⟨g, cap, cur, hv, h1, h2, -⟩
 · injection hv with e1; rw [e] at e1; cases e1
 · injection hv with e1
   rw [e] at e1
   injection e1 with e1; injection e1 with e1
   subst e1
   exact ⟨h1, (Array.getElem?_eq_some_iff.1 h2).1⟩
set_option maxHeartbeats 8000000 in
theorem core_input (w0 w : World) (K : Cm) (h : CM w0 w K) (N m : Nat) (hN : K.C.n = N) (hok : Ok K.C m K.s) (hme : K.C.me < N) (i : Nat) (hi : i < N) {kc : Nat} (hkc : K.c = kc) :
 Calls Tryz.prog 74 #[pB kc, .int .i64 (i : Int)] w fun e w' => Says w w' e (inP K.C K.s i) := by
 obtain ⟨W1, hW1⟩ : ∃ W1, W1 = w.alloc (pkO 0 0 0 0 0 none 0 0 0 0 0) := ⟨_, rfl⟩
 have B1 : Hid (Below w.heap.size w W1) := by rw [hW1]; exact (bR _ _).alloc (nl _) _
 have hR : PkM W1 w.heap.size 0 0 0 0 0 none 0 0 0 0 0 := by rw [hW1]; exact heap_alloc_new w _
 obtain ⟨x, hx⟩ := hok.at i (by rw [hN]; exact hi)
 obtain ⟨li, hli, -⟩ := hok.line i (by rw [hN]; exact hi)
 obtain ⟨lm, hlm, hlm1⟩ := hok.line K.C.me (by rw [hN]; exact hme)
 obtain ⟨bi, hbi⟩ := h.line i li hli
 obtain ⟨bm, hbm⟩ := h.line K.C.me lm hlm
 obtain ⟨A, cap, hmv, -, -⟩ := h.marks
 obtain ⟨M, hM⟩ : ∃ M, K.s.ms.length = M := ⟨_, rfl⟩
 rw [hM] at hmv
 obtain ⟨f, hf⟩ : ∃ f, x.ha = f := ⟨_, rfl⟩
 obtain ⟨LI, hLI⟩ : ∃ LI, li.length = LI := ⟨_, rfl⟩
 obtain ⟨pr, hpr⟩ : ∃ pr, (lm.drop f).take 32 = pr := ⟨_, rfl⟩
 obtain ⟨PN, hPN⟩ : ∃ PN, pr.length = PN := ⟨_, rfl⟩
 obtain ⟨su, hsu⟩ : ∃ su, lastM K.s = su := ⟨_, rfl⟩
 have HEQ : Hid (inP K.C K.s i = ⟨1, 0, 0, 0, f, LI, M, su, pr⟩) := by
  show _ = _
  unfold inP
  rw [hx, hli, hlm, hM, hsu]
  simp only [Option.map_some, Option.getD_some, hf, hLI, hpr]
 obtain ⟨me, hmq⟩ : ∃ me, K.C.me = me := ⟨_, rfl⟩
 obtain ⟨kq, hkq⟩ : ∃ kq, K.q = kq := ⟨_, rfl⟩
 obtain ⟨kp, hkp⟩ : ∃ kp, K.p = kp := ⟨_, rfl⟩
 have hB : ∀ W, Below W1.heap.size W1 W → CM w0 W K := fun W hb => (h.belows B1.out).belows hb
 have HS : Hid (∀ W, Below W1.heap.size W1 W → W.cell? ⟨kc, 10, none⟩ = some (pB kq) ∧ W.cell? ⟨kc, 1, none⟩ = some (.int .i64 (me : Int)) ∧ W.cell? ⟨kc, 13, none⟩ = some (.slice A M cap)) := fun W hb => by
  have a1 := (hB W hb).cell 10 _ rfl; have a2 := (hB W hb).cell 1 _ rfl; have a3 := (hB W hb).cell 13 _ rfl
  rw [hkc, hkq] at a1; rw [hkc, hmq] at a2; rw [hkc, hmv] at a3
  exact ⟨a1, a2, a3⟩
 have HLm : Hid (∀ W, Below W1.heap.size W1 W → Calls Tryz.prog 67 #[pB kq, .int .i64 (me : Int)] W fun e w' => e = .returned (pB bm) ∧ W = w') := fun W hb => by
  have := line_in W K.q K.r K.xs (hB W hb).qf.qm (me : Int) K.C.me (by rw [hmq]) ⟨bm, lm⟩ hbm
  rw [hkq] at this; exact this
 have HLi : Hid (∀ W, Below W1.heap.size W1 W → Calls Tryz.prog 67 #[pB kq, .int .i64 (i : Int)] W fun e w' => e = .returned (pB bi) ∧ W = w') := fun W hb => by
  have := line_in W K.q K.r K.xs (hB W hb).qf.qm (i : Int) i rfl ⟨bi, li⟩ hbi
  rw [hkq] at this; exact this
 have HLn : Hid (∀ W, Below W1.heap.size W1 W → Calls Tryz.prog 115 #[pB bi] W fun e w' => e = .returned (.int .i64 (LI : Int)) ∧ W = w') := fun W hb => by
  have hk := ((hB W hb).qf.qm.line _ _ hbi).1
  rw [show (Ln.mk bi li).l.length = LI from hLI] at hk
  exact len_any W bi LI li hk
 have HFr : Hid (∀ W, Below W1.heap.size W1 W → Calls Tryz.prog 121 #[pB bm, .int .i64 (f : Int), .int .i64 32] W fun e w' => ∃ (A2 : Option Addr) (c2 : Nat), e = .returned (.slice A2 PN c2) ∧ RB w' w'.heap.size A2 pr ∧ PN ≤ c2 ∧ c2 ≤ maxLen ∧ (∀ b off, A2 = some ⟨b, off, none⟩ → W.heap.size ≤ b ∧ b < w'.heap.size) ∧ Below W.heap.size W w') := fun W hb => by
  have hk := ((hB W hb).qf.qm.line _ _ hbm).1
  have := from_any W bm lm.length lm hk rfl hlm1 (f : Int) 32 f 32 rfl rfl (by omega)
  rw [hpr] at this
  refine this.mono fun e w' ⟨v, he, ho, hb2⟩ => ?_
  obtain ⟨A2, c2, rfl, q1, q2, q3⟩ := ho.form_n PN hPN
  exact ⟨A2, c2, he, q3, q1, q2, ob_where ho, hb2⟩
 have hc12 : W1.cell? ⟨kc, 12, none⟩ = some (.slice (some ⟨kp, 0, none⟩) N N) := by have := (h.belows B1.out).cell 12 _ rfl; rw [hkc, hkp, hN] at this; exact this
 have hc13 : W1.cell? ⟨kp, i * 5 + 1, none⟩ = some (.int .i64 (f : Int)) := by have := ((h.belows B1.out).peer i x hx).2.1; rw [hkp, hf] at this; exact this
 have HMK : Hid (∀ W, Below W1.heap.size W1 W → ∀ u, K.s.ms[M - 1]? = some u → ∃ b, A = some ⟨b, 0, none⟩ ∧ W.cell? ⟨b, M - 1, none⟩ = some (.int .u32 u)) := fun W hb u hu => by
  obtain ⟨b, q1, -, q2⟩ := (hB W hb).mark (A := A) (c := cap) (by rw [hM]; exact hmv) (M - 1) u hu
  exact ⟨b, q1, q2⟩
 have HLAST : Hid (M = 0 → su = 0) := fun e => by rw [← hsu]; unfold lastM; rw [if_neg (by omega)]
 have HLASTP : Hid (0 < M → K.s.ms[M - 1]? = some su) := fun e => by
  obtain ⟨u, hu⟩ : ∃ u, K.s.ms[M - 1]? = some u := ⟨_, List.getElem?_eq_getElem (by omega)⟩
  rw [hu, ← hsu]; unfold lastM; rw [if_pos (by omega), hM, hu]; rfl
 have hiN : (i : Int) < (N : Int) := by omega
 have HW1 := qh hW1
 have HR := qh hR
 have HPN := qh hPN
 obtain ⟨R, hRR⟩ : ∃ R, w.heap.size = R := ⟨_, rfl⟩
 have HRR := qh hRR
 have HRL : Hid (R < W1.heap.size) := by show _ < _; rw [← hRR]; exact hR.lt
 rw [hRR] at HR
 have hM1000 : M ≤ 1000 := by rw [← hM]; exact hok.ms
 clear h hW1 hR hx hli hlm hlm1 hbi hbm hmv hM hf hLI hpr hPN hsu hmq hkq hkp hkc hB hok hN hme hi
 go_enter Tryz.func74, Tryz.ntmps74
 go_upto_region 1 with fail
 rw [← HW1.out]
 try rw [HRR.out]
 clear HW1
 go_wp2_with fail
 clear hc12 hc13
 go_cut [6] (fun s6 wx => ∃ (P : Nat) (A2 : Option Addr) (c2 : Nat), s6 = .pointer (some ⟨P, 0, none⟩) ∧ Hid (PkM wx P 1 0 0 0 (f : Int) A2 PN c2 (LI : Int) (M : Int) 0) ∧ Hid (RB wx wx.heap.size A2 pr) ∧ Hid (PN ≤ c2 ∧ c2 ≤ maxLen) ∧ Hid (Below W1.heap.size W1 wx) ∧ Hid (W1.heap.size ≤ P) ∧ Hid (∀ b off, A2 = some ⟨b, off, none⟩ → W1.heap.size ≤ b ∧ b ≠ P))
 case first =>
  have HB0 : Hid (Below W1.heap.size W1 W1.drew) := (bR _ _).drew
  refine wp_region_held_drew (S := (fun w' => w'.cell? ⟨kc, 10, none⟩ = some (pB kq) ∧ w'.cell? ⟨kc, 1, none⟩ = some (.int .i64 (me : Int)) ∧ w'.cell? ⟨kc, 13, none⟩ = some (.slice A M cap))) (by kernel_rfl) (HS.out _ HB0.out) (fun hHeld => ?_)
  refine htk (i := 0) (v := ?_) rfl (by kernel_rfl) (fun _ _ _ h => h) (by rfl) hHeld ?_ ?_
  rotate_left 1
  · (intro w hSw; (try dsimp only at hSw); go_simp; try (with_reducible rfl))
  try simp only [Act.put, nB, nC, nD]
  refine htk (i := 1) (v := ?_) rfl (by kernel_rfl) (fun _ _ _ h => h) (by rfl) hHeld ?_ ?_
  rotate_left 1
  · (intro w hSw; (try dsimp only at hSw); go_simp; try (with_reducible rfl))
  try simp only [Act.put, nB, nC, nD]
  refine htk (i := 2) (v := ?_) rfl (by kernel_rfl) (fun _ _ _ h => h) (by rfl) hHeld ?_ ?_
  rotate_left 1
  · (intro w hSw; (try dsimp only at hSw); go_simp; try (with_reducible rfl))
  try simp only [Act.put, nB, nC, nD]
  refine htk (i := 3) (v := ?_) rfl (by kernel_rfl) (fun _ _ _ h => h) (by rfl) hHeld ?_ ?_
  rotate_left 1
  · (intro w hSw; (try dsimp only at hSw); go_simp; try (with_reducible rfl))
  try simp only [Act.put, nB, nC, nD]
  refine htk (i := 4) (v := ?_) rfl (by kernel_rfl) (fun _ _ _ h => h) (by rfl) hHeld ?_ ?_
  rotate_left 1
  · (intro w hSw; (try dsimp only at hSw); go_simp; try (with_reducible rfl))
  try simp only [Act.put, nB, nC, nD]
  refine htk (i := 5) (v := ?_) rfl (by kernel_rfl) (fun _ _ _ h => h) (by rfl) hHeld ?_ ?_
  rotate_left 1
  · (intro w hSw; (try dsimp only at hSw); go_simp; try (with_reducible rfl))
  try simp only [Act.put, nB, nC, nD]
  refine htk (i := 6) (v := ?_) rfl (by kernel_rfl) (fun _ _ _ h => h) (by rfl) hHeld ?_ ?_
  rotate_left 1
  · (intro w hSw; (try dsimp only at hSw); go_simp; try (with_reducible rfl))
  try simp only [Act.put, nB, nC, nD]
  refine htk (i := 7) (v := ?_) rfl (by kernel_rfl) (fun _ _ _ h => h) (by rfl) hHeld ?_ ?_
  rotate_left 1
  · (intro w hSw; (try dsimp only at hSw); go_simp; try (with_reducible rfl))
  try simp only [Act.put, nB, nC, nD]
  refine htk (i := 8) (v := ?_) rfl (by kernel_rfl) (fun _ _ _ h => h) (by rfl) hHeld ?_ ?_
  rotate_left 1
  · (intro w hSw; (try dsimp only at hSw); go_simp; try (with_reducible rfl))
  try simp only [Act.put, nB, nC, nD]
  refine htk (i := 9) (v := ?_) rfl (by kernel_rfl) (fun _ _ _ h => h) (by rfl) hHeld ?_ ?_
  rotate_left 1
  · (intro w hSw; (try dsimp only at hSw); go_simp; try (with_reducible rfl))
  try simp only [Act.put, nB, nC, nD]
  refine htk (i := 11) (v := ?_) rfl (by kernel_rfl) (fun _ _ _ h => h) (by rfl) hHeld ?_ ?_
  rotate_left 1
  · (intro w hSw; (try dsimp only at hSw); go_simp; try (with_reducible rfl))
  try simp only [Act.put, nB, nC, nD]
  refine htk (i := 13) (v := ?_) rfl (by kernel_rfl) (fun _ _ _ h => h) (by rfl) hHeld ?_ ?_
  rotate_left 1
  · (intro w hSw; (try dsimp only at hSw); go_simp; try (with_reducible rfl))
  try simp only [Act.put, nB, nC, nD]
  refine htk (i := 14) (v := ?_) rfl (by kernel_rfl) (fun _ _ _ h => h) (by rfl) hHeld ?_ ?_
  rotate_left 1
  · (intro w hSw; (try dsimp only at hSw); go_simp; try (with_reducible rfl))
  try simp only [Act.put, nB, nC, nD]
  refine htk (i := 15) (v := ?_) rfl (by kernel_rfl) (fun _ _ _ h => h) (by rfl) hHeld ?_ ?_
  rotate_left 1
  · (intro w hSw; (try dsimp only at hSw); go_simp; try (with_reducible rfl))
  try simp only [Act.put, nB, nC, nD]
  refine htk (i := 16) (v := ?_) rfl (by kernel_rfl) (fun _ _ _ h => h) (by rfl) hHeld ?_ ?_
  rotate_left 1
  · (intro w hSw; (try dsimp only at hSw); go_simp; try (with_reducible rfl))
  try simp only [Act.put, nB, nC, nD]
  refine htk (i := 17) (v := ?_) rfl (by kernel_rfl) (fun _ _ _ h => h) (by rfl) hHeld ?_ ?_
  rotate_left 1
  · (intro w hSw; (try dsimp only at hSw); go_simp; try (with_reducible rfl))
  try simp only [Act.put, nB, nC, nD]
  refine htk (i := 20) (v := ?_) rfl (by kernel_rfl) (fun _ _ _ h => h) (by rfl) hHeld ?_ ?_
  rotate_left 1
  · (intro w hSw; (try dsimp only at hSw); go_simp; try (with_reducible rfl))
  try simp only [Act.put, nB, nC, nD]
  refine htk (i := 21) (v := ?_) rfl (by kernel_rfl) (fun _ _ _ h => h) (by rfl) hHeld ?_ ?_
  rotate_left 1
  · (intro w hSw; (try dsimp only at hSw); go_simp; try (with_reducible rfl))
  try simp only [Act.put, nB, nC, nD]
  refine htk (i := 22) (v := ?_) rfl (by kernel_rfl) (fun _ _ _ h => h) (by rfl) hHeld ?_ ?_
  rotate_left 1
  · (intro w hSw; (try dsimp only at hSw); go_simp; try (with_reducible rfl))
  try simp only [Act.put, nB, nC, nD]
  refine htk (i := 23) (v := ?_) rfl (by kernel_rfl) (fun _ _ _ h => h) (by rfl) hHeld ?_ ?_
  rotate_left 1
  · (intro w hSw; (try dsimp only at hSw); go_simp; try (with_reducible rfl))
  try simp only [Act.put, nB, nC, nD]
  refine htk (i := 24) (v := ?_) rfl (by kernel_rfl) (fun _ _ _ h => h) (by rfl) hHeld ?_ ?_
  rotate_left 1
  · (intro w hSw; (try dsimp only at hSw); go_simp; try (with_reducible rfl))
  try simp only [Act.put, nB, nC, nD]
  refine held_two (i := 10) (j := 26) rfl rfl (by kernel_rfl) (by rfl) (by rfl) (fun K hK => ?_) (fun K hK => ?_)
  · go_simp
    refine (HLm.out _ HB0.out).mono ?_
    rintro en w1 ⟨rfl, rfl⟩
    refine hK.out _ _ (hHeld) (fun hHeld2 => ?_)
    clear hK K hHeld; have hHeld := hHeld2; clear hHeld2
    try simp only [Act.put, nB, nC, nD]
    refine held_two (i := 12) (j := 26) rfl rfl (by kernel_rfl) (by rfl) (by rfl) (fun K hK => ?_) (fun K hK => ?_)
    · go_simp
      refine (HFr.out _ HB0.out).mono ?_
      rintro en w2 ⟨A2, c2, rfl, hrb, hq1, hq2, hab, hb2⟩
      have HC := qh (And.intro hq1 hq2)
      have HRB := qh hrb
      have HB2 := qh (HB0.out.trans (hb2.mono HB0.out.size))
      have HAL : Hid (∀ b off, A2 = some ⟨b, off, none⟩ → W1.heap.size ≤ b ∧ b < w2.heap.size) := fun b off e => ⟨Nat.le_trans HB0.out.size (hab b off e).1, (hab b off e).2⟩
      clear hrb hq1 hq2 hb2 hab
      refine hK.out _ _ (HS.out _ HB2.out) (fun hHeld2 => ?_)
      clear hK K hHeld; have hHeld := hHeld2; clear hHeld2
      try simp only [Act.put, nB, nC, nD]
      refine held_two (i := 18) (j := 26) rfl rfl (by kernel_rfl) (by rfl) (by rfl) (fun K hK => ?_) (fun K hK => ?_)
      · go_simp
        refine (HLi.out _ HB2.out).mono ?_
        rintro en w1 ⟨rfl, rfl⟩
        refine hK.out _ _ (hHeld) (fun hHeld2 => ?_)
        clear hK K hHeld; have hHeld := hHeld2; clear hHeld2
        try simp only [Act.put, nB, nC, nD]
        refine held_two (i := 19) (j := 26) rfl rfl (by kernel_rfl) (by rfl) (by rfl) (fun K hK => ?_) (fun K hK => ?_)
        · go_simp
          refine (HLn.out _ HB2.out).mono ?_
          rintro en w1 ⟨rfl, rfl⟩
          refine hK.out _ _ (hHeld) (fun hHeld2 => ?_)
          clear hK K hHeld; have hHeld := hHeld2; clear hHeld2
          try simp only [Act.put, nB, nC, nD]
          refine held_two (i := 25) (j := 26) rfl rfl (by kernel_rfl) (by rfl) (by rfl) (fun K hK => ?_) (fun K hK => ?_)
          · go_simp
            refine hK.out _ _ (hHeld) (fun hHeld2 => ?_)
            clear hK K hHeld; have hHeld := hHeld2; clear hHeld2
            try simp only [Act.put, nB, nC, nD]
            refine held_one (i := 26) rfl (by kernel_rfl) (by rfl) (fun K hK => ?_)
            go_simp
            have HPZ := qh (PkM.new w2 0 0 0 0 0 none 0 0 0 0 0)
            have HBA := qh (HB2.out.alloc HB2.out.size (pkO 0 0 0 0 0 none 0 0 0 0 0))
            have HPB : Hid (W1.heap.size ≤ w2.heap.size) := HB2.out.size
            have HRA := qh (HRB.out.next ((bR w2.heap.size w2).alloc (nl _) (pkO 0 0 0 0 0 none 0 0 0 0 0)))
            have HNP : Hid (∀ b off, A2 = some ⟨b, off, none⟩ → b ≠ w2.heap.size) := fun b off e e2 => by have h1 := (HAL.out b off e).2; omega
            refine hK.out _ _ (HS.out _ HBA.out) (fun hHeld2 => ?_)
            clear hK K hHeld; have hHeld := hHeld2; clear hHeld2
            try simp only [Act.put, nB, nC, nD]
            refine held_one (i := 27) rfl (by kernel_rfl) (by rfl) (fun K hK => ?_)
            refine wp_store_pk (.tmp 6) (.tmp 40) (by rfl) w2.heap.size (by rfl) HPZ.out (by rfl) ?_
            intro w7 K7 S7 R7
            have HPK := qh K7
            have HB7 := qh (HBA.out.grown R7 HBA.out.size (fun k e => by have := Option.some.inj e; have := HPB.out; omega))
            have HRB7 : Hid (RB w7 w7.heap.size A2 pr) := rb_wrote HRA.out R7 (fun _ b off e => HNP.out b off e)
            have HAB : Hid (∀ b off, A2 = some ⟨b, off, none⟩ → W1.heap.size ≤ b ∧ b ≠ w2.heap.size) := fun b off e => ⟨(HAL.out b off e).1, HNP.out b off e⟩
            refine hK.out _ _ (HS.out _ HB7.out) (fun hHeld2 => ?_)
            clear hK K hHeld; have hHeld := hHeld2; clear hHeld2
            try simp only [Act.put, nB, nC, nD]
            refine wpAnyH_done (by kernel_rfl) ?_ _
            clear hHeld
            go_wp2_with fail
            go_meet
            exact ⟨_, A2, c2, rfl, HPK, HRB7, HC, HB7, HPB, HAB⟩
          · go_simp
            have HPZ := qh (PkM.new w2 0 0 0 0 0 none 0 0 0 0 0)
            have HBA := qh (HB2.out.alloc HB2.out.size (pkO 0 0 0 0 0 none 0 0 0 0 0))
            have HPB : Hid (W1.heap.size ≤ w2.heap.size) := HB2.out.size
            have HRA := qh (HRB.out.next ((bR w2.heap.size w2).alloc (nl _) (pkO 0 0 0 0 0 none 0 0 0 0 0)))
            have HNP : Hid (∀ b off, A2 = some ⟨b, off, none⟩ → b ≠ w2.heap.size) := fun b off e e2 => by have h1 := (HAL.out b off e).2; omega
            refine hK.out _ _ (HS.out _ HBA.out) (fun hHeld2 => ?_)
            clear hK K hHeld; have hHeld := hHeld2; clear hHeld2
            try simp only [Act.put, nB, nC, nD]
            refine held_one (i := 25) rfl (by kernel_rfl) (by rfl) (fun K hK => ?_)
            go_simp
            refine hK.out _ _ (hHeld) (fun hHeld2 => ?_)
            clear hK K hHeld; have hHeld := hHeld2; clear hHeld2
            try simp only [Act.put, nB, nC, nD]
            refine held_one (i := 27) rfl (by kernel_rfl) (by rfl) (fun K hK => ?_)
            refine wp_store_pk (.tmp 6) (.tmp 40) (by rfl) w2.heap.size (by rfl) HPZ.out (by rfl) ?_
            intro w7 K7 S7 R7
            have HPK := qh K7
            have HB7 := qh (HBA.out.grown R7 HBA.out.size (fun k e => by have := Option.some.inj e; have := HPB.out; omega))
            have HRB7 : Hid (RB w7 w7.heap.size A2 pr) := rb_wrote HRA.out R7 (fun _ b off e => HNP.out b off e)
            have HAB : Hid (∀ b off, A2 = some ⟨b, off, none⟩ → W1.heap.size ≤ b ∧ b ≠ w2.heap.size) := fun b off e => ⟨(HAL.out b off e).1, HNP.out b off e⟩
            refine hK.out _ _ (HS.out _ HB7.out) (fun hHeld2 => ?_)
            clear hK K hHeld; have hHeld := hHeld2; clear hHeld2
            try simp only [Act.put, nB, nC, nD]
            refine wpAnyH_done (by kernel_rfl) ?_ _
            clear hHeld
            go_wp2_with fail
            go_meet
            exact ⟨_, A2, c2, rfl, HPK, HRB7, HC, HB7, HPB, HAB⟩
        · go_simp
          have HPZ := qh (PkM.new w2 0 0 0 0 0 none 0 0 0 0 0)
          have HBA := qh (HB2.out.alloc HB2.out.size (pkO 0 0 0 0 0 none 0 0 0 0 0))
          have HPB : Hid (W1.heap.size ≤ w2.heap.size) := HB2.out.size
          have HRA := qh (HRB.out.next ((bR w2.heap.size w2).alloc (nl _) (pkO 0 0 0 0 0 none 0 0 0 0 0)))
          have HNP : Hid (∀ b off, A2 = some ⟨b, off, none⟩ → b ≠ w2.heap.size) := fun b off e e2 => by have h1 := (HAL.out b off e).2; omega
          refine hK.out _ _ (HS.out _ HBA.out) (fun hHeld2 => ?_)
          clear hK K hHeld; have hHeld := hHeld2; clear hHeld2
          try simp only [Act.put, nB, nC, nD]
          refine held_one (i := 19) rfl (by kernel_rfl) (by rfl) (fun K hK => ?_)
          go_simp
          refine (HLn.out _ HBA.out).mono ?_
          rintro en w1 ⟨rfl, rfl⟩
          refine hK.out _ _ (hHeld) (fun hHeld2 => ?_)
          clear hK K hHeld; have hHeld := hHeld2; clear hHeld2
          try simp only [Act.put, nB, nC, nD]
          refine held_one (i := 25) rfl (by kernel_rfl) (by rfl) (fun K hK => ?_)
          go_simp
          refine hK.out _ _ (hHeld) (fun hHeld2 => ?_)
          clear hK K hHeld; have hHeld := hHeld2; clear hHeld2
          try simp only [Act.put, nB, nC, nD]
          refine held_one (i := 27) rfl (by kernel_rfl) (by rfl) (fun K hK => ?_)
          refine wp_store_pk (.tmp 6) (.tmp 40) (by rfl) w2.heap.size (by rfl) HPZ.out (by rfl) ?_
          intro w7 K7 S7 R7
          have HPK := qh K7
          have HB7 := qh (HBA.out.grown R7 HBA.out.size (fun k e => by have := Option.some.inj e; have := HPB.out; omega))
          have HRB7 : Hid (RB w7 w7.heap.size A2 pr) := rb_wrote HRA.out R7 (fun _ b off e => HNP.out b off e)
          have HAB : Hid (∀ b off, A2 = some ⟨b, off, none⟩ → W1.heap.size ≤ b ∧ b ≠ w2.heap.size) := fun b off e => ⟨(HAL.out b off e).1, HNP.out b off e⟩
          refine hK.out _ _ (HS.out _ HB7.out) (fun hHeld2 => ?_)
          clear hK K hHeld; have hHeld := hHeld2; clear hHeld2
          try simp only [Act.put, nB, nC, nD]
          refine wpAnyH_done (by kernel_rfl) ?_ _
          clear hHeld
          go_wp2_with fail
          go_meet
          exact ⟨_, A2, c2, rfl, HPK, HRB7, HC, HB7, HPB, HAB⟩
      · go_simp
        have HPZ := qh (PkM.new w2 0 0 0 0 0 none 0 0 0 0 0)
        have HBA := qh (HB2.out.alloc HB2.out.size (pkO 0 0 0 0 0 none 0 0 0 0 0))
        have HPB : Hid (W1.heap.size ≤ w2.heap.size) := HB2.out.size
        have HRA := qh (HRB.out.next ((bR w2.heap.size w2).alloc (nl _) (pkO 0 0 0 0 0 none 0 0 0 0 0)))
        have HNP : Hid (∀ b off, A2 = some ⟨b, off, none⟩ → b ≠ w2.heap.size) := fun b off e e2 => by have h1 := (HAL.out b off e).2; omega
        refine hK.out _ _ (HS.out _ HBA.out) (fun hHeld2 => ?_)
        clear hK K hHeld; have hHeld := hHeld2; clear hHeld2
        try simp only [Act.put, nB, nC, nD]
        refine held_one (i := 18) rfl (by kernel_rfl) (by rfl) (fun K hK => ?_)
        go_simp
        refine (HLi.out _ HBA.out).mono ?_
        rintro en w1 ⟨rfl, rfl⟩
        refine hK.out _ _ (hHeld) (fun hHeld2 => ?_)
        clear hK K hHeld; have hHeld := hHeld2; clear hHeld2
        try simp only [Act.put, nB, nC, nD]
        refine held_one (i := 19) rfl (by kernel_rfl) (by rfl) (fun K hK => ?_)
        go_simp
        refine (HLn.out _ HBA.out).mono ?_
        rintro en w1 ⟨rfl, rfl⟩
        refine hK.out _ _ (hHeld) (fun hHeld2 => ?_)
        clear hK K hHeld; have hHeld := hHeld2; clear hHeld2
        try simp only [Act.put, nB, nC, nD]
        refine held_one (i := 25) rfl (by kernel_rfl) (by rfl) (fun K hK => ?_)
        go_simp
        refine hK.out _ _ (hHeld) (fun hHeld2 => ?_)
        clear hK K hHeld; have hHeld := hHeld2; clear hHeld2
        try simp only [Act.put, nB, nC, nD]
        refine held_one (i := 27) rfl (by kernel_rfl) (by rfl) (fun K hK => ?_)
        refine wp_store_pk (.tmp 6) (.tmp 40) (by rfl) w2.heap.size (by rfl) HPZ.out (by rfl) ?_
        intro w7 K7 S7 R7
        have HPK := qh K7
        have HB7 := qh (HBA.out.grown R7 HBA.out.size (fun k e => by have := Option.some.inj e; have := HPB.out; omega))
        have HRB7 : Hid (RB w7 w7.heap.size A2 pr) := rb_wrote HRA.out R7 (fun _ b off e => HNP.out b off e)
        have HAB : Hid (∀ b off, A2 = some ⟨b, off, none⟩ → W1.heap.size ≤ b ∧ b ≠ w2.heap.size) := fun b off e => ⟨(HAL.out b off e).1, HNP.out b off e⟩
        refine hK.out _ _ (HS.out _ HB7.out) (fun hHeld2 => ?_)
        clear hK K hHeld; have hHeld := hHeld2; clear hHeld2
        try simp only [Act.put, nB, nC, nD]
        refine wpAnyH_done (by kernel_rfl) ?_ _
        clear hHeld
        go_wp2_with fail
        go_meet
        exact ⟨_, A2, c2, rfl, HPK, HRB7, HC, HB7, HPB, HAB⟩
    · go_simp
      have HPZ := qh (PkM.new W1.drew 0 0 0 0 0 none 0 0 0 0 0)
      have HBA := qh (HB0.out.alloc HB0.out.size (pkO 0 0 0 0 0 none 0 0 0 0 0))
      have HPB : Hid (W1.heap.size ≤ W1.drew.heap.size) := HB0.out.size
      refine hK.out _ _ (HS.out _ HBA.out) (fun hHeld2 => ?_)
      clear hK K hHeld; have hHeld := hHeld2; clear hHeld2
      try simp only [Act.put, nB, nC, nD]
      refine held_one (i := 12) rfl (by kernel_rfl) (by rfl) (fun K hK => ?_)
      go_simp
      refine (HFr.out _ HBA.out).mono ?_
      rintro en w2 ⟨A2, c2, rfl, hrb, hq1, hq2, hab, hb2⟩
      have HC := qh (And.intro hq1 hq2)
      have HRB := qh hrb
      have HB2 := qh (HBA.out.trans (hb2.mono HBA.out.size))
      have HAL : Hid (∀ b off, A2 = some ⟨b, off, none⟩ → W1.heap.size ≤ b ∧ b < w2.heap.size) := fun b off e => ⟨Nat.le_trans HBA.out.size (hab b off e).1, (hab b off e).2⟩
      have HNP : Hid (∀ b off, A2 = some ⟨b, off, none⟩ → b ≠ W1.drew.heap.size) := fun b off e e2 => by have h1 := (hab b off e).1; have h2 := HPZ.out.lt; omega
      have HPA := qh (HPZ.out.below hb2 HPZ.out.lt)
      clear hrb hq1 hq2 hb2 hab
      refine hK.out _ _ (HS.out _ HB2.out) (fun hHeld2 => ?_)
      clear hK K hHeld; have hHeld := hHeld2; clear hHeld2
      try simp only [Act.put, nB, nC, nD]
      refine held_one (i := 18) rfl (by kernel_rfl) (by rfl) (fun K hK => ?_)
      go_simp
      refine (HLi.out _ HB2.out).mono ?_
      rintro en w1 ⟨rfl, rfl⟩
      refine hK.out _ _ (hHeld) (fun hHeld2 => ?_)
      clear hK K hHeld; have hHeld := hHeld2; clear hHeld2
      try simp only [Act.put, nB, nC, nD]
      refine held_one (i := 19) rfl (by kernel_rfl) (by rfl) (fun K hK => ?_)
      go_simp
      refine (HLn.out _ HB2.out).mono ?_
      rintro en w1 ⟨rfl, rfl⟩
      refine hK.out _ _ (hHeld) (fun hHeld2 => ?_)
      clear hK K hHeld; have hHeld := hHeld2; clear hHeld2
      try simp only [Act.put, nB, nC, nD]
      refine held_one (i := 25) rfl (by kernel_rfl) (by rfl) (fun K hK => ?_)
      go_simp
      refine hK.out _ _ (hHeld) (fun hHeld2 => ?_)
      clear hK K hHeld; have hHeld := hHeld2; clear hHeld2
      try simp only [Act.put, nB, nC, nD]
      refine held_one (i := 27) rfl (by kernel_rfl) (by rfl) (fun K hK => ?_)
      refine wp_store_pk (.tmp 6) (.tmp 40) (by rfl) W1.drew.heap.size (by rfl) HPA.out (by rfl) ?_
      intro w7 K7 S7 R7
      have HPK := qh K7
      have HB7 := qh (HB2.out.grown R7 HB2.out.size (fun k e => by have := Option.some.inj e; have := HPB.out; omega))
      have HRB7 : Hid (RB w7 w7.heap.size A2 pr) := rb_wrote HRB.out R7 (fun _ b off e => HNP.out b off e)
      have HAB : Hid (∀ b off, A2 = some ⟨b, off, none⟩ → W1.heap.size ≤ b ∧ b ≠ W1.drew.heap.size) := fun b off e => ⟨(HAL.out b off e).1, HNP.out b off e⟩
      refine hK.out _ _ (HS.out _ HB7.out) (fun hHeld2 => ?_)
      clear hK K hHeld; have hHeld := hHeld2; clear hHeld2
      try simp only [Act.put, nB, nC, nD]
      refine wpAnyH_done (by kernel_rfl) ?_ _
      clear hHeld
      go_wp2_with fail
      go_meet
      exact ⟨_, A2, c2, rfl, HPK, HRB7, HC, HB7, HPB, HAB⟩
  · go_simp
    have HPZ := qh (PkM.new W1.drew 0 0 0 0 0 none 0 0 0 0 0)
    have HBA := qh (HB0.out.alloc HB0.out.size (pkO 0 0 0 0 0 none 0 0 0 0 0))
    have HPB : Hid (W1.heap.size ≤ W1.drew.heap.size) := HB0.out.size
    refine hK.out _ _ (HS.out _ HBA.out) (fun hHeld2 => ?_)
    clear hK K hHeld; have hHeld := hHeld2; clear hHeld2
    try simp only [Act.put, nB, nC, nD]
    refine held_one (i := 10) rfl (by kernel_rfl) (by rfl) (fun K hK => ?_)
    go_simp
    refine (HLm.out _ HBA.out).mono ?_
    rintro en w1 ⟨rfl, rfl⟩
    refine hK.out _ _ (hHeld) (fun hHeld2 => ?_)
    clear hK K hHeld; have hHeld := hHeld2; clear hHeld2
    try simp only [Act.put, nB, nC, nD]
    refine held_one (i := 12) rfl (by kernel_rfl) (by rfl) (fun K hK => ?_)
    go_simp
    refine (HFr.out _ HBA.out).mono ?_
    rintro en w2 ⟨A2, c2, rfl, hrb, hq1, hq2, hab, hb2⟩
    have HC := qh (And.intro hq1 hq2)
    have HRB := qh hrb
    have HB2 := qh (HBA.out.trans (hb2.mono HBA.out.size))
    have HAL : Hid (∀ b off, A2 = some ⟨b, off, none⟩ → W1.heap.size ≤ b ∧ b < w2.heap.size) := fun b off e => ⟨Nat.le_trans HBA.out.size (hab b off e).1, (hab b off e).2⟩
    have HNP : Hid (∀ b off, A2 = some ⟨b, off, none⟩ → b ≠ W1.drew.heap.size) := fun b off e e2 => by have h1 := (hab b off e).1; have h2 := HPZ.out.lt; omega
    have HPA := qh (HPZ.out.below hb2 HPZ.out.lt)
    clear hrb hq1 hq2 hb2 hab
    refine hK.out _ _ (HS.out _ HB2.out) (fun hHeld2 => ?_)
    clear hK K hHeld; have hHeld := hHeld2; clear hHeld2
    try simp only [Act.put, nB, nC, nD]
    refine held_one (i := 18) rfl (by kernel_rfl) (by rfl) (fun K hK => ?_)
    go_simp
    refine (HLi.out _ HB2.out).mono ?_
    rintro en w1 ⟨rfl, rfl⟩
    refine hK.out _ _ (hHeld) (fun hHeld2 => ?_)
    clear hK K hHeld; have hHeld := hHeld2; clear hHeld2
    try simp only [Act.put, nB, nC, nD]
    refine held_one (i := 19) rfl (by kernel_rfl) (by rfl) (fun K hK => ?_)
    go_simp
    refine (HLn.out _ HB2.out).mono ?_
    rintro en w1 ⟨rfl, rfl⟩
    refine hK.out _ _ (hHeld) (fun hHeld2 => ?_)
    clear hK K hHeld; have hHeld := hHeld2; clear hHeld2
    try simp only [Act.put, nB, nC, nD]
    refine held_one (i := 25) rfl (by kernel_rfl) (by rfl) (fun K hK => ?_)
    go_simp
    refine hK.out _ _ (hHeld) (fun hHeld2 => ?_)
    clear hK K hHeld; have hHeld := hHeld2; clear hHeld2
    try simp only [Act.put, nB, nC, nD]
    refine held_one (i := 27) rfl (by kernel_rfl) (by rfl) (fun K hK => ?_)
    refine wp_store_pk (.tmp 6) (.tmp 40) (by rfl) W1.drew.heap.size (by rfl) HPA.out (by rfl) ?_
    intro w7 K7 S7 R7
    have HPK := qh K7
    have HB7 := qh (HB2.out.grown R7 HB2.out.size (fun k e => by have := Option.some.inj e; have := HPB.out; omega))
    have HRB7 : Hid (RB w7 w7.heap.size A2 pr) := rb_wrote HRB.out R7 (fun _ b off e => HNP.out b off e)
    have HAB : Hid (∀ b off, A2 = some ⟨b, off, none⟩ → W1.heap.size ≤ b ∧ b ≠ W1.drew.heap.size) := fun b off e => ⟨(HAL.out b off e).1, HNP.out b off e⟩
    refine hK.out _ _ (HS.out _ HB7.out) (fun hHeld2 => ?_)
    clear hK K hHeld; have hHeld := hHeld2; clear hHeld2
    try simp only [Act.put, nB, nC, nD]
    refine wpAnyH_done (by kernel_rfl) ?_ _
    clear hHeld
    go_wp2_with fail
    go_meet
    exact ⟨_, A2, c2, rfl, HPK, HRB7, HC, HB7, HPB, HAB⟩
 case rest =>
  obtain ⟨P, A2, c2, rfl, HPK, HRB, HC, HB, HP, HAB⟩ := hcut
  have hPR : P ≠ R := by have := HP.out; have := HRL.out; omega
  obtain ⟨p0, p1, p2, p3, p4, p5, p6, p7, p8⟩ := HPK.out.c
  by_cases hM0 : M = 0
  · obtain rfl := HLAST.out hM0
    subst hM0
    have hRx := HR.out.below HB.out HRL.out
    go_wp2_with (first
     | (refine wpList_load_pk rfl (.tmp 6) rfl P rfl HPK.out ?_)
     | (refine wpList_store_pk rfl (.tmp 4) (.tmp 54) rfl R rfl hRx rfl ?_; intro w7 K7 S7 R7))
    refine bodyPost_ret (results_cell_row rfl _ _ R _ _ _ _ rfl K7 Tryz.underlying36 rfl (by rw [pk_info]; rfl)) rfl ?_
    rw [HEQ.out]
    exact ⟨A2, PN, c2, rfl, rb_wrote HRB.out R7 (fun _ b off e => by have h1 := (HAB.out b off e).1; have h2 := HRL.out; omega), HPN.out, HC.out.1, HC.out.2, fin_below B1.out HB.out R7 HRR.out⟩
  · have hM1 : 0 < M := by omega
    obtain ⟨b, rfl, cm⟩ := HMK.out _ HB.out su (HLASTP.out hM1)
    obtain ⟨j, hj⟩ : ∃ j, M - 1 = j := ⟨_, rfl⟩
    rw [hj] at cm
    have hji : (M : Int) - 1 = (j : Int) := by omega
    have hjM : (j : Int) < (M : Int) := by omega
    have hM0i : (0 : Int) < (M : Int) := by omega
    have hM0d : decide ((0 : Int) < (M : Int)) = true := by simp; omega
    obtain ⟨-, -, c13⟩ := HS.out _ HB.out
    have fz := HPK.out.fz 8
    obtain ⟨w5, hw5⟩ : ∃ w5, w5 = (wc.setCell ⟨P, 8, none⟩ (.int .u32 su)).drew := ⟨_, rfl⟩
    have HPK5 : Hid (PkM w5 P 1 0 0 0 (f : Int) A2 PN c2 (LI : Int) (M : Int) su) := by rw [hw5]; exact HPK.out.set_su su
    have HB5 : Hid (Below W1.heap.size W1 w5) := by rw [hw5]; exact (HB.out.setCell (p := ⟨P, 8, none⟩) HP.out _).drew
    have HRB5 : Hid (RB w5 w5.heap.size A2 pr) := by rw [hw5]; have h7 := rb_wrote HRB.out (bu_grown wc P 8 (.int .u32 su)) (fun _ b off e => (HAB.out b off e).2); exact h7
    have HW5 := qh hw5
    clear hw5 HPK HB HRB hj hM1 hM0 p0 p1 p2 p3 p4 p5 p6 HMK HLASTP
    go_wp2_with fail
    go_big_region
    rw [← HW5.out]
    clear HW5 p7 p8 cm c13 fz
    have hRx := HR.out.below HB5.out HRL.out
    go_wp2_with (first
     | (refine wpList_load_pk rfl (.tmp 6) rfl P rfl HPK5.out ?_)
     | (refine wpList_store_pk rfl (.tmp 4) (.tmp 54) rfl R rfl hRx rfl ?_; intro w7 K7 S7 R7))
    refine bodyPost_ret (results_cell_row rfl _ _ R _ _ _ _ rfl K7 Tryz.underlying36 rfl (by rw [pk_info]; rfl)) rfl ?_
    rw [HEQ.out]
    exact ⟨A2, PN, c2, rfl, rb_wrote HRB5.out R7 (fun _ b off e => by have h1 := (HAB.out b off e).1; have h2 := HRL.out; omega), HPN.out, HC.out.1, HC.out.2, fin_below B1.out HB5.out R7 HRR.out⟩
theorem PkM.set_f {w : World} {P : Nat} {k f t id fi : Int} {A : Option Addr} {n c : Nat} {ac fr su : Int} (h : PkM w P k f t id fi A n c ac fr su) (v : Int) : PkM (w.setCell ⟨P, 1, none⟩ (.int .i64 v)) P k v t id fi A n c ac fr su := by
 unfold PkM at h ⊢
 simp only [World.setCell]
 rw [Array.getElem?_modify, if_pos rfl, h]
 rfl
theorem PkM.set_t {w : World} {P : Nat} {k f t id fi : Int} {A : Option Addr} {n c : Nat} {ac fr su : Int} (h : PkM w P k f t id fi A n c ac fr su) (v : Int) : PkM (w.setCell ⟨P, 2, none⟩ (.int .i64 v)) P k f v id fi A n c ac fr su := by
 unfold PkM at h ⊢
 simp only [World.setCell]
 rw [Array.getElem?_modify, if_pos rfl, h]
 rfl
theorem take_snoc {α : Type} (xs : List α) (k : Nat) (x : α) (h : xs[k]? = some x) : xs.take (k + 1) = xs.take k ++ [x] := by
 rw [List.take_add_one, h]; rfl
theorem last_rng {C : Cf} {m : Nat} {s : Pl} (h : Ok C m s) : 0 ≤ lastM s ∧ lastM s ≤ 4294967295 := by
 unfold lastM
 split
 · rename_i h0
   obtain ⟨u, hu⟩ : ∃ u, s.ms[s.ms.length - 1]? = some u := ⟨_, List.getElem?_eq_getElem (by omega)⟩
   rw [hu]
   exact h.mu u (List.mem_of_getElem? hu)
 · omega
def encT (C : Cf) (i : Nat) (p : Pk) : List UInt8 := encC p.k C.me i C.id p.fi p.ac p.fr p.su p.l
set_option maxHeartbeats 8000000 in
theorem core_to_in (w0 w : World) (K : Cm) (h : CM w0 w K) (hT : TabW w0) (m : Nat) (hok : Ok K.C m K.s) (h8 : K.C.n ≤ 8) (hme : K.C.me < K.C.n) {kc : Nat} (hkc : K.c = kc) :
 Calls Tryz.prog 73 #[pB kc, .func (.func 74) #[pB kc] #[]] w fun e w' => ∃ v B, e = .returned v ∧ Tells w' B v K.C.me ((othersP K.C).map fun i => (i, encT K.C i (inP K.C K.s i))) ∧ Below w.heap.size w w' ∧ w.heap.size ≤ B := by
 obtain ⟨N, hN⟩ : ∃ N, K.C.n = N := ⟨_, rfl⟩
 obtain ⟨me, hmq⟩ : ∃ me, K.C.me = me := ⟨_, rfl⟩
 obtain ⟨ID, hID⟩ : ∃ ID, K.C.id = ID := ⟨_, rfl⟩
 obtain ⟨os, hos⟩ : ∃ os, othersP K.C = os := ⟨_, rfl⟩
 obtain ⟨O, hO⟩ : ∃ O, os.length = O := ⟨_, rfl⟩
 have HOT := qh (core_others w0 w K h h8 hkc)
 rw [hos] at HOT
 rw [hos, hmq]
 have HOX : Hid (∀ (k x : Nat), os[k]? = some x → x < N) := fun k x hx => by rw [← hos, othersP_eq] at hx; rw [← hN]; exact (otN_mem hx).1
 have HO8 : Hid (O ≤ 8) := by show _ ≤ _; rw [← hO, ← hos, othersP_eq]; exact Nat.le_trans (otN_len _ _) h8
 have HCC : Hid (∀ W, Below w.heap.size w W → W.cell? ⟨kc, 1, none⟩ = some (.int .i64 (me : Int)) ∧ W.cell? ⟨kc, 2, none⟩ = some (.int .i64 ID)) := fun W hb => by
  have a1 := (h.belows hb).cell 1 _ rfl; have a2 := (h.belows hb).cell 2 _ rfl
  rw [hkc, hmq] at a1; rw [hkc, hID] at a2
  exact ⟨a1, a2⟩
 have HTT : Hid (∀ W, Below w.heap.size w W → TabW W) := fun W hb => hT.below (h.be.trans (hb.mono h.be.size)) hT.lt
 have HSAY : Hid (∀ W, Below w.heap.size w W → ∀ i : Nat, i < N → Calls Tryz.prog 74 #[pB kc, .int .i64 (i : Int)] W fun e w' => Says W w' e (inP K.C K.s i)) := fun W hb i hi => core_input w0 W K (h.belows hb) N m hN hok (by rw [← hN]; exact hme) i hi hkc
 have HENC : Hid (∀ (i : Nat) (p : Pk), encT K.C i p = encC p.k me i ID p.fi p.ac p.fr p.su p.l) := fun i p => by unfold encT; rw [hmq, hID]
 have HSU0 : Hid (∀ i : Nat, 0 ≤ (inP K.C K.s i).su ∧ (inP K.C K.s i).su ≤ 4294967295) := fun i => last_rng hok
 have HKL : Hid (kc < w.heap.size) := by show _ < _; rw [← hkc]; exact h.clt
 have HOL := qh hO
 clear h hT hok h8 hme hkc hN hmq hID hos hO
 go_enter Tryz.func73, Tryz.ntmps73
 go_wp2_with (first
  | (go_at_call 71; (refine HOT.out.mono ?_); rintro en w2 ⟨ov, rfl, ho, hb2⟩; obtain ⟨OA, oc, rfl, hoc⟩ := ho.at; have HO2 := qh hoc; have HB2 := qh hb2; clear ho hb2 hoc HOT; rw [HOL.out]))
 go_loopw [5, 7, 8, 12] (fun v1 tt pp ii wr => ∃ (k : Nat) (vv : Value), ii = .int .i64 (k : Int) ∧ vv = v1 ∧ k ≤ O ∧ Hid (Tells wr w2.heap.size vv me ((os.take k).map fun i => (i, encT K.C i (inP K.C K.s i)))) ∧ Hid (Below w2.heap.size w2 wr)) (fun _ _ _ ii _ => O - (intOf ii).toNat)
 case atStart => exact ⟨0, _, rfl, rfl, by omega, Tells.nil _ _ _, bR _ _⟩
 case round =>
  obtain ⟨k0, vv, rfl, rfl, hk, HTE, HB⟩ := hrel
  have hO8 := HO8.out
  by_cases hlt : k0 < O
  · have hkN : (k0 : Int) < (O : Int) := by omega
    have hk2 : Hid (k0 + 1 ≤ O) := hlt
    have hms : Hid (O - (k0 + 1) < O - k0) := by show _ < _; omega
    obtain ⟨x, hx⟩ : ∃ x, os[k0]? = some x := ⟨_, List.getElem?_eq_getElem (by rw [HOL.out]; exact hlt)⟩
    have HX := qh hx
    obtain ⟨b, rfl, hbl, hbc⟩ := HO2.out k0 x hx
    have cx := (HB.out.cell (p := ⟨b, k0, none⟩) hbl).trans hbc
    have HBW : Hid (Below w.heap.size w wr) := HB2.out.trans (HB.out.mono HB2.out.size)
    have HS1 := qh (HSAY.out wr HBW.out x (HOX.out k0 x hx))
    obtain ⟨p, hp⟩ : ∃ p, (fun i => (inP K.C K.s i)) x = p := ⟨_, rfl⟩
    have hp' : (inP K.C K.s x) = p := hp
    have HP := qh hp'
    rw [hp'] at HS1
    have hsu := HSU0.out x
    rw [hp'] at hsu
    obtain ⟨k, f, t, id, fi, ac, fr, su, l3⟩ := p
    have HSU := qh hsu
    obtain ⟨L7, hL7⟩ : ∃ L7, (encC k me x ID fi ac fr su l3).length = L7 := ⟨_, rfl⟩
    have HL7 := qh hL7
    clear hx hbl hbc hp hp' hsu hL7
    go_wp2_with (first
     | (go_at_call 74; (refine HS1.out.mono ?_); rintro en w3 ⟨A3, n3, c3, rfl, hr3, hl3, hnc3, hcm3, hb3⟩; have HR3 := qh hr3; have HL3 := qh hl3; have HNC3 := qh hnc3; have HCM3 := qh hcm3; have HB3 := qh hb3; clear hr3 hl3 hnc3 hcm3 hb3 HS1))
    obtain ⟨W4, hW4⟩ : ∃ W4, W4 = w3.alloc (pkO k f t id fi A3 n3 c3 ac fr su) := ⟨_, rfl⟩
    have HK4 : Hid (PkM W4 w3.heap.size k f t id fi A3 n3 c3 ac fr su) := by rw [hW4]; exact PkM.new _ _ _ _ _ _ _ _ _ _ _ _
    have HB4 : Hid (Below wr.heap.size wr W4) := by rw [hW4]; exact HB3.out.alloc HB3.out.size _
    have HR4 : Hid (RB W4 w3.heap.size A3 l3) := by rw [hW4]; exact HR3.out.below ((bR _ _).alloc (nl _) _)
    rw [← hW4]
    have HSZ3 := qh HB3.out.size
    clear hW4 HB3 HR3
    obtain ⟨P, hP⟩ : ∃ P, w3.heap.size = P := ⟨_, rfl⟩
    try rw [hP]
    rw [hP] at HK4 HR4 HSZ3
    clear hP cx
    obtain ⟨c1, c2⟩ := HCC.out W4 (HBW.out.trans (HB4.out.mono HBW.out.size))
    obtain ⟨-, q1, q2, q3, -, -, -, -, -⟩ := HK4.out.c
    have z1 := HK4.out.fz 1; have z2 := HK4.out.fz 2; have z3 := HK4.out.fz 3
    obtain ⟨w6, hw6⟩ : ∃ w6, w6 = (((W4.setCell ⟨P, 1, none⟩ (.int .i64 (me : Int))).setCell ⟨P, 2, none⟩ (.int .i64 (x : Int))).setCell ⟨P, 3, none⟩ (.int .i64 ID)).drew := ⟨_, rfl⟩
    have HK6 : Hid (PkM w6 P k (me : Int) (x : Int) ID fi A3 n3 c3 ac fr su) := by rw [hw6]; exact ((HK4.out.set_f _).set_t _).set_id _
    have HB6 : Hid (Below wr.heap.size wr w6) := by rw [hw6]; exact (((HB4.out.setCell (p := ⟨P, 1, none⟩) HSZ3.out _).setCell (p := ⟨P, 2, none⟩) HSZ3.out _).setCell (p := ⟨P, 3, none⟩) HSZ3.out _).drew
    have HR6 : Hid (RB w6.drew w6.drew.heap.size A3 l3) := by
     have e1 := HR4.out.below (((((bR P W4).setCell (p := ⟨P, 1, none⟩) (nl _) (.int .i64 (me : Int))).setCell (p := ⟨P, 2, none⟩) (nl _) (.int .i64 (x : Int))).setCell (p := ⟨P, 3, none⟩) (nl _) (.int .i64 ID)).drew)
     rw [← hw6] at e1
     exact e1.more (Nat.le_of_lt HK6.out.lt)
    have HW6 := qh hw6
    clear hw6
    have hne1 : kc ≠ P := by have h1 := HKL.out; have h2 := HBW.out.size; have h3 := HSZ3.out; omega
    have hne2 : P ≠ kc := fun e => hne1 e.symm
    go_wp2_with fail
    go_big_region
    rw [← HW6.out]
    clear HW6 c1 c2 q1 q2 q3 z1 z2 z3 HK4 HB4 HR4
    go_wp2_with fail
    obtain ⟨ms, hml, hmm⟩ := HTE.out
    have HBX : Hid (Below wr.heap.size wr w6.drew) := HB6.out.drew
    have HT6 : Hid (TabW w6.drew) := HTT.out _ (HBW.out.trans (HBX.out.mono HBW.out.size))
    have HML : Hid (∀ W, Below w6.drew.heap.size w6.drew W → ML W w2.heap.size vv ms) := fun W hb => (hml.belows HBX.out).belows hb
    have HWR : Hid (∀ W, Below w6.drew.heap.size w6.drew W → WR W vv ms) := fun W hb => (HML.out W hb).wr
    have HMM := qh hmm
    have HMS : Hid (ms.length + 1 ≤ 1000000) := by
     show _ ≤ _
     have := congrArg List.length hmm
     simp only [List.length_map, List.length_take] at this
     have := HO8.out; have := HOL.out; omega
    have HLT : Hid (∀ i, vv.ownBlock = some i → i < w6.drew.heap.size) := fun i hi => Nat.lt_of_lt_of_le (hml.wr.lt i hi) HBX.out.size
    have HGE : Hid (∀ i, vv.ownBlock = some i → w2.heap.size ≤ i) := hml.ge
    have HSZ : Hid (w2.heap.size ≤ w6.drew.heap.size) := Nat.le_trans HB.out.size HBX.out.size
    have HBB : Hid (∀ W, Below w6.drew.heap.size w6.drew W → Below w2.heap.size w2 W) := fun W hb => (HB.out.trans (HBX.out.mono HB.out.size)).trans (hb.mono HSZ.out)
    have HNR : Hid (some P ≠ vv.ownBlock) := fun e => by have h1 := hml.wr.lt P e.symm; have h2 := HSZ3.out; omega
    clear hml hmm
    refine wp_region_held_drew (S := (fun w' => w'.cell? ⟨P, 1, none⟩ = some (.int .i64 (me : Int)) ∧ w'.cell? ⟨P, 2, none⟩ = some (.int .i64 (x : Int)) ∧ PkM w' P k (me : Int) (x : Int) ID fi A3 n3 c3 ac fr su)) (by kernel_rfl) (by have h : PkM w6.drew P k (me : Int) (x : Int) ID fi A3 n3 c3 ac fr su := HK6.out; exact ⟨h.c.2.1, h.c.2.2.1, h⟩) (fun hHeld => ?_)
    refine htk (i := 0) (v := ?_) rfl (by kernel_rfl) (fun _ _ _ h => h) (by rfl) hHeld ?_ ?_
    rotate_left 1
    · (intro w hSw; (try dsimp only at hSw); go_simp; try (with_reducible rfl))
    try simp only [Act.put, nB, nC, nD]
    refine htk (i := 1) (v := ?_) rfl (by kernel_rfl) (fun _ _ _ h => h) (by rfl) hHeld ?_ ?_
    rotate_left 1
    · (intro w hSw; (try dsimp only at hSw); go_simp; try (with_reducible rfl))
    try simp only [Act.put, nB, nC, nD]
    refine htk (i := 2) (v := ?_) rfl (by kernel_rfl) (fun _ _ _ h => h) (by rfl) hHeld ?_ ?_
    rotate_left 1
    · (intro w hSw; (try dsimp only at hSw); go_simp; try (with_reducible rfl))
    try simp only [Act.put, nB, nC, nD]
    refine htk (i := 3) (v := ?_) rfl (by kernel_rfl) (fun _ _ _ h => h) (by rfl) hHeld ?_ ?_
    rotate_left 1
    · (intro w hSw; (try dsimp only at hSw); go_simp; try (with_reducible rfl))
    try simp only [Act.put, nB, nC, nD]
    refine htk (i := 4) (v := ?_) rfl (by kernel_rfl) (fun _ _ _ h => h) (by rfl) hHeld ?_ ?_
    rotate_left 1
    · (intro w hSw; (try dsimp only at hSw); go_simp; try (with_reducible rfl))
    try simp only [Act.put, nB, nC, nD]
    refine htk (i := 5) (v := pkV k (me : Int) (x : Int) ID fi A3 n3 c3 ac fr su) rfl (by kernel_rfl) (fun _ _ _ h => h) (by rfl) hHeld (exec_load_pk (.tmp 8) rfl P (by rfl) (fun w h => h.2.2)) ?_
    try simp only [Act.put, nB, nC, nD]
    refine held_one (i := 6) rfl (by kernel_rfl) (by rfl) (fun K hK => ?_)
    go_simp
    refine (enc_any k (me : Int) (x : Int) ID fi A3 l3 n3 c3 ac fr su w6.drew HT6.out HR6.out HL3.out HNC3.out HCM3.out HSU.out.1 HSU.out.2).mono ?_
    rintro en w7 ⟨v7, rfl, ho7, hb7⟩
    obtain ⟨B7, e7, rfl, -, -, -⟩ := ho7.form_n L7 HL7.out
    have HO7 := qh ho7
    have HB7 := qh hb7
    have HK7 := qh (PkM.below (w := w6.drew) HK6.out hb7 HK6.out.lt)
    clear ho7 hb7
    refine hK.out _ _ (by have h := HK7.out; exact ⟨h.c.2.1, h.c.2.2.1, h⟩) (fun hHeld2 => ?_)
    clear hK K hHeld; have hHeld := hHeld2; clear hHeld2
    try simp only [Act.put, nB, nC, nD]
    refine held_one (i := 7) rfl (by kernel_rfl) (by rfl) (fun K hK => ?_)
    go_simp
    refine hK.out _ _ (hHeld) (fun hHeld2 => ?_)
    clear hK K hHeld; have hHeld := hHeld2; clear hHeld2
    try simp only [Act.put, nB, nC, nD]
    refine held_one (i := 8) rfl (by kernel_rfl) (by rfl) (fun K hK => ?_)
    go_simp
    have HA8 := qh ((bR w7.heap.size w7).alloc (nl _) (mlO (me : Int) (x : Int) B7 L7 e7))
    have HK8 := qh (HK7.out.below HA8.out HK7.out.lt)
    have HM8 := qh (MlM.new w7 (me : Int) (x : Int) B7 L7 e7)
    refine hK.out _ _ (by have h := HK8.out; exact ⟨h.c.2.1, h.c.2.2.1, h⟩) (fun hHeld2 => ?_)
    clear hK K hHeld; have hHeld := hHeld2; clear hHeld2
    try simp only [Act.put, nB, nC, nD]
    refine held_one (i := 9) rfl (by kernel_rfl) (by rfl) (fun K hK => ?_)
    refine wp_append_wr (.tmp 33) (.tmp 41) (by rfl) vv ms [⟨me, x, .slice B7 L7 e7, encC k me x ID fi ac fr su l3⟩] (by rfl) (HWR.out _ (HB7.out.trans (HA8.out.mono HB7.out.size))) (some ⟨w7.heap.size, 0, none⟩) 1 1 (by rfl) rfl (SR.one HM8.out _) (by intro m hm; obtain rfl := List.mem_singleton.1 hm; exact ⟨_, _, _, rfl⟩) HMS.out ?_
    intro v9 w9 r9 g9 n9
    have HM9 : Hid (ML w9 w2.heap.size v9 (ms ++ [⟨me, x, .slice B7 L7 e7, encC k me x ID fi ac fr su l3⟩])) := by
     have hml := HML.out _ (HB7.out.trans (HA8.out.mono HB7.out.size))
     have hob : OB (w7.alloc (mlO (me : Int) (x : Int) B7 L7 e7)) w2.heap.size (.slice B7 L7 e7) (encC k me x ID fi ac fr su l3) := (HO7.out.below HA8.out (nl _)).less HSZ.out
     exact hml.snoc hob (fun i hi e => by have h1 := (HO7.out.lt i hi).1; have h2 := HLT.out i e; omega) r9 g9 n9 (Nat.le_trans HSZ.out (Nat.le_trans HB7.out.size HA8.out.size))
    have HB9 : Hid (Below w2.heap.size w2 w9) := (HBB.out _ (HB7.out.trans (HA8.out.mono HB7.out.size))).grown g9 (HBB.out _ (HB7.out.trans (HA8.out.mono HB7.out.size))).size HGE.out
    have HK9 : Hid (PkM w9 P k (me : Int) (x : Int) ID fi A3 n3 c3 ac fr su) := HK8.out.row g9 HNR.out
    clear r9 g9 n9
    refine hK.out _ _ (by have h := HK9.out; exact ⟨h.c.2.1, h.c.2.2.1, h⟩) (fun hHeld2 => ?_)
    clear hK K hHeld; have hHeld := hHeld2; clear hHeld2
    try simp only [Act.put, nB, nC, nD]
    refine held_one (i := 10) rfl (by kernel_rfl) (by rfl) (fun K hK => ?_)
    go_simp
    refine hK.out _ _ (hHeld) (fun hHeld2 => ?_)
    clear hK K hHeld; have hHeld := hHeld2; clear hHeld2
    try simp only [Act.put, nB, nC, nD]
    refine wpAnyH_done (by kernel_rfl) ?_ _
    clear hHeld
    go_wp2_with fail
    go_roundw
    case rel => exact ⟨k0 + 1, _, by go_num, rfl, hk2.out, ⟨_, HM9.out, by rw [List.map_append, HMM.out, take_snoc os k0 x HX.out, List.map_append, List.map_append]; congr 1; simp only [List.map_cons, List.map_nil]; rw [HENC.out, HP.out]⟩, HB9⟩
    case measure => simp [intOf]; have := hms.out; omega
  · obtain rfl : k0 = O := by omega
    go_wp2_with fail
    go_ret
    exact ⟨_, _, rfl, by have := HTE.out; rw [← HOL.out, List.take_length] at this; exact this, HB2.out.trans (HB.out.mono HB2.out.size), HB2.out.size⟩
theorem said_eq (C : Cf) (s : Pl) : (othersP C).map (fun i => (i, encT C i (inP C s i))) = (othersP C).map fun i => (i, saidP C s i) := rfl
def GoesB (w0 w : World) (K : Cm) (w' : World) (s' : Pl) (B : Nat) : Prop :=
 ∃ K', K'.s = s' ∧ K'.C = K.C ∧ K'.c = K.c ∧ (K'.q = K.q ∧ K'.p = K.p) ∧ CM w0 w' K' ∧ Lv w w' (CB K) ∧ (∀ k, CB K' k → CB K k ∨ w.heap.size ≤ k) ∧ (∀ k, CB K' k → k < B) ∧ w.heap.size ≤ B
theorem GoesB.of {w0 w w1 w2 : World} {K : Cm} {s : Pl} {B : Nat} (g : Goes w0 w K w1 s) (hb : Below w1.heap.size w1 w2) (hB : w1.heap.size ≤ B) : GoesB w0 w K w2 s B := by
 obtain ⟨K1, e1, e2, e3, e4, g1, g2, g3⟩ := g
 exact ⟨K1, e1, e2, e3, e4, g1.belows hb, g2.trans (Lv.of_below (B := noB) hb) (fun k hk => hk.elim), g3, fun k hk => Nat.lt_of_lt_of_le (g1.lt hk).2 hB, Nat.le_trans g2.size hB⟩
theorem to_in_goes {w0 w w1 : World} {K : Cm} {s : Pl} (g : Goes w0 w K w1 s) (hT : TabW w0) (m : Nat) (hok : Ok K.C m s) (h8 : K.C.n ≤ 8) (hme : K.C.me < K.C.n) {kc : Nat} (hkc : K.c = kc) :
 Calls Tryz.prog 73 #[pB kc, .func (.func 74) #[pB kc] #[]] w1 fun e w' => ∃ v B, e = .returned v ∧ Tells w' B v K.C.me ((othersP K.C).map fun i => (i, encT K.C i (inP K.C s i))) ∧ Below w1.heap.size w1 w' ∧ w1.heap.size ≤ B := by
 obtain ⟨K1, e1, e2, e3, e4, g1, g2, g3⟩ := g
 have := core_to_in w0 w1 K1 g1 hT m (by rw [e1, e2]; exact hok) (by rw [e2]; exact h8) (by rw [e2]; exact hme) (e3.trans hkc)
 rw [e2, e1] at this
 exact this
theorem others_goes {w0 w w1 : World} {K : Cm} {s : Pl} (g : Goes w0 w K w1 s) (h8 : K.C.n ≤ 8) {kc : Nat} (hkc : K.c = kc) :
 Calls Tryz.prog 71 #[pB kc] w1 fun e w' => ∃ v, e = .returned v ∧ ON w' w1.heap.size v (othersP K.C) ∧ Below w1.heap.size w1 w' := by
 obtain ⟨K1, e1, e2, e3, e4, g1, g2, g3⟩ := g
 have := core_others w0 w1 K1 g1 (by rw [e2]; exact h8) (e3.trans hkc)
 rw [e2] at this
 exact this
theorem core_quit_nil (w : World) : Calls Tryz.prog 29 #[.pointer none] w fun e w' => e = .returned (.slice none 0 0) ∧ w = w' := by
 have HC1 := qh (core_closed_nil w)
 go_enter Tryz.func29, Tryz.ntmps29
 go_wp2_with (first
  | (go_at_call 61; (refine (HC1.out).mono ?_); rintro en w1 ⟨rfl, rfl⟩))
 go_ret
 exact ⟨rfl, rfl⟩
theorem core_tick_nil (w : World) : Calls Tryz.prog 20 #[.pointer none] w fun e w' => e = .returned (.slice none 0 0) ∧ w = w' := by
 have HC1 := qh (core_closed_nil w)
 go_enter Tryz.func20, Tryz.ntmps20
 go_wp2_with (first
  | (go_at_call 61; (refine (HC1.out).mono ?_); rintro en w1 ⟨rfl, rfl⟩))
 go_ret
 exact ⟨rfl, rfl⟩
theorem Goes.set_clock {w0 w w1 : World} {K : Cm} {s : Pl} (g : Goes w0 w K w1 s) (n : Nat) : Goes w0 w K (w1.setCell ⟨K.c, 11, none⟩ (.int .i64 (n : Int))) { s with ck := n } := by
 obtain ⟨K1, e1, e2, e3, e4, g1, g2, g3⟩ := g
 have := g1.set_clock n
 rw [e3, e1] at this
 exact goes_then g2 g3 e2 e3 e4 this
theorem Goes.clock {w0 w w1 : World} {K : Cm} {s : Pl} (g : Goes w0 w K w1 s) : w1.cell? ⟨K.c, 11, none⟩ = some (.int .i64 (s.ck : Int)) := by
 obtain ⟨K1, e1, e2, e3, e4, g1, g2, g3⟩ := g
 rw [← e3, ← e1]; exact g1.cell 11 _ rfl
def lateO (s : Pl) (i : Nat) : Bool := match s.ps[i]? with | some p => decide (p.he + 40 ≤ s.ck) | none => false
theorem late_filter (C : Cf) (s : Pl) : lateP C s = (othersP C).find? (lateO s) := by
 unfold lateP othersP
 rw [List.find?_filter]
 congr 1
 funext a
 unfold isLate lateO
 cases s.ps[a]? <;> simp
theorem find_take {α : Type} (f : α → Bool) (xs : List α) (k : Nat) (x : α) (hx : xs[k]? = some x) (h0 : (xs.take k).find? f = none) (h1 : f x = true) : xs.find? f = some x := by
 have hk := (List.getElem?_eq_some_iff.1 hx).1
 have e : xs = xs.take k ++ x :: xs.drop (k + 1) := by
  rw [← (List.getElem?_eq_some_iff.1 hx).2, ← List.drop_eq_getElem_cons hk, List.take_append_drop]
 rw [e, List.find?_append, h0]
 simp [h1]
set_option maxHeartbeats 8000000 in
theorem core_tick (w0 w : World) (K : Cm) (h : CM w0 w K) (hT : TabW w0) (m : Nat) (hok : Ok K.C m K.s) (hm9 : m ≤ 10000) (h8 : K.C.n ≤ 8) (hme : K.C.me < K.C.n) (xs : List (Nat × List UInt8)) (s' : Pl) (hp : tickP K.C K.s = (xs, s')) :
 Calls Tryz.prog 20 #[pB K.c] w fun e w' => ∃ v B, e = .returned v ∧ Tells w' B v K.C.me xs ∧ GoesB w0 w K w' s' B := by
 obtain ⟨kc, hkc⟩ : ∃ kc, K.c = kc := ⟨_, rfl⟩
 have hcl : w.cell? ⟨K.c, 15, none⟩ = some (.bool K.s.cl) := h.cell 15 _ rfl
 have HH := qh h
 rw [hkc] at hcl
 rw [hkc]
 unfold tickP at hp
 by_cases hcz : K.s.cl = true
 · rw [if_pos hcz] at hp
   injection hp with ea es
   subst ea es
   have HC1 := qh (core_closed w kc true (by rw [hcl, hcz]))
   clear hcl hok h
   go_enter Tryz.func20, Tryz.ntmps20
   go_wp2_with (first
    | (go_at_call 61; (refine (HC1.out).mono ?_); rintro en w1 ⟨rfl, rfl⟩))
   go_ret
   exact ⟨_, _, rfl, Tells.nil _ _ _, GoesB.of (HH.out.goes (bR _ _)) (bR _ _) (nl _)⟩
 · rw [if_neg hcz] at hp
   have hcf : K.s.cl = false := by simpa using hcz
   have HC1 := qh (core_closed w kc false (by rw [hcl, hcf]))
   obtain ⟨ck, hck⟩ : ∃ ck, K.s.ck = ck := ⟨_, rfl⟩
   rw [hck] at hp
   have c11 : w.cell? ⟨kc, 11, none⟩ = some (.int .i64 (ck : Int)) := by have := h.cell 11 _ rfl; rw [hkc, hck] at this; exact this
   have f11 : w.frozen? ⟨kc, 11, none⟩ = false := by rw [← hkc]; exact h.fz 11
   have hckm : ck ≤ 10000 := by have := hok.ck; omega
   obtain ⟨c1, hc1⟩ : ∃ c1 : Nat, ck + 1 = c1 := ⟨_, rfl⟩
   have hc1i : (ck : Int) + 1 = (c1 : Int) := by omega
   rw [hc1] at hp
   have hg0 := h.set_clock c1
   rw [hkc] at hg0
   have hok1 : Ok K.C (m + 1) { K.s with ck := c1 } := ⟨hok.L, hok.ll, hok.p, fun x hx => ⟨by have := (hok.pr x hx).1; omega, (hok.pr x hx).2⟩, by show c1 ≤ m + 1; have := hok.ck; omega, hok.ms, hok.mu, by have := hok.es; show K.s.es.length ≤ _; omega⟩
   obtain ⟨s1, hs1⟩ : ∃ s1 : Pl, s1 = { K.s with ck := c1 } := ⟨_, rfl⟩
   have hs1c : s1.ck = c1 := by rw [hs1]
   have hps : ∀ i : Nat, ({ K.s with ck := c1, es := K.s.es ++ [Ev.l i], cl := true } : Pl) = { s1 with es := s1.es ++ [.l i], cl := true } := fun i => by rw [hs1]
   rw [← hs1] at hg0 hok1 hp
   rw [late_filter] at hp
   obtain ⟨os, hos⟩ : ∃ os, othersP K.C = os := ⟨_, rfl⟩
   obtain ⟨O, hO⟩ : ∃ O, os.length = O := ⟨_, rfl⟩
   obtain ⟨N, hN⟩ : ∃ N, K.C.n = N := ⟨_, rfl⟩
   obtain ⟨kp, hkp⟩ : ∃ kp, K.p = kp := ⟨_, rfl⟩
   have HOT := qh (others_goes hg0 h8 hkc)
   rw [hos] at HOT
   have HOX : Hid (∀ (k x : Nat), os[k]? = some x → x < N ∧ x ≤ 7) := fun k x hx => by rw [← hos, othersP_eq] at hx; rw [← hN]; have := (otN_mem hx).1; exact ⟨this, by omega⟩
   have hO8 : O ≤ 8 := by rw [← hO, ← hos, othersP_eq]; exact Nat.le_trans (otN_len _ _) h8
   have HOK1 := qh hok1
   have HG0 := qh hg0
   have HTI : Hid (∀ W, Goes w0 w K W s1 → Calls Tryz.prog 73 #[pB kc, .func (.func 74) #[pB kc] #[]] W fun e w' => ∃ v B, e = .returned v ∧ Tells w' B v K.C.me (os.map fun i => (i, saidP K.C s1 i)) ∧ Below W.heap.size W w' ∧ W.heap.size ≤ B) := fun W g => by
    have := to_in_goes g hT (m + 1) hok1 h8 hme hkc
    rw [said_eq, hos] at this
    exact this
   have HLK : Hid (∀ W, Goes w0 w K W s1 → ∀ (x : Nat) (y : Pr), s1.ps[x]? = some y → W.cell? ⟨kc, 11, none⟩ = some (.int .i64 (c1 : Int)) ∧ W.cell? ⟨kc, 12, none⟩ = some (.slice (some ⟨kp, 0, none⟩) N N) ∧ W.cell? ⟨kp, x * 5, none⟩ = some (.int .i64 (y.he : Int))) := fun W g x y hy => by
    obtain ⟨a1, a2, -⟩ := g.look x y hy
    have a3 := g.clock
    rw [hkc, hkp, hN] at a1; rw [hkp] at a2; rw [hkc, hs1c] at a3
    exact ⟨a3, a1, a2⟩
   have HHP : Hid (∀ W, Goes w0 w K W s1 → ∀ x : Nat, x ≤ 7 → Calls Tryz.prog 72 #[pB kc, .agg #[.int .i64 2, .int .i64 (x : Int), .int .i64 0]] W fun en w' => en = .returned (.tuple #[]) ∧ Goes w0 w K w' { s1 with es := s1.es ++ [.l x] }) := fun W g x hx => by
    have := happens_goes g (.l x) hx (by have := hok1.es; omega)
    rw [hkc] at this
    exact this
   have HCLO : Hid (∀ W s2, Goes w0 w K W s2 → W.cell? ⟨kc, 15, none⟩ = some (.bool s2.cl) ∧ W.frozen? ⟨kc, 15, none⟩ = false ∧ Goes w0 w K (W.setCell ⟨kc, 15, none⟩ (.bool true)) { s2 with cl := true }) := fun W s2 g => by
    have h1 := g.fz 15; have h2 := g.set_closed; have h3 := g.closed
    rw [hkc] at h1 h2 h3
    exact ⟨h3, h1, h2⟩
   have HLO : Hid (∀ (x : Nat) (y : Pr), s1.ps[x]? = some y → lateO s1 x = decide (y.he + 40 ≤ c1)) := fun x y hy => by unfold lateO; rw [hy, hs1c]
   have HP1 : Hid (∀ x : Nat, x < N → ∃ y, s1.ps[x]? = some y ∧ y.he ≤ 20000) := fun x hx => by
    obtain ⟨y, hy⟩ := hok1.at x (by rw [hN]; exact hx)
    exact ⟨y, hy, by have := (hok1.pr y (List.mem_of_getElem? hy)).1; omega⟩
   have HOL := qh hO
   rw [hos] at hp
   have HPF := qh hp
   have HPS := qh hps
   have HSD : Hid (∀ i : Nat, saidP K.C s1 i = saidP K.C K.s i) := fun i => by rw [hs1]; rfl
   have hc1b : c1 ≤ 20000 := by omega
   clear h hok hok1 hg0 hs1 hs1c hps hos hO hN hkp hp hcl hck hc1 h8 hme hkc hT
   go_enter Tryz.func20, Tryz.ntmps20
   go_wp2_with (first
    | (go_at_call 61; (refine (HC1.out).mono ?_); rintro en w1 ⟨rfl, rfl⟩)
    | (go_at_call 71; (refine HOT.out.mono ?_); rintro en w2 ⟨ov, rfl, ho, hb2⟩; obtain ⟨OA, oc, rfl, hoc⟩ := ho.at; have HO2 := qh hoc; have HB2 := qh hb2; clear ho hb2 hoc HOT; rw [HOL.out]))
   have HG2 := qh (HG0.out.belows HB2.out)
   clear c11 f11
   go_loopw [4, 17] (fun pp ii wr => ∃ (k : Nat), ii = .int .i64 (k : Int) ∧ k ≤ O ∧ Hid ((os.take k).find? (lateO s1) = none) ∧ Hid (∃ n, wr = w2.drewN n)) (fun _ ii _ => O - (intOf ii).toNat)
   case atStart => exact ⟨0, rfl, by omega, rfl, 0, rfl⟩
   case round =>
    obtain ⟨k0, rfl, hk, HF, HW⟩ := hrel
    have HGW : Hid (Goes w0 w K wr s1) := by obtain ⟨n, rfl⟩ := HW.out; exact HG2.out.belows (below_drewN (bR _ _) n)
    have HBW : Hid (Below w2.heap.size w2 wr) := by obtain ⟨n, rfl⟩ := HW.out; exact below_drewN (bR _ _) n
    by_cases hlt : k0 < O
    · have hkN : (k0 : Int) < (O : Int) := by omega
      have hk2 : Hid (k0 + 1 ≤ O) := hlt
      have hms : Hid (O - (k0 + 1) < O - k0) := by show _ < _; omega
      obtain ⟨x, hx⟩ : ∃ x, os[k0]? = some x := ⟨_, List.getElem?_eq_getElem (by rw [HOL.out]; exact hlt)⟩
      have HX := qh hx
      obtain ⟨b, rfl, hbl, hbc⟩ := HO2.out k0 x hx
      have cx := (HBW.out.cell (p := ⟨b, k0, none⟩) hbl).trans hbc
      obtain ⟨hxN, hx7⟩ := HOX.out k0 x hx
      obtain ⟨y, hy, hyb⟩ := HP1.out x hxN
      obtain ⟨a1, a2, a3⟩ := HLK.out wr HGW.out x y hy
      have hlo := HLO.out x y hy
      obtain ⟨he, hhe⟩ : ∃ he, y.he = he := ⟨_, rfl⟩
      rw [hhe] at a3 hlo hyb
      have hxi : (x : Int) < (N : Int) := by omega
      have HX7 := qh hx7
      have hd1 : IntKind.i64.wrap ((c1 : Int) - (he : Int)) = (c1 : Int) - (he : Int) := by rw [IntKind.wrap_i64]; omega
      by_cases hl : he + 40 ≤ c1
      · have hli : (40 : Int) ≤ (c1 : Int) - (he : Int) := by omega
        have hlt1 : lateO s1 x = true := by rw [hlo]; simp; exact hl
        have hfind := find_take (lateO s1) os k0 x hx HF.out hlt1
        have HFD := qh hfind
        clear hlo hx hy hlt1 hfind hhe hbl hbc hl
        go_wp2_with fail
        go_big_region
        have HG3 := qh (HGW.out.drew)
        go_wp2_with (first
         | (go_at_call 72; (refine (HHP.out _ HG3.out x HX7.out).mono ?_); rintro en w6 ⟨rfl, hg⟩; obtain ⟨cc6, fz6, hg6⟩ := HCLO.out _ _ hg; have HG6 := qh hg6; clear hg hg6))
        go_ret
        have hp := HPF.out
        rw [HFD.out] at hp
        injection hp with ea es
        subst ea es
        exact ⟨_, _, rfl, Tells.nil _ _ _, GoesB.of (by rw [HPS.out]; exact HG6.out) (bR _ _) (nl _)⟩
      · have hli : (c1 : Int) - (he : Int) < 40 := by omega
        have hld : decide ((40 : Int) ≤ (c1 : Int) - (he : Int)) = false := by simp; omega
        have hlf : lateO s1 x = false := by rw [hlo]; simp; omega
        have HF2 : Hid ((os.take (k0 + 1)).find? (lateO s1) = none) := by show _ = _; rw [take_snoc os k0 x hx, List.find?_append, HF.out]; simp [hlf]
        clear hlo hx hy hlf hhe hbl hbc hl
        go_wp2_with fail
        go_big_region
        go_wp2_with fail
        go_roundw
        case rel => exact ⟨k0 + 1, by go_num, hk2.out, HF2, by obtain ⟨n, rfl⟩ := HW.out; exact ⟨n + 1, by first | rfl | (rw [← World.drewN_drewN]; rfl)⟩⟩
        case measure => simp [intOf]; have := hms.out; omega
    · obtain rfl : k0 = O := by omega
      go_wp2_with (first
       | (go_at_call 73; (refine (HTI.out _ HGW.out).mono ?_); rintro en w3 ⟨v, B, rfl, ht, hb, hbb⟩; have HTE := qh ht; have HB := qh hb; have HBBB := qh hbb; clear ht hb hbb))
      go_ret
      have hf := HF.out
      rw [← HOL.out, List.take_length] at hf
      have hp := HPF.out
      rw [hf] at hp
      injection hp with ea es
      subst ea es
      have h9 := HTE.out
      simp only [HSD.out] at h9
      exact ⟨_, B, rfl, h9, GoesB.of HGW.out HB.out HBBB.out⟩
end Go.Proofs.YtpnobpligchpiaaGreatDoor
