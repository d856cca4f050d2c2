/- texts of YcCf -/
import Derived.Test.YtpnobpligchpiaaGreatDoorYcCc
namespace Go.Proofs.YtpnobpligchpiaaGreatDoor
set_option maxRecDepth 100000
open Go.RowKit
set_option linter.unusedVariables false
set_option linter.unusedSimpArgs false
def sN (N D k : Nat) : Pl := ⟨List.replicate k (zB D), 0, psK N D k, [], [], false⟩
theorem dm_start {w0 w : World} (hb : Below w0.heap.size w0 w) (C : Cf) (N : Nat) (hN : C.n = N) (c h a d p : Nat) (hc : w0.heap.size ≤ c) (hh : w0.heap.size ≤ h) (ha : w0.heap.size ≤ a) (hd : w0.heap.size ≤ d) (hp : w0.heap.size ≤ p) (hnd : [some c, some h, some a, some d, some p].Nodup)
    (rc : w.heap[c]? = some (dcO C (.slice none 0 0) 0 h a d p (.slice none 0 0) (.slice none 0 0) false)) (rh : w.heap[h]? = some (.cells (heL (List.replicate N pr0)).toArray 3 (0, 0))) (ra : w.heap[a]? = some (.cells (haL (List.replicate N pr0)).toArray 3 (0, 0))) (rd : w.heap[d]? = some (.cells (wdL (List.replicate N pr0)).toArray 137 (0, 0))) (rp : w.heap[p]? = some (.cells (apL (List.replicate N pr0)).toArray 4 (0, 0))) :
    DM w0 w ⟨C, c, h, a, d, p, .slice none 0 0, [], .slice none 0 0, .cells #[] 0 (0, 0), .slice none 0 0, .cells #[] 0 (0, 0), sN N 0 0⟩ := by
  refine ⟨⟨hb, fun i k o hi => ?_, fun i j k o o' hi hj => ?_⟩, RowE.nil _ _ _, RowE.nil _ _ _, LR.nil _ _, rfl, fun k hk => ?_⟩
  · match i, hi with
    | 0, hi => cases hi; exact ⟨hc, rc⟩
    | 1, hi => cases hi; exact ⟨hh, rh⟩
    | 2, hi => cases hi; exact ⟨ha, ra⟩
    | 3, hi => cases hi; exact ⟨hd, rd⟩
    | 4, hi => cases hi; exact ⟨hp, rp⟩
    | 5, hi => cases hi
    | 6, hi => cases hi
    | n + 7, hi => cases hi
  · have key : ∀ (i : Nat) (o : Obj), (Dm.E ⟨C, c, h, a, d, p, .slice none 0 0, [], .slice none 0 0, .cells #[] 0 (0, 0), .slice none 0 0, .cells #[] 0 (0, 0), sN N 0 0⟩)[i]? = some (some k, o) → [some c, some h, some a, some d, some p][i]? = some (some k) := fun i o hi => by
      match i, hi with
      | 0, hi => cases hi; rfl
      | 1, hi => cases hi; rfl
      | 2, hi => cases hi; rfl
      | 3, hi => cases hi; rfl
      | 4, hi => cases hi; rfl
      | 5, hi => cases hi
      | 6, hi => cases hi
      | n + 7, hi => cases hi
    have h1 := key i o hi
    have h2 := key j o' hj
    have hl := (List.getElem?_eq_some_iff.1 h1).1
    exact (List.getElem?_inj hl hnd).1 (h1.trans h2.symm)
  · rcases hk with hk | ⟨m, hm, -⟩
    · cases hk
    · cases hm
theorem made_one (z : Value) (n : Nat) : madeCells #[z] (n * 1) = (List.replicate n z).toArray := by
  refine Array.ext_getElem? fun i => ?_
  unfold madeCells
  rw [Array.getElem?_map, Array.getElem?_range, List.getElem?_toArray, List.getElem?_replicate]
  by_cases h : i < n
  · rw [if_pos (by omega), if_pos h]
    show some ((#[z] : Array Value)[i % 1]!) = some z
    rw [Nat.mod_one]; rfl
  · rw [if_neg (by omega), if_neg h]; rfl
theorem wdL_rep (n : Nat) : ∀ i, (wdL (List.replicate n pr0))[i]? = if i < n * 2 then some (if i % 2 = 0 then .int .i64 0 else .int .u32 0) else none := fun i => by
  induction n generalizing i with
  | zero => simp [wdL]
  | succ n ih =>
    rw [List.replicate_succ]
    show (Value.int .i64 ((0 : Nat) : Int) :: Value.int .u32 0 :: wdL (List.replicate n pr0))[i]? = _
    match i with
    | 0 => rw [if_pos (by omega)]; rfl
    | 1 => rw [if_pos (by omega)]; rfl
    | i + 2 =>
      show (wdL (List.replicate n pr0))[i]? = _
      rw [ih i]
      have e : (i + 2) % 2 = i % 2 := by omega
      have e2 : (i + 2 < (n + 1) * 2) = (i < n * 2) := propext ⟨fun h => by omega, fun h => by omega⟩
      simp only [e, e2]
theorem made_wd (n : Nat) : madeCells #[.int .i64 0, .int .u32 0] (n * 2) = (wdL (List.replicate n pr0)).toArray := by
  refine Array.ext_getElem? fun i => ?_
  unfold madeCells
  rw [Array.getElem?_map, Array.getElem?_range, List.getElem?_toArray, wdL_rep]
  by_cases h : i < n * 2
  · rw [if_pos h, if_pos h]
    show some ((#[.int .i64 0, .int .u32 0] : Array Value)[i % 2]!) = _
    rcases Nat.mod_two_eq_zero_or_one i with e | e <;> rw [e] <;> rfl
  · rw [if_neg h, if_neg h]; rfl
theorem int_info3 : (Tryz.prog.info? 3).map (fun i => (i.zero, i.size, i.bytes)) = some (some (.int .i64 0), 1, 8) := by kernel_rfl
theorem bool_info3 : (Tryz.prog.info? 4).map (fun i => (i.zero, i.size, i.bytes)) = some (some (.bool false), 1, 1) := by kernel_rfl
theorem wd_info3 : (Tryz.prog.info? 137).map (fun i => (i.zero, i.size, i.bytes)) = some (some (.agg #[.int .i64 0, .int .u32 0]), 2, 16) := by kernel_rfl
theorem make_ints (n : Nat) (h : n ≤ 8) (W : World) : (Instr.makeSlice 92 (.int .i64 (n : Int)) (.int .i64 (n : Int))).run Tryz.prog W = .ok (.slice (some ⟨W.heap.size, 0, none⟩) n n) (W.alloc (.cells (List.replicate n (.int .i64 0)).toArray 3 (0, 0))) := by
  obtain ⟨i0, hi0, hz0, hz1, hz2⟩ := info_parts int_info3
  have := run_make_rowC (P := Tryz.prog) 92 3 i0 _ Tryz.underlying92 hi0 hz0 .i64 .i64 n n (Nat.le_refl _) (by rw [hz2]; omega) (by omega) W
  rw [hz1] at this
  rw [this, ← made_one]; rfl
theorem make_bools (n : Nat) (h : n ≤ 8) (W : World) : (Instr.makeSlice 109 (.int .i64 (n : Int)) (.int .i64 (n : Int))).run Tryz.prog W = .ok (.slice (some ⟨W.heap.size, 0, none⟩) n n) (W.alloc (.cells (List.replicate n (.bool false)).toArray 4 (0, 0))) := by
  obtain ⟨i0, hi0, hz0, hz1, hz2⟩ := info_parts bool_info3
  have := run_make_rowC (P := Tryz.prog) 109 4 i0 _ Tryz.underlying109 hi0 hz0 .i64 .i64 n n (Nat.le_refl _) (by rw [hz2]; omega) (by omega) W
  rw [hz1] at this
  rw [this, ← made_one]; rfl
theorem make_words (n : Nat) (h : n ≤ 8) (W : World) : (Instr.makeSlice 108 (.int .i64 (n : Int)) (.int .i64 (n : Int))).run Tryz.prog W = .ok (.slice (some ⟨W.heap.size, 0, none⟩) n n) (W.alloc (.cells (wdL (List.replicate n pr0)).toArray 137 (0, 0))) := by
  obtain ⟨i0, hi0, hz0, hz1, hz2⟩ := info_parts wd_info3
  have := run_make_rowC (P := Tryz.prog) 108 137 i0 _ Tryz.underlying108 hi0 hz0 .i64 .i64 n n (Nat.le_refl _) (by rw [hz2]; omega) (by omega) W
  rw [hz1] at this
  rw [this, ← made_wd]; rfl
theorem heL_rep (n : Nat) : heL (List.replicate n pr0) = List.replicate n (.int .i64 0) := by unfold heL; rw [List.map_replicate]; rfl
theorem haL_rep (n : Nat) : haL (List.replicate n pr0) = List.replicate n (.int .i64 0) := by unfold haL; rw [List.map_replicate]; rfl
theorem apL_rep (n : Nat) : apL (List.replicate n pr0) = List.replicate n (.bool false) := by unfold apL; rw [List.map_replicate]
theorem wp_make {o : Oper} {a : Act} {K : Act → World → Prop} {Q : Exit → Act → World → Prop} {w w' : World} (t : TypeId) (x : Operand) (ho : o.op = .makeSlice t x x) (n : Int) (hx : a.eval x = .int .i64 n) (v : Value) (hrun : (Instr.makeSlice t (.int .i64 n) (.int .i64 n)).run Tryz.prog w = .ok v w') (hk : K (a.put o.dst v) w') : o.wp Tryz.prog a w K Q := by
  unfold Oper.wp execOp
  simp only [ho, hx, Sem.run_bind, Sem.run_pure, Result.andThen_ok, hrun]
  exact hk
variable {P : Program} {ops : Array Oper} {Q : Exit → Act → World → Prop} {md : Region.Mode} {S : World → Prop}
theorem held_three {i j k : Nat} {o1 o2 o3 : Oper} {fuel : Nat} {listed : Array Bool} {a : Act} {w : World} (hi : ops[i]? = some o1) (hj : ops[j]? = some o2) (hk : ops[k]? = some o3)
    (hr : Region.ready md ops listed = [i, j, k]) (hw : Region.wanted o1 (yielded ops a.tmps) = true) (hw2 : Region.wanted o2 (yielded ops a.tmps) = true) (hw3 : Region.wanted o3 (yielded ops a.tmps) = true)
    (h : ∀ K' : Act → World → Prop, Shut (∀ a w, S w → (S w → wpAnyH P md ops Q S fuel (listed.setIfInBounds i true) a w) → K' a w) → Oper.wp P o1 a w K' Q)
    (h2 : ∀ K' : Act → World → Prop, Shut (∀ a w, S w → (S w → wpAnyH P md ops Q S fuel (listed.setIfInBounds j true) a w) → K' a w) → Oper.wp P o2 a w K' Q)
    (h3 : ∀ K' : Act → World → Prop, Shut (∀ a w, S w → (S w → wpAnyH P md ops Q S fuel (listed.setIfInBounds k true) a w) → K' a w) → Oper.wp P o3 a w K' Q) :
    wpAnyH P md ops Q S (fuel + 1) listed a w :=
  wpAnyH_ready hr (by simp) (AllReadyH.cons hi (fun K' hK => by rw [if_pos hw]; exact h K' hK) (AllReadyH.cons hj (fun K' hK => by rw [if_pos hw2]; exact h2 K' hK) (AllReadyH.cons hk (fun K' hK => by rw [if_pos hw3]; exact h3 K' hK) AllReadyH.nil)))
theorem held_four {i j k l : Nat} {o1 o2 o3 o4 : Oper} {fuel : Nat} {listed : Array Bool} {a : Act} {w : World} (hi : ops[i]? = some o1) (hj : ops[j]? = some o2) (hk : ops[k]? = some o3) (hl : ops[l]? = some o4)
    (hr : Region.ready md ops listed = [i, j, k, l]) (hw : Region.wanted o1 (yielded ops a.tmps) = true) (hw2 : Region.wanted o2 (yielded ops a.tmps) = true) (hw3 : Region.wanted o3 (yielded ops a.tmps) = true) (hw4 : Region.wanted o4 (yielded ops a.tmps) = true)
    (h : ∀ K' : Act → World → Prop, Shut (∀ a w, S w → (S w → wpAnyH P md ops Q S fuel (listed.setIfInBounds i true) a w) → K' a w) → Oper.wp P o1 a w K' Q)
    (h2 : ∀ K' : Act → World → Prop, Shut (∀ a w, S w → (S w → wpAnyH P md ops Q S fuel (listed.setIfInBounds j true) a w) → K' a w) → Oper.wp P o2 a w K' Q)
    (h3 : ∀ K' : Act → World → Prop, Shut (∀ a w, S w → (S w → wpAnyH P md ops Q S fuel (listed.setIfInBounds k true) a w) → K' a w) → Oper.wp P o3 a w K' Q)
    (h4 : ∀ K' : Act → World → Prop, Shut (∀ a w, S w → (S w → wpAnyH P md ops Q S fuel (listed.setIfInBounds l true) a w) → K' a w) → Oper.wp P o4 a w K' Q) :
    wpAnyH P md ops Q S (fuel + 1) listed a w :=
  wpAnyH_ready hr (by simp) (AllReadyH.cons hi (fun K' hK => by rw [if_pos hw]; exact h K' hK) (AllReadyH.cons hj (fun K' hK => by rw [if_pos hw2]; exact h2 K' hK) (AllReadyH.cons hk (fun K' hK => by rw [if_pos hw3]; exact h3 K' hK) (AllReadyH.cons hl (fun K' hK => by rw [if_pos hw4]; exact h4 K' hK) AllReadyH.nil))))
theorem wp_append_line {op : Oper} {a : Act} {Kq : Act → World → Prop} {Q : Exit → Act → World → Prop} {X : World} (s x : Operand) (ho : op.op = .call { callee := .builtin .append, args := #[s, x], argTypes := #[86, 86] })
    (base : Nat) (v : Value) (us : List Value) (u : Value) (hs : a.eval s = v) (hown : X.ownsRow base 85 1 v us.length us) (h1 : u.oneCell' = true) (P : Nat) (hx : a.eval x = .slice (some ⟨P, 0, none⟩) 1 1) (hP : X.heap[P]? = some (lOne u)) (hlen : us.length ≤ 1000) (hbase : base ≤ X.heap.size)
    (hq : ∀ v' w', w'.ownsRow base 85 1 v' (us.length + 1) (us ++ [u]) → X.grownBy w' v.ownBlock → (v'.ownBlock = v.ownBlock ∨ v'.ownBlock = some X.heap.size) → Kq (a.put op.dst v') w') : op.wp Tryz.prog a X Kq Q := by
  obtain ⟨i0, hi0, hz0, hz1, hz2⟩ := info_parts line_info
  obtain ⟨v', w', hrun, h2, h3, h4, h5⟩ := run_append_own_at (P := Tryz.prog) X base 86 op.type 85 i0 (.agg #[.slice none 0 0]) 1 24 Tryz.underlying86 hi0 hz0 hz1 hz2 rfl (by decide) v us.length _ hown ⟨P, 0, none⟩ 1 1 [u] rfl (fun j y hj => by
    rw [Addr.add_lit, Nat.zero_add, cell_of_row _ _ _ _ _ _ hP]
    simpa using hj) (by simp [h1]) (by unfold maxLen; omega) (by omega) hbase
  unfold Oper.wp execOp
  simp only [ho, resolve, invoke, builtin, Sem.run_bind, Sem.run_pure, Result.andThen_ok, List.map_toArray, List.map_cons, List.map_nil, hs, hx, hrun]
  exact hq v' w' h2 h3 h5
theorem DM.line_add {w0 W : World} {K : Dm} (h : DM w0 W K) (D : Nat) (hD : D ≤ 8) {W2 : World} {u : Value} (hu : u = .slice (some ⟨W.heap.size, 0, none⟩) D D) (hW2 : W2 = (W.alloc (madeB D)).alloc (lOne u)) :
    W2.ownsRow w0.heap.size 85 1 K.lv (K.ls.map Rl.v).length (K.ls.map Rl.v) ∧ Below W.heap.size W W2 ∧ (∀ k, K.lv.ownBlock = some k → k ≠ K.c) ∧
    ∀ v2 w9, w9.ownsRow w0.heap.size 85 1 v2 ((K.ls.map Rl.v).length + 1) (K.ls.map Rl.v ++ [u]) → W2.grownBy w9 K.lv.ownBlock → (v2.ownBlock = K.lv.ownBlock ∨ v2.ownBlock = some W2.heap.size) → GoesD w0 W K (w9.setCell ⟨K.c, 10, none⟩ v2) { K.s with L := K.s.L ++ [zB D] } := by
  have b2 : Below W.heap.size W W2 := by rw [hW2]; exact ((Below.refl _ _).alloc (Nat.le_refl _) _).alloc (by simp) _
  have s2 : W.heap.size < W2.heap.size := by rw [hW2]; simp; omega
  have l2 := h.lr.belows b2
  have o2 : OB W2 w0.heap.size u (zB D) := by
    rw [hu, hW2]
    exact ((ob_made W D (by omega)).less h.be.size).below ((Below.refl _ _).alloc (Nat.le_refl _) _) (Nat.le_refl _)
  have hne : ∀ j, u.ownBlock = some j → ¬ LB K.lv K.ls j := fun j hj h2 => by
    rw [hu] at hj
    have h3 : W.heap.size = j := Option.some.inj hj
    have := (h.lr.lt h2).2
    omega
  have hcD : DO K K.c := by simp [DO, Dm.bl]
  have hlc : ∀ k, K.lv.ownBlock = some k → ¬ DO K k := fun k hk => h.far k (.inl hk)
  refine ⟨by rw [List.length_map]; exact l2.row, b2, fun k hk e => hlc k hk (e ▸ hcD), fun v2 w9 hr g e => ?_⟩
  rw [List.length_map] at hr
  have hL := l2.snoc (w4 := w9) (v2 := v2) ⟨u, zB D⟩ o2 hne g hr e
  have hsz : (w9.setCell ⟨K.c, 10, none⟩ v2).heap.size = w9.heap.size := by simp [World.setCell]
  -- the blocks of the new lines
  have hnew : ∀ k, LB v2 (K.ls ++ [(⟨u, zB D⟩ : Rl)]) k → LB K.lv K.ls k ∨ W.heap.size ≤ k := fun k hk => by
    rcases hk with hk | ⟨m, hm, hk⟩
    · rcases e with e | e
      · exact .inl (.inl (e.symm.trans hk))
      · have := Option.some.inj (e.symm.trans hk); exact .inr (by omega)
    · rcases List.mem_append.1 hm with hm | hm
      · exact .inl (.inr ⟨m, hm, hk⟩)
      · obtain rfl := List.mem_singleton.1 hm
        rw [hu] at hk
        have : W.heap.size = k := Option.some.inj hk
        exact .inr (by omega)
  have hnd : ∀ k, LB v2 (K.ls ++ [(⟨u, zB D⟩ : Rl)]) k → ¬ DO K k := fun k hk hd => (hnew k hk).elim (fun e => h.far k e hd) (fun e => by have := (h.get hd).2; omega)
  have hsame : ∀ k, DO K k → w9.heap[k]? = W.heap[k]? := fun k hk => (g.block k (Nat.lt_of_lt_of_le (h.get hk).2 b2.size) (fun e => hlc k e.symm hk)).trans (b2.block k (h.get hk).2)
  have hbe : Below w0.heap.size w0 w9 := (h.be.trans (b2.mono h.be.size)).grown g (Nat.le_trans h.be.size b2.size) (fun k hk => (h.lr.lt (.inl hk)).1)
  have hbu : BU w0 w9 K.E := ⟨hbe, fun i k o hi => ⟨(h.bu.get i k o hi).1, (hsame k (ent_DO hi)).trans (h.bu.get i k o hi).2⟩, h.bu.inj⟩
  have hb2 := hbu.store 0 K.c _ _ rfl 10 v2
  refine ⟨{ K with lv := v2, ls := K.ls ++ [⟨u, zB D⟩], s := { K.s with L := K.s.L ++ [zB D] } }, rfl, rfl, rfl, ⟨hb2, h.km, h.ke, hL.same fun k hk => Below.heap_setCell _ _ _ _ (fun e => hnd k hk (by have e2 : k = K.c := e; rw [e2]; exact hcD)), ?_, hnd⟩, ⟨g.os.trans b2.os, g.tape.trans b2.tape, g.output.trans b2.output, by rw [hsz]; exact Nat.le_trans b2.size g.size, fun k hk hn => ?_⟩, fun k hk => ?_⟩
  · show (K.ls ++ [(⟨u, zB D⟩ : Rl)]).map Rl.l = K.s.L ++ [zB D]
    rw [List.map_append, h.ln]; rfl
  · have hkc : k ≠ K.c := fun e => hn (.inr (e ▸ hcD))
    exact (Below.heap_setCell _ _ _ _ (fun e => hkc e)).trans ((g.block k (Nat.lt_of_lt_of_le hk b2.size) (fun e => hn (.inl (.inl e.symm)))).trans (b2.block k hk))
  · rcases hk with hk | hk
    · exact (hnew k hk).imp .inl id
    · exact .inl (.inr hk)
theorem psK_at (N D k : Nat) (hk : k < N) : (psK N D k)[k]? = some pr0 := by rw [psK_get]; simp [hk]
theorem sN_end (C : Cf) : sN C.n C.dl C.n = newP C := by unfold sN newP; rw [psK_all]
abbrev rwI0 (N : Nat) : Obj := .cells (List.replicate N (.int .i64 0)).toArray 3 (0, 0)
abbrev rwB0 (N : Nat) : Obj := .cells (List.replicate N (.bool false)).toArray 4 (0, 0)
abbrev rwW0 (N : Nat) : Obj := .cells (wdL (List.replicate N pr0)).toArray 137 (0, 0)
theorem heap_keep {W W' : World} {o r : Obj} {b : Nat} (h : W.heap[b]? = some r) (e : W' = W.alloc o) : W'.heap[b]? = some r := by
  rw [e]; exact (Below.heap_alloc _ _ _ (Array.getElem?_eq_some_iff.1 h).1).trans h
theorem wpAnyH_listed {P : Program} {ops : Array Oper} {Q : Exit → Act → World → Prop} {md : Region.Mode} {S : World → Prop} {fuel : Nat} {l1 l2 : Array Bool} {a : Act} {w : World} (h : l1 = l2) (g : wpAnyH P md ops Q S fuel l2 a w) : wpAnyH P md ops Q S fuel l1 a w := h ▸ g
def Fct (W : World) (N X bh ba bd bp : Nat) : Prop := ∃ jh ja jd jp, bh = X + jh ∧ ba = X + ja ∧ bd = X + jd ∧ bp = X + jp ∧ (jh ≠ ja ∧ jh ≠ jd ∧ jh ≠ jp ∧ ja ≠ jd ∧ ja ≠ jp ∧ jd ≠ jp ∧ jh < 4 ∧ ja < 4 ∧ jd < 4 ∧ jp < 4) ∧ W.heap.size = X + 4 ∧ W.heap[bh]? = some (rwI0 N) ∧ W.heap[ba]? = some (rwI0 N) ∧ W.heap[bd]? = some (rwW0 N) ∧ W.heap[bp]? = some (rwB0 N)
theorem owns_slice {w : World} {base : Nat} {t : TypeId} {size n : Nat} {v : Value} {xs : List Value} (h : w.ownsRow base t size v n xs) (h0 : 0 < n) : ∃ g cap, v = .slice (some ⟨g, 0, none⟩) n cap := by
  rcases h.2 with ⟨_, e⟩ | ⟨g, cap, cur, hv, _⟩
  · omega
  · exact ⟨g, cap, hv⟩
def NewK (w0 w : World) (B : Nat) (C : Cf) (N : Nat) (W : World) (v : Value) : Prop := ∃ K : Dm, v = pB K.c ∧ K.C = C ∧ K.s = sN N 0 0 ∧ K.lv = .slice none 0 0 ∧ K.ls = [] ∧ DM w0 W K ∧ Below w.heap.size w W ∧ ∀ k, DB K k → B ≤ k
theorem newk_of {w0 w W4 : World} {C : Cf} {N : Nat} (h0 : Below w0.heap.size w0 w) (hN : C.n = N) (hb : Below w.heap.size w W4) (X jh ja jd jp h a d p : Nat) (hX : w.heap.size ≤ X) {B : Nat} (hB : B ≤ X) (eh : h = X + jh) (ea : a = X + ja) (ed : d = X + jd) (ep : p = X + jp) (hs : W4.heap.size = X + 4) (hj : jh ≠ ja ∧ jh ≠ jd ∧ jh ≠ jp ∧ ja ≠ jd ∧ ja ≠ jp ∧ jd ≠ jp ∧ jh < 4 ∧ ja < 4 ∧ jd < 4 ∧ jp < 4)
    (rh : W4.heap[h]? = some (rwI0 N)) (ra : W4.heap[a]? = some (rwI0 N)) (rd : W4.heap[d]? = some (rwW0 N)) (rp : W4.heap[p]? = some (rwB0 N)) :
    NewK w0 w B C N (W4.alloc (dcO C (.slice none 0 0) 0 h a d p (.slice none 0 0) (.slice none 0 0) false)) (pB W4.heap.size) := by
  have hb5 := hb.alloc hb.size (dcO C (.slice none 0 0) 0 h a d p (.slice none 0 0) (.slice none 0 0) false)
  have hz := h0.size
  refine ⟨⟨C, W4.heap.size, h, a, d, p, .slice none 0 0, [], .slice none 0 0, .cells #[] 0 (0, 0), .slice none 0 0, .cells #[] 0 (0, 0), sN N 0 0⟩, rfl, rfl, rfl, rfl, rfl, dm_start (h0.trans (hb5.mono hz)) C N hN _ h a d p (by omega) (by omega) (by omega) (by omega) (by omega) ?_ (heap_alloc_new _ _) ?_ ?_ ?_ ?_, hb5, fun k hk => ?_⟩
  · simp only [List.nodup_cons, List.mem_cons, List.not_mem_nil, or_false, not_or, Option.some.injEq, List.nodup_nil, and_true, not_false_eq_true]
    omega
  · rw [heL_rep]; exact heap_keep rh rfl
  · rw [haL_rep]; exact heap_keep ra rfl
  · exact heap_keep rd rfl
  · rw [apL_rep]; exact heap_keep rp rfl
  · rcases hk with (hk | ⟨m, hm, -⟩) | hk
    · cases hk
    · cases hm
    · have hk2 : some k ∈ [some W4.heap.size, some h, some a, some d, some p, none, none] := hk
      simp only [List.mem_cons, List.not_mem_nil, or_false, Option.some.injEq] at hk2
      rcases hk2 with e | e | e | e | e | e | e
      · omega
      · omega
      · omega
      · omega
      · omega
      · cases e
      · cases e
set_option maxHeartbeats 16000000 in
theorem doc_new (w0 w : World) (h0 : Below w0.heap.size w0 w) (C : Cf) (hm : C.may) :
    Calls Tryz.prog 15 #[C.v] w fun e w' => ∃ K : Dm, e = .returned (pB K.c) ∧ K.C = C ∧ K.s = newP C ∧ DM w0 w' K ∧ Below w.heap.size w w' ∧ ∀ k, DB K k → w.heap.size ≤ k := by
  obtain ⟨N, hN⟩ : ∃ N, C.n = N := ⟨_, rfl⟩
  obtain ⟨D, hD⟩ : ∃ D, C.dl = D := ⟨_, rfl⟩
  have hmay := hm
  unfold Cf.may MayC at hmay
  have hN8 : N ≤ 8 := by omega
  have hN2 : 2 ≤ N := by omega
  have hD8 : D ≤ 8 := by omega
  obtain ⟨P, hP⟩ : ∃ P, w.heap.size = P := ⟨_, rfl⟩
  obtain ⟨W1, hW1⟩ : ∃ W1, W1 = w.alloc (cfO C.n C.me C.id C.dl C.wi C.g C.o C.br C.wk C.ro) := ⟨_, rfl⟩
  have HA : Hid (Below w.heap.size w W1) := by rw [hW1]; exact (Below.refl _ _).alloc (Nat.le_refl _) _
  have hcf : CfAt W1 P C := by rw [hW1, ← hP]; exact CfAt.of_heap (heap_alloc_new w _)
  have HPL : Hid (P < W1.heap.size) := by show _ < _; rw [hW1, ← hP]; simp
  have HS : Hid (∀ W, Below W1.heap.size W1 W → W.cell? ⟨P, 0, none⟩ = some (.int .i64 (N : Int)) ∧ W.cell? ⟨P, 3, none⟩ = some (.int .i64 (D : Int)) ∧ CfAt W P C) := fun W hb => by
    have h1 : CfAt W P C := fun j v hv => (hb.cell (p := ⟨P, j, none⟩) HPL.out).trans (hcf j v hv)
    exact ⟨by rw [← hN]; exact h1 0 _ rfl, by rw [← hD]; exact h1 3 _ rfl, h1⟩
  have HW1 := Lib.hid hW1
  have HH0 := Lib.hid h0
  have HCN := Lib.hid hN; have HCD := Lib.hid hD
  have HPP := Lib.hid hP
  have HN8 := Lib.hid hN8
  obtain ⟨X, hX⟩ : ∃ X, W1.drew.heap.size = X := ⟨_, rfl⟩
  have HXX := Lib.hid hX
  have HB0 : Hid (Below W1.heap.size W1 W1.drew) := (Below.refl _ _).drew
  clear h0 hm hmay hN hD hW1 hcf hP hX
  go_enter Tryz.func15, Tryz.ntmps15
  go_upto_region 1 with fail
  rw [← HW1.out]
  try rw [HPP.out]
  go_cut [3] (fun s3 wx => Hid (NewK w0 w W1.heap.size C N wx s3) ∧ Hid (Below W1.heap.size W1 wx))
  case first =>
    · skip
      refine (fun (LEAF : ∀ (bh ba bd bp : Nat) (W : World), Fct W N X bh ba bd bp → Hid (Below W1.heap.size W1 W) → wpAnyH ?pP ?pm ?po ?pQ ?pS ?pf ?pl ((?pa : Nat → Nat → Nat → Nat → Act) bh ba bd bp) W) => ?main) ?leaf
      case main =>
        refine wp_region_held_drew (S := (fun w' => w'.cell? ⟨P, 0, none⟩ = some (.int .i64 (N : Int)) ∧ w'.cell? ⟨P, 3, none⟩ = some (.int .i64 (D : Int)) ∧ CfAt w' P C)) (by kernel_rfl) (HS.out _ HB0.out) (fun hHeld => ?_)
        refine held_take (i := 0) (v := C.v) rfl (by kernel_rfl) (by kernel_rfl) (by kernel_rfl) (fun _ _ _ h => h) (by rfl) hHeld (exec_load_cf (.tmp 1) rfl P (by rfl) C (fun w h => h.2.2)) ?_
        try simp only [Act.put, nB, nC, nD]
        refine held_take (i := 1) (v := ?_) rfl (by kernel_rfl) (by kernel_rfl) (by kernel_rfl) (fun _ _ _ h => h) (by rfl) hHeld ?_ ?_
        rotate_left 1
        · (intro w hSw; (try dsimp only at hSw); go_simp; try (with_reducible rfl))
        try simp only [Act.put, nB, nC, nD]
        refine held_take (i := 2) (v := ?_) rfl (by kernel_rfl) (by kernel_rfl) (by kernel_rfl) (fun _ _ _ h => h) (by rfl) hHeld ?_ ?_
        rotate_left 1
        · (intro w hSw; (try dsimp only at hSw); go_simp; try (with_reducible rfl))
        try simp only [Act.put, nB, nC, nD]
        refine held_take (i := 4) (v := ?_) rfl (by kernel_rfl) (by kernel_rfl) (by kernel_rfl) (fun _ _ _ h => h) (by rfl) hHeld ?_ ?_
        rotate_left 1
        · (intro w hSw; (try dsimp only at hSw); go_simp; try (with_reducible rfl))
        try simp only [Act.put, nB, nC, nD]
        refine held_take (i := 5) (v := ?_) rfl (by kernel_rfl) (by kernel_rfl) (by kernel_rfl) (fun _ _ _ h => h) (by rfl) hHeld ?_ ?_
        rotate_left 1
        · (intro w hSw; (try dsimp only at hSw); go_simp; try (with_reducible rfl))
        try simp only [Act.put, nB, nC, nD]
        refine held_take (i := 7) (v := ?_) rfl (by kernel_rfl) (by kernel_rfl) (by kernel_rfl) (fun _ _ _ h => h) (by rfl) hHeld ?_ ?_
        rotate_left 1
        · (intro w hSw; (try dsimp only at hSw); go_simp; try (with_reducible rfl))
        try simp only [Act.put, nB, nC, nD]
        refine held_take (i := 8) (v := ?_) rfl (by kernel_rfl) (by kernel_rfl) (by kernel_rfl) (fun _ _ _ h => h) (by rfl) hHeld ?_ ?_
        rotate_left 1
        · (intro w hSw; (try dsimp only at hSw); go_simp; try (with_reducible rfl))
        try simp only [Act.put, nB, nC, nD]
        refine held_take (i := 10) (v := ?_) rfl (by kernel_rfl) (by kernel_rfl) (by kernel_rfl) (fun _ _ _ h => h) (by rfl) hHeld ?_ ?_
        rotate_left 1
        · (intro w hSw; (try dsimp only at hSw); go_simp; try (with_reducible rfl))
        try simp only [Act.put, nB, nC, nD]
        refine held_take (i := 11) (v := ?_) rfl (by kernel_rfl) (by kernel_rfl) (by kernel_rfl) (fun _ _ _ h => h) (by rfl) hHeld ?_ ?_
        rotate_left 1
        · (intro w hSw; (try dsimp only at hSw); go_simp; try (with_reducible rfl))
        try simp only [Act.put, nB, nC, nD]
        refine held_four (i := 3) (j := 6) (k := 9) (l := 12) rfl rfl rfl rfl (by kernel_rfl) (by rfl) (by rfl) (by rfl) (by rfl) (fun K hK => ?_) (fun K hK => ?_) (fun K hK => ?_) (fun K hK => ?_)
        · refine wp_make 92 (.tmp 7) (by rfl) (N : Int) (by rfl) _ (make_ints N HN8.out W1.drew) ?_
          obtain ⟨bh, hbh⟩ : ∃ b, W1.drew.heap.size = b := ⟨_, rfl⟩
          obtain ⟨V1, hV⟩ : ∃ V, V = W1.drew.alloc (rwI0 N) := ⟨_, rfl⟩
          have HB1 : Hid (Below W1.heap.size W1 V1) := by rw [hV]; exact HB0.out.alloc HB0.out.size _
          have HZ1 : Hid (V1.heap.size = X + 1) := by show _ = _; rw [hV, World.size_alloc, HXX.out]
          have HXh : Hid (bh = X + 0) := by show _ = _; rw [← hbh, HXX.out]; rfl
          have HRh : Hid (V1.heap[bh]? = some (rwI0 N)) := by show _ = _; rw [hV, ← hbh]; exact heap_alloc_new _ _
          rw [hbh, ← hV]
          clear hV hbh
          refine hK.out _ _ (HS.out _ HB1.out) (fun hHeld2 => ?_)
          clear hK K hHeld; have hHeld := hHeld2; clear hHeld2
          try simp only [Act.put, nB, nC, nD]
          refine held_three (i := 6) (j := 9) (k := 12) rfl rfl rfl (by kernel_rfl) (by rfl) (by rfl) (by rfl) (fun K hK => ?_) (fun K hK => ?_) (fun K hK => ?_)
          · refine wp_make 92 (.tmp 10) (by rfl) (N : Int) (by rfl) _ (make_ints N HN8.out V1) ?_
            obtain ⟨ba, hba⟩ : ∃ b, V1.heap.size = b := ⟨_, rfl⟩
            obtain ⟨V2, hV⟩ : ∃ V, V = V1.alloc (rwI0 N) := ⟨_, rfl⟩
            have HB2 : Hid (Below W1.heap.size W1 V2) := by rw [hV]; exact HB1.out.alloc HB1.out.size _
            have HZ2 : Hid (V2.heap.size = X + 2) := by show _ = _; rw [hV, World.size_alloc, HZ1.out]
            have HXa : Hid (ba = X + 1) := by show _ = _; rw [← hba, HZ1.out]
            have HRa : Hid (V2.heap[ba]? = some (rwI0 N)) := by show _ = _; rw [hV, ← hba]; exact heap_alloc_new _ _
            replace HRh := Lib.hid (heap_keep HRh.out hV)
            rw [hba, ← hV]
            clear hV hba
            refine hK.out _ _ (HS.out _ HB2.out) (fun hHeld2 => ?_)
            clear hK K hHeld; have hHeld := hHeld2; clear hHeld2
            try simp only [Act.put, nB, nC, nD]
            refine held_two (i := 9) (j := 12) rfl rfl (by kernel_rfl) (by rfl) (by rfl) (fun K hK => ?_) (fun K hK => ?_)
            · refine wp_make 108 (.tmp 13) (by rfl) (N : Int) (by rfl) _ (make_words N HN8.out V2) ?_
              obtain ⟨bd, hbd⟩ : ∃ b, V2.heap.size = b := ⟨_, rfl⟩
              obtain ⟨V3, hV⟩ : ∃ V, V = V2.alloc (rwW0 N) := ⟨_, rfl⟩
              have HB3 : Hid (Below W1.heap.size W1 V3) := by rw [hV]; exact HB2.out.alloc HB2.out.size _
              have HZ3 : Hid (V3.heap.size = X + 3) := by show _ = _; rw [hV, World.size_alloc, HZ2.out]
              have HXd : Hid (bd = X + 2) := by show _ = _; rw [← hbd, HZ2.out]
              have HRd : Hid (V3.heap[bd]? = some (rwW0 N)) := by show _ = _; rw [hV, ← hbd]; exact heap_alloc_new _ _
              replace HRh := Lib.hid (heap_keep HRh.out hV)
              replace HRa := Lib.hid (heap_keep HRa.out hV)
              rw [hbd, ← hV]
              clear hV hbd
              refine hK.out _ _ (HS.out _ HB3.out) (fun hHeld2 => ?_)
              clear hK K hHeld; have hHeld := hHeld2; clear hHeld2
              try simp only [Act.put, nB, nC, nD]
              refine held_one (i := 12) rfl (by kernel_rfl) (by rfl) (fun K hK => ?_)
              refine wp_make 109 (.tmp 16) (by rfl) (N : Int) (by rfl) _ (make_bools N HN8.out V3) ?_
              obtain ⟨bp, hbp⟩ : ∃ b, V3.heap.size = b := ⟨_, rfl⟩
              obtain ⟨V4, hV⟩ : ∃ V, V = V3.alloc (rwB0 N) := ⟨_, rfl⟩
              have HB4 : Hid (Below W1.heap.size W1 V4) := by rw [hV]; exact HB3.out.alloc HB3.out.size _
              have HZ4 : Hid (V4.heap.size = X + 4) := by show _ = _; rw [hV, World.size_alloc, HZ3.out]
              have HXp : Hid (bp = X + 3) := by show _ = _; rw [← hbp, HZ3.out]
              have HRp : Hid (V4.heap[bp]? = some (rwB0 N)) := by show _ = _; rw [hV, ← hbp]; exact heap_alloc_new _ _
              replace HRh := Lib.hid (heap_keep HRh.out hV)
              replace HRa := Lib.hid (heap_keep HRa.out hV)
              replace HRd := Lib.hid (heap_keep HRd.out hV)
              rw [hbp, ← hV]
              clear hV hbp
              refine hK.out _ _ (HS.out _ HB4.out) (fun hHeld2 => ?_)
              clear hK K hHeld; have hHeld := hHeld2; clear hHeld2
              try simp only [Act.put, nB, nC, nD]
              refine wpAnyH_listed (l2 := #[true, true, true, true, true, true, true, true, true, true, true, true, true, false, false, false]) (by kernel_rfl) ?_
              exact LEAF bh ba bd bp V4 ⟨_, _, _, _, HXh.out, HXa.out, HXd.out, HXp.out, by decide, HZ4.out, HRh.out, HRa.out, HRd.out, HRp.out⟩ HB4
            · refine wp_make 109 (.tmp 16) (by rfl) (N : Int) (by rfl) _ (make_bools N HN8.out V2) ?_
              obtain ⟨bp, hbp⟩ : ∃ b, V2.heap.size = b := ⟨_, rfl⟩
              obtain ⟨V3, hV⟩ : ∃ V, V = V2.alloc (rwB0 N) := ⟨_, rfl⟩
              have HB3 : Hid (Below W1.heap.size W1 V3) := by rw [hV]; exact HB2.out.alloc HB2.out.size _
              have HZ3 : Hid (V3.heap.size = X + 3) := by show _ = _; rw [hV, World.size_alloc, HZ2.out]
              have HXp : Hid (bp = X + 2) := by show _ = _; rw [← hbp, HZ2.out]
              have HRp : Hid (V3.heap[bp]? = some (rwB0 N)) := by show _ = _; rw [hV, ← hbp]; exact heap_alloc_new _ _
              replace HRh := Lib.hid (heap_keep HRh.out hV)
              replace HRa := Lib.hid (heap_keep HRa.out hV)
              rw [hbp, ← hV]
              clear hV hbp
              refine hK.out _ _ (HS.out _ HB3.out) (fun hHeld2 => ?_)
              clear hK K hHeld; have hHeld := hHeld2; clear hHeld2
              try simp only [Act.put, nB, nC, nD]
              refine held_one (i := 9) rfl (by kernel_rfl) (by rfl) (fun K hK => ?_)
              refine wp_make 108 (.tmp 13) (by rfl) (N : Int) (by rfl) _ (make_words N HN8.out V3) ?_
              obtain ⟨bd, hbd⟩ : ∃ b, V3.heap.size = b := ⟨_, rfl⟩
              obtain ⟨V4, hV⟩ : ∃ V, V = V3.alloc (rwW0 N) := ⟨_, rfl⟩
              have HB4 : Hid (Below W1.heap.size W1 V4) := by rw [hV]; exact HB3.out.alloc HB3.out.size _
              have HZ4 : Hid (V4.heap.size = X + 4) := by show _ = _; rw [hV, World.size_alloc, HZ3.out]
              have HXd : Hid (bd = X + 3) := by show _ = _; rw [← hbd, HZ3.out]
              have HRd : Hid (V4.heap[bd]? = some (rwW0 N)) := by show _ = _; rw [hV, ← hbd]; exact heap_alloc_new _ _
              replace HRh := Lib.hid (heap_keep HRh.out hV)
              replace HRa := Lib.hid (heap_keep HRa.out hV)
              replace HRp := Lib.hid (heap_keep HRp.out hV)
              rw [hbd, ← hV]
              clear hV hbd
              refine hK.out _ _ (HS.out _ HB4.out) (fun hHeld2 => ?_)
              clear hK K hHeld; have hHeld := hHeld2; clear hHeld2
              try simp only [Act.put, nB, nC, nD]
              refine wpAnyH_listed (l2 := #[true, true, true, true, true, true, true, true, true, true, true, true, true, false, false, false]) (by kernel_rfl) ?_
              exact LEAF bh ba bd bp V4 ⟨_, _, _, _, HXh.out, HXa.out, HXd.out, HXp.out, by decide, HZ4.out, HRh.out, HRa.out, HRd.out, HRp.out⟩ HB4
          · refine wp_make 108 (.tmp 13) (by rfl) (N : Int) (by rfl) _ (make_words N HN8.out V1) ?_
            obtain ⟨bd, hbd⟩ : ∃ b, V1.heap.size = b := ⟨_, rfl⟩
            obtain ⟨V2, hV⟩ : ∃ V, V = V1.alloc (rwW0 N) := ⟨_, rfl⟩
            have HB2 : Hid (Below W1.heap.size W1 V2) := by rw [hV]; exact HB1.out.alloc HB1.out.size _
            have HZ2 : Hid (V2.heap.size = X + 2) := by show _ = _; rw [hV, World.size_alloc, HZ1.out]
            have HXd : Hid (bd = X + 1) := by show _ = _; rw [← hbd, HZ1.out]
            have HRd : Hid (V2.heap[bd]? = some (rwW0 N)) := by show _ = _; rw [hV, ← hbd]; exact heap_alloc_new _ _
            replace HRh := Lib.hid (heap_keep HRh.out hV)
            rw [hbd, ← hV]
            clear hV hbd
            refine hK.out _ _ (HS.out _ HB2.out) (fun hHeld2 => ?_)
            clear hK K hHeld; have hHeld := hHeld2; clear hHeld2
            try simp only [Act.put, nB, nC, nD]
            refine held_two (i := 6) (j := 12) rfl rfl (by kernel_rfl) (by rfl) (by rfl) (fun K hK => ?_) (fun K hK => ?_)
            · refine wp_make 92 (.tmp 10) (by rfl) (N : Int) (by rfl) _ (make_ints N HN8.out V2) ?_
              obtain ⟨ba, hba⟩ : ∃ b, V2.heap.size = b := ⟨_, rfl⟩
              obtain ⟨V3, hV⟩ : ∃ V, V = V2.alloc (rwI0 N) := ⟨_, rfl⟩
              have HB3 : Hid (Below W1.heap.size W1 V3) := by rw [hV]; exact HB2.out.alloc HB2.out.size _
              have HZ3 : Hid (V3.heap.size = X + 3) := by show _ = _; rw [hV, World.size_alloc, HZ2.out]
              have HXa : Hid (ba = X + 2) := by show _ = _; rw [← hba, HZ2.out]
              have HRa : Hid (V3.heap[ba]? = some (rwI0 N)) := by show _ = _; rw [hV, ← hba]; exact heap_alloc_new _ _
              replace HRh := Lib.hid (heap_keep HRh.out hV)
              replace HRd := Lib.hid (heap_keep HRd.out hV)
              rw [hba, ← hV]
              clear hV hba
              refine hK.out _ _ (HS.out _ HB3.out) (fun hHeld2 => ?_)
              clear hK K hHeld; have hHeld := hHeld2; clear hHeld2
              try simp only [Act.put, nB, nC, nD]
              refine held_one (i := 12) rfl (by kernel_rfl) (by rfl) (fun K hK => ?_)
              refine wp_make 109 (.tmp 16) (by rfl) (N : Int) (by rfl) _ (make_bools N HN8.out V3) ?_
              obtain ⟨bp, hbp⟩ : ∃ b, V3.heap.size = b := ⟨_, rfl⟩
              obtain ⟨V4, hV⟩ : ∃ V, V = V3.alloc (rwB0 N) := ⟨_, rfl⟩
              have HB4 : Hid (Below W1.heap.size W1 V4) := by rw [hV]; exact HB3.out.alloc HB3.out.size _
              have HZ4 : Hid (V4.heap.size = X + 4) := by show _ = _; rw [hV, World.size_alloc, HZ3.out]
              have HXp : Hid (bp = X + 3) := by show _ = _; rw [← hbp, HZ3.out]
              have HRp : Hid (V4.heap[bp]? = some (rwB0 N)) := by show _ = _; rw [hV, ← hbp]; exact heap_alloc_new _ _
              replace HRh := Lib.hid (heap_keep HRh.out hV)
              replace HRd := Lib.hid (heap_keep HRd.out hV)
              replace HRa := Lib.hid (heap_keep HRa.out hV)
              rw [hbp, ← hV]
              clear hV hbp
              refine hK.out _ _ (HS.out _ HB4.out) (fun hHeld2 => ?_)
              clear hK K hHeld; have hHeld := hHeld2; clear hHeld2
              try simp only [Act.put, nB, nC, nD]
              refine wpAnyH_listed (l2 := #[true, true, true, true, true, true, true, true, true, true, true, true, true, false, false, false]) (by kernel_rfl) ?_
              exact LEAF bh ba bd bp V4 ⟨_, _, _, _, HXh.out, HXa.out, HXd.out, HXp.out, by decide, HZ4.out, HRh.out, HRa.out, HRd.out, HRp.out⟩ HB4
            · refine wp_make 109 (.tmp 16) (by rfl) (N : Int) (by rfl) _ (make_bools N HN8.out V2) ?_
              obtain ⟨bp, hbp⟩ : ∃ b, V2.heap.size = b := ⟨_, rfl⟩
              obtain ⟨V3, hV⟩ : ∃ V, V = V2.alloc (rwB0 N) := ⟨_, rfl⟩
              have HB3 : Hid (Below W1.heap.size W1 V3) := by rw [hV]; exact HB2.out.alloc HB2.out.size _
              have HZ3 : Hid (V3.heap.size = X + 3) := by show _ = _; rw [hV, World.size_alloc, HZ2.out]
              have HXp : Hid (bp = X + 2) := by show _ = _; rw [← hbp, HZ2.out]
              have HRp : Hid (V3.heap[bp]? = some (rwB0 N)) := by show _ = _; rw [hV, ← hbp]; exact heap_alloc_new _ _
              replace HRh := Lib.hid (heap_keep HRh.out hV)
              replace HRd := Lib.hid (heap_keep HRd.out hV)
              rw [hbp, ← hV]
              clear hV hbp
              refine hK.out _ _ (HS.out _ HB3.out) (fun hHeld2 => ?_)
              clear hK K hHeld; have hHeld := hHeld2; clear hHeld2
              try simp only [Act.put, nB, nC, nD]
              refine held_one (i := 6) rfl (by kernel_rfl) (by rfl) (fun K hK => ?_)
              refine wp_make 92 (.tmp 10) (by rfl) (N : Int) (by rfl) _ (make_ints N HN8.out V3) ?_
              obtain ⟨ba, hba⟩ : ∃ b, V3.heap.size = b := ⟨_, rfl⟩
              obtain ⟨V4, hV⟩ : ∃ V, V = V3.alloc (rwI0 N) := ⟨_, rfl⟩
              have HB4 : Hid (Below W1.heap.size W1 V4) := by rw [hV]; exact HB3.out.alloc HB3.out.size _
              have HZ4 : Hid (V4.heap.size = X + 4) := by show _ = _; rw [hV, World.size_alloc, HZ3.out]
              have HXa : Hid (ba = X + 3) := by show _ = _; rw [← hba, HZ3.out]
              have HRa : Hid (V4.heap[ba]? = some (rwI0 N)) := by show _ = _; rw [hV, ← hba]; exact heap_alloc_new _ _
              replace HRh := Lib.hid (heap_keep HRh.out hV)
              replace HRd := Lib.hid (heap_keep HRd.out hV)
              replace HRp := Lib.hid (heap_keep HRp.out hV)
              rw [hba, ← hV]
              clear hV hba
              refine hK.out _ _ (HS.out _ HB4.out) (fun hHeld2 => ?_)
              clear hK K hHeld; have hHeld := hHeld2; clear hHeld2
              try simp only [Act.put, nB, nC, nD]
              refine wpAnyH_listed (l2 := #[true, true, true, true, true, true, true, true, true, true, true, true, true, false, false, false]) (by kernel_rfl) ?_
              exact LEAF bh ba bd bp V4 ⟨_, _, _, _, HXh.out, HXa.out, HXd.out, HXp.out, by decide, HZ4.out, HRh.out, HRa.out, HRd.out, HRp.out⟩ HB4
          · refine wp_make 109 (.tmp 16) (by rfl) (N : Int) (by rfl) _ (make_bools N HN8.out V1) ?_
            obtain ⟨bp, hbp⟩ : ∃ b, V1.heap.size = b := ⟨_, rfl⟩
            obtain ⟨V2, hV⟩ : ∃ V, V = V1.alloc (rwB0 N) := ⟨_, rfl⟩
            have HB2 : Hid (Below W1.heap.size W1 V2) := by rw [hV]; exact HB1.out.alloc HB1.out.size _
            have HZ2 : Hid (V2.heap.size = X + 2) := by show _ = _; rw [hV, World.size_alloc, HZ1.out]
            have HXp : Hid (bp = X + 1) := by show _ = _; rw [← hbp, HZ1.out]
            have HRp : Hid (V2.heap[bp]? = some (rwB0 N)) := by show _ = _; rw [hV, ← hbp]; exact heap_alloc_new _ _
            replace HRh := Lib.hid (heap_keep HRh.out hV)
            rw [hbp, ← hV]
            clear hV hbp
            refine hK.out _ _ (HS.out _ HB2.out) (fun hHeld2 => ?_)
            clear hK K hHeld; have hHeld := hHeld2; clear hHeld2
            try simp only [Act.put, nB, nC, nD]
            refine held_two (i := 6) (j := 9) rfl rfl (by kernel_rfl) (by rfl) (by rfl) (fun K hK => ?_) (fun K hK => ?_)
            · refine wp_make 92 (.tmp 10) (by rfl) (N : Int) (by rfl) _ (make_ints N HN8.out V2) ?_
              obtain ⟨ba, hba⟩ : ∃ b, V2.heap.size = b := ⟨_, rfl⟩
              obtain ⟨V3, hV⟩ : ∃ V, V = V2.alloc (rwI0 N) := ⟨_, rfl⟩
              have HB3 : Hid (Below W1.heap.size W1 V3) := by rw [hV]; exact HB2.out.alloc HB2.out.size _
              have HZ3 : Hid (V3.heap.size = X + 3) := by show _ = _; rw [hV, World.size_alloc, HZ2.out]
              have HXa : Hid (ba = X + 2) := by show _ = _; rw [← hba, HZ2.out]
              have HRa : Hid (V3.heap[ba]? = some (rwI0 N)) := by show _ = _; rw [hV, ← hba]; exact heap_alloc_new _ _
              replace HRh := Lib.hid (heap_keep HRh.out hV)
              replace HRp := Lib.hid (heap_keep HRp.out hV)
              rw [hba, ← hV]
              clear hV hba
              refine hK.out _ _ (HS.out _ HB3.out) (fun hHeld2 => ?_)
              clear hK K hHeld; have hHeld := hHeld2; clear hHeld2
              try simp only [Act.put, nB, nC, nD]
              refine held_one (i := 9) rfl (by kernel_rfl) (by rfl) (fun K hK => ?_)
              refine wp_make 108 (.tmp 13) (by rfl) (N : Int) (by rfl) _ (make_words N HN8.out V3) ?_
              obtain ⟨bd, hbd⟩ : ∃ b, V3.heap.size = b := ⟨_, rfl⟩
              obtain ⟨V4, hV⟩ : ∃ V, V = V3.alloc (rwW0 N) := ⟨_, rfl⟩
              have HB4 : Hid (Below W1.heap.size W1 V4) := by rw [hV]; exact HB3.out.alloc HB3.out.size _
              have HZ4 : Hid (V4.heap.size = X + 4) := by show _ = _; rw [hV, World.size_alloc, HZ3.out]
              have HXd : Hid (bd = X + 3) := by show _ = _; rw [← hbd, HZ3.out]
              have HRd : Hid (V4.heap[bd]? = some (rwW0 N)) := by show _ = _; rw [hV, ← hbd]; exact heap_alloc_new _ _
              replace HRh := Lib.hid (heap_keep HRh.out hV)
              replace HRp := Lib.hid (heap_keep HRp.out hV)
              replace HRa := Lib.hid (heap_keep HRa.out hV)
              rw [hbd, ← hV]
              clear hV hbd
              refine hK.out _ _ (HS.out _ HB4.out) (fun hHeld2 => ?_)
              clear hK K hHeld; have hHeld := hHeld2; clear hHeld2
              try simp only [Act.put, nB, nC, nD]
              refine wpAnyH_listed (l2 := #[true, true, true, true, true, true, true, true, true, true, true, true, true, false, false, false]) (by kernel_rfl) ?_
              exact LEAF bh ba bd bp V4 ⟨_, _, _, _, HXh.out, HXa.out, HXd.out, HXp.out, by decide, HZ4.out, HRh.out, HRa.out, HRd.out, HRp.out⟩ HB4
            · refine wp_make 108 (.tmp 13) (by rfl) (N : Int) (by rfl) _ (make_words N HN8.out V2) ?_
              obtain ⟨bd, hbd⟩ : ∃ b, V2.heap.size = b := ⟨_, rfl⟩
              obtain ⟨V3, hV⟩ : ∃ V, V = V2.alloc (rwW0 N) := ⟨_, rfl⟩
              have HB3 : Hid (Below W1.heap.size W1 V3) := by rw [hV]; exact HB2.out.alloc HB2.out.size _
              have HZ3 : Hid (V3.heap.size = X + 3) := by show _ = _; rw [hV, World.size_alloc, HZ2.out]
              have HXd : Hid (bd = X + 2) := by show _ = _; rw [← hbd, HZ2.out]
              have HRd : Hid (V3.heap[bd]? = some (rwW0 N)) := by show _ = _; rw [hV, ← hbd]; exact heap_alloc_new _ _
              replace HRh := Lib.hid (heap_keep HRh.out hV)
              replace HRp := Lib.hid (heap_keep HRp.out hV)
              rw [hbd, ← hV]
              clear hV hbd
              refine hK.out _ _ (HS.out _ HB3.out) (fun hHeld2 => ?_)
              clear hK K hHeld; have hHeld := hHeld2; clear hHeld2
              try simp only [Act.put, nB, nC, nD]
              refine held_one (i := 6) rfl (by kernel_rfl) (by rfl) (fun K hK => ?_)
              refine wp_make 92 (.tmp 10) (by rfl) (N : Int) (by rfl) _ (make_ints N HN8.out V3) ?_
              obtain ⟨ba, hba⟩ : ∃ b, V3.heap.size = b := ⟨_, rfl⟩
              obtain ⟨V4, hV⟩ : ∃ V, V = V3.alloc (rwI0 N) := ⟨_, rfl⟩
              have HB4 : Hid (Below W1.heap.size W1 V4) := by rw [hV]; exact HB3.out.alloc HB3.out.size _
              have HZ4 : Hid (V4.heap.size = X + 4) := by show _ = _; rw [hV, World.size_alloc, HZ3.out]
              have HXa : Hid (ba = X + 3) := by show _ = _; rw [← hba, HZ3.out]
              have HRa : Hid (V4.heap[ba]? = some (rwI0 N)) := by show _ = _; rw [hV, ← hba]; exact heap_alloc_new _ _
              replace HRh := Lib.hid (heap_keep HRh.out hV)
              replace HRp := Lib.hid (heap_keep HRp.out hV)
              replace HRd := Lib.hid (heap_keep HRd.out hV)
              rw [hba, ← hV]
              clear hV hba
              refine hK.out _ _ (HS.out _ HB4.out) (fun hHeld2 => ?_)
              clear hK K hHeld; have hHeld := hHeld2; clear hHeld2
              try simp only [Act.put, nB, nC, nD]
              refine wpAnyH_listed (l2 := #[true, true, true, true, true, true, true, true, true, true, true, true, true, false, false, false]) (by kernel_rfl) ?_
              exact LEAF bh ba bd bp V4 ⟨_, _, _, _, HXh.out, HXa.out, HXd.out, HXp.out, by decide, HZ4.out, HRh.out, HRa.out, HRd.out, HRp.out⟩ HB4
        · refine wp_make 92 (.tmp 10) (by rfl) (N : Int) (by rfl) _ (make_ints N HN8.out W1.drew) ?_
          obtain ⟨ba, hba⟩ : ∃ b, W1.drew.heap.size = b := ⟨_, rfl⟩
          obtain ⟨V1, hV⟩ : ∃ V, V = W1.drew.alloc (rwI0 N) := ⟨_, rfl⟩
          have HB1 : Hid (Below W1.heap.size W1 V1) := by rw [hV]; exact HB0.out.alloc HB0.out.size _
          have HZ1 : Hid (V1.heap.size = X + 1) := by show _ = _; rw [hV, World.size_alloc, HXX.out]
          have HXa : Hid (ba = X + 0) := by show _ = _; rw [← hba, HXX.out]; rfl
          have HRa : Hid (V1.heap[ba]? = some (rwI0 N)) := by show _ = _; rw [hV, ← hba]; exact heap_alloc_new _ _
          rw [hba, ← hV]
          clear hV hba
          refine hK.out _ _ (HS.out _ HB1.out) (fun hHeld2 => ?_)
          clear hK K hHeld; have hHeld := hHeld2; clear hHeld2
          try simp only [Act.put, nB, nC, nD]
          refine held_three (i := 3) (j := 9) (k := 12) rfl rfl rfl (by kernel_rfl) (by rfl) (by rfl) (by rfl) (fun K hK => ?_) (fun K hK => ?_) (fun K hK => ?_)
          · refine wp_make 92 (.tmp 7) (by rfl) (N : Int) (by rfl) _ (make_ints N HN8.out V1) ?_
            obtain ⟨bh, hbh⟩ : ∃ b, V1.heap.size = b := ⟨_, rfl⟩
            obtain ⟨V2, hV⟩ : ∃ V, V = V1.alloc (rwI0 N) := ⟨_, rfl⟩
            have HB2 : Hid (Below W1.heap.size W1 V2) := by rw [hV]; exact HB1.out.alloc HB1.out.size _
            have HZ2 : Hid (V2.heap.size = X + 2) := by show _ = _; rw [hV, World.size_alloc, HZ1.out]
            have HXh : Hid (bh = X + 1) := by show _ = _; rw [← hbh, HZ1.out]
            have HRh : Hid (V2.heap[bh]? = some (rwI0 N)) := by show _ = _; rw [hV, ← hbh]; exact heap_alloc_new _ _
            replace HRa := Lib.hid (heap_keep HRa.out hV)
            rw [hbh, ← hV]
            clear hV hbh
            refine hK.out _ _ (HS.out _ HB2.out) (fun hHeld2 => ?_)
            clear hK K hHeld; have hHeld := hHeld2; clear hHeld2
            try simp only [Act.put, nB, nC, nD]
            refine held_two (i := 9) (j := 12) rfl rfl (by kernel_rfl) (by rfl) (by rfl) (fun K hK => ?_) (fun K hK => ?_)
            · refine wp_make 108 (.tmp 13) (by rfl) (N : Int) (by rfl) _ (make_words N HN8.out V2) ?_
              obtain ⟨bd, hbd⟩ : ∃ b, V2.heap.size = b := ⟨_, rfl⟩
              obtain ⟨V3, hV⟩ : ∃ V, V = V2.alloc (rwW0 N) := ⟨_, rfl⟩
              have HB3 : Hid (Below W1.heap.size W1 V3) := by rw [hV]; exact HB2.out.alloc HB2.out.size _
              have HZ3 : Hid (V3.heap.size = X + 3) := by show _ = _; rw [hV, World.size_alloc, HZ2.out]
              have HXd : Hid (bd = X + 2) := by show _ = _; rw [← hbd, HZ2.out]
              have HRd : Hid (V3.heap[bd]? = some (rwW0 N)) := by show _ = _; rw [hV, ← hbd]; exact heap_alloc_new _ _
              replace HRa := Lib.hid (heap_keep HRa.out hV)
              replace HRh := Lib.hid (heap_keep HRh.out hV)
              rw [hbd, ← hV]
              clear hV hbd
              refine hK.out _ _ (HS.out _ HB3.out) (fun hHeld2 => ?_)
              clear hK K hHeld; have hHeld := hHeld2; clear hHeld2
              try simp only [Act.put, nB, nC, nD]
              refine held_one (i := 12) rfl (by kernel_rfl) (by rfl) (fun K hK => ?_)
              refine wp_make 109 (.tmp 16) (by rfl) (N : Int) (by rfl) _ (make_bools N HN8.out V3) ?_
              obtain ⟨bp, hbp⟩ : ∃ b, V3.heap.size = b := ⟨_, rfl⟩
              obtain ⟨V4, hV⟩ : ∃ V, V = V3.alloc (rwB0 N) := ⟨_, rfl⟩
              have HB4 : Hid (Below W1.heap.size W1 V4) := by rw [hV]; exact HB3.out.alloc HB3.out.size _
              have HZ4 : Hid (V4.heap.size = X + 4) := by show _ = _; rw [hV, World.size_alloc, HZ3.out]
              have HXp : Hid (bp = X + 3) := by show _ = _; rw [← hbp, HZ3.out]
              have HRp : Hid (V4.heap[bp]? = some (rwB0 N)) := by show _ = _; rw [hV, ← hbp]; exact heap_alloc_new _ _
              replace HRa := Lib.hid (heap_keep HRa.out hV)
              replace HRh := Lib.hid (heap_keep HRh.out hV)
              replace HRd := Lib.hid (heap_keep HRd.out hV)
              rw [hbp, ← hV]
              clear hV hbp
              refine hK.out _ _ (HS.out _ HB4.out) (fun hHeld2 => ?_)
              clear hK K hHeld; have hHeld := hHeld2; clear hHeld2
              try simp only [Act.put, nB, nC, nD]
              refine wpAnyH_listed (l2 := #[true, true, true, true, true, true, true, true, true, true, true, true, true, false, false, false]) (by kernel_rfl) ?_
              exact LEAF bh ba bd bp V4 ⟨_, _, _, _, HXh.out, HXa.out, HXd.out, HXp.out, by decide, HZ4.out, HRh.out, HRa.out, HRd.out, HRp.out⟩ HB4
            · refine wp_make 109 (.tmp 16) (by rfl) (N : Int) (by rfl) _ (make_bools N HN8.out V2) ?_
              obtain ⟨bp, hbp⟩ : ∃ b, V2.heap.size = b := ⟨_, rfl⟩
              obtain ⟨V3, hV⟩ : ∃ V, V = V2.alloc (rwB0 N) := ⟨_, rfl⟩
              have HB3 : Hid (Below W1.heap.size W1 V3) := by rw [hV]; exact HB2.out.alloc HB2.out.size _
              have HZ3 : Hid (V3.heap.size = X + 3) := by show _ = _; rw [hV, World.size_alloc, HZ2.out]
              have HXp : Hid (bp = X + 2) := by show _ = _; rw [← hbp, HZ2.out]
              have HRp : Hid (V3.heap[bp]? = some (rwB0 N)) := by show _ = _; rw [hV, ← hbp]; exact heap_alloc_new _ _
              replace HRa := Lib.hid (heap_keep HRa.out hV)
              replace HRh := Lib.hid (heap_keep HRh.out hV)
              rw [hbp, ← hV]
              clear hV hbp
              refine hK.out _ _ (HS.out _ HB3.out) (fun hHeld2 => ?_)
              clear hK K hHeld; have hHeld := hHeld2; clear hHeld2
              try simp only [Act.put, nB, nC, nD]
              refine held_one (i := 9) rfl (by kernel_rfl) (by rfl) (fun K hK => ?_)
              refine wp_make 108 (.tmp 13) (by rfl) (N : Int) (by rfl) _ (make_words N HN8.out V3) ?_
              obtain ⟨bd, hbd⟩ : ∃ b, V3.heap.size = b := ⟨_, rfl⟩
              obtain ⟨V4, hV⟩ : ∃ V, V = V3.alloc (rwW0 N) := ⟨_, rfl⟩
              have HB4 : Hid (Below W1.heap.size W1 V4) := by rw [hV]; exact HB3.out.alloc HB3.out.size _
              have HZ4 : Hid (V4.heap.size = X + 4) := by show _ = _; rw [hV, World.size_alloc, HZ3.out]
              have HXd : Hid (bd = X + 3) := by show _ = _; rw [← hbd, HZ3.out]
              have HRd : Hid (V4.heap[bd]? = some (rwW0 N)) := by show _ = _; rw [hV, ← hbd]; exact heap_alloc_new _ _
              replace HRa := Lib.hid (heap_keep HRa.out hV)
              replace HRh := Lib.hid (heap_keep HRh.out hV)
              replace HRp := Lib.hid (heap_keep HRp.out hV)
              rw [hbd, ← hV]
              clear hV hbd
              refine hK.out _ _ (HS.out _ HB4.out) (fun hHeld2 => ?_)
              clear hK K hHeld; have hHeld := hHeld2; clear hHeld2
              try simp only [Act.put, nB, nC, nD]
              refine wpAnyH_listed (l2 := #[true, true, true, true, true, true, true, true, true, true, true, true, true, false, false, false]) (by kernel_rfl) ?_
              exact LEAF bh ba bd bp V4 ⟨_, _, _, _, HXh.out, HXa.out, HXd.out, HXp.out, by decide, HZ4.out, HRh.out, HRa.out, HRd.out, HRp.out⟩ HB4
          · refine wp_make 108 (.tmp 13) (by rfl) (N : Int) (by rfl) _ (make_words N HN8.out V1) ?_
            obtain ⟨bd, hbd⟩ : ∃ b, V1.heap.size = b := ⟨_, rfl⟩
            obtain ⟨V2, hV⟩ : ∃ V, V = V1.alloc (rwW0 N) := ⟨_, rfl⟩
            have HB2 : Hid (Below W1.heap.size W1 V2) := by rw [hV]; exact HB1.out.alloc HB1.out.size _
            have HZ2 : Hid (V2.heap.size = X + 2) := by show _ = _; rw [hV, World.size_alloc, HZ1.out]
            have HXd : Hid (bd = X + 1) := by show _ = _; rw [← hbd, HZ1.out]
            have HRd : Hid (V2.heap[bd]? = some (rwW0 N)) := by show _ = _; rw [hV, ← hbd]; exact heap_alloc_new _ _
            replace HRa := Lib.hid (heap_keep HRa.out hV)
            rw [hbd, ← hV]
            clear hV hbd
            refine hK.out _ _ (HS.out _ HB2.out) (fun hHeld2 => ?_)
            clear hK K hHeld; have hHeld := hHeld2; clear hHeld2
            try simp only [Act.put, nB, nC, nD]
            refine held_two (i := 3) (j := 12) rfl rfl (by kernel_rfl) (by rfl) (by rfl) (fun K hK => ?_) (fun K hK => ?_)
            · refine wp_make 92 (.tmp 7) (by rfl) (N : Int) (by rfl) _ (make_ints N HN8.out V2) ?_
              obtain ⟨bh, hbh⟩ : ∃ b, V2.heap.size = b := ⟨_, rfl⟩
              obtain ⟨V3, hV⟩ : ∃ V, V = V2.alloc (rwI0 N) := ⟨_, rfl⟩
              have HB3 : Hid (Below W1.heap.size W1 V3) := by rw [hV]; exact HB2.out.alloc HB2.out.size _
              have HZ3 : Hid (V3.heap.size = X + 3) := by show _ = _; rw [hV, World.size_alloc, HZ2.out]
              have HXh : Hid (bh = X + 2) := by show _ = _; rw [← hbh, HZ2.out]
              have HRh : Hid (V3.heap[bh]? = some (rwI0 N)) := by show _ = _; rw [hV, ← hbh]; exact heap_alloc_new _ _
              replace HRa := Lib.hid (heap_keep HRa.out hV)
              replace HRd := Lib.hid (heap_keep HRd.out hV)
              rw [hbh, ← hV]
              clear hV hbh
              refine hK.out _ _ (HS.out _ HB3.out) (fun hHeld2 => ?_)
              clear hK K hHeld; have hHeld := hHeld2; clear hHeld2
              try simp only [Act.put, nB, nC, nD]
              refine held_one (i := 12) rfl (by kernel_rfl) (by rfl) (fun K hK => ?_)
              refine wp_make 109 (.tmp 16) (by rfl) (N : Int) (by rfl) _ (make_bools N HN8.out V3) ?_
              obtain ⟨bp, hbp⟩ : ∃ b, V3.heap.size = b := ⟨_, rfl⟩
              obtain ⟨V4, hV⟩ : ∃ V, V = V3.alloc (rwB0 N) := ⟨_, rfl⟩
              have HB4 : Hid (Below W1.heap.size W1 V4) := by rw [hV]; exact HB3.out.alloc HB3.out.size _
              have HZ4 : Hid (V4.heap.size = X + 4) := by show _ = _; rw [hV, World.size_alloc, HZ3.out]
              have HXp : Hid (bp = X + 3) := by show _ = _; rw [← hbp, HZ3.out]
              have HRp : Hid (V4.heap[bp]? = some (rwB0 N)) := by show _ = _; rw [hV, ← hbp]; exact heap_alloc_new _ _
              replace HRa := Lib.hid (heap_keep HRa.out hV)
              replace HRd := Lib.hid (heap_keep HRd.out hV)
              replace HRh := Lib.hid (heap_keep HRh.out hV)
              rw [hbp, ← hV]
              clear hV hbp
              refine hK.out _ _ (HS.out _ HB4.out) (fun hHeld2 => ?_)
              clear hK K hHeld; have hHeld := hHeld2; clear hHeld2
              try simp only [Act.put, nB, nC, nD]
              refine wpAnyH_listed (l2 := #[true, true, true, true, true, true, true, true, true, true, true, true, true, false, false, false]) (by kernel_rfl) ?_
              exact LEAF bh ba bd bp V4 ⟨_, _, _, _, HXh.out, HXa.out, HXd.out, HXp.out, by decide, HZ4.out, HRh.out, HRa.out, HRd.out, HRp.out⟩ HB4
            · refine wp_make 109 (.tmp 16) (by rfl) (N : Int) (by rfl) _ (make_bools N HN8.out V2) ?_
              obtain ⟨bp, hbp⟩ : ∃ b, V2.heap.size = b := ⟨_, rfl⟩
              obtain ⟨V3, hV⟩ : ∃ V, V = V2.alloc (rwB0 N) := ⟨_, rfl⟩
              have HB3 : Hid (Below W1.heap.size W1 V3) := by rw [hV]; exact HB2.out.alloc HB2.out.size _
              have HZ3 : Hid (V3.heap.size = X + 3) := by show _ = _; rw [hV, World.size_alloc, HZ2.out]
              have HXp : Hid (bp = X + 2) := by show _ = _; rw [← hbp, HZ2.out]
              have HRp : Hid (V3.heap[bp]? = some (rwB0 N)) := by show _ = _; rw [hV, ← hbp]; exact heap_alloc_new _ _
              replace HRa := Lib.hid (heap_keep HRa.out hV)
              replace HRd := Lib.hid (heap_keep HRd.out hV)
              rw [hbp, ← hV]
              clear hV hbp
              refine hK.out _ _ (HS.out _ HB3.out) (fun hHeld2 => ?_)
              clear hK K hHeld; have hHeld := hHeld2; clear hHeld2
              try simp only [Act.put, nB, nC, nD]
              refine held_one (i := 3) rfl (by kernel_rfl) (by rfl) (fun K hK => ?_)
              refine wp_make 92 (.tmp 7) (by rfl) (N : Int) (by rfl) _ (make_ints N HN8.out V3) ?_
              obtain ⟨bh, hbh⟩ : ∃ b, V3.heap.size = b := ⟨_, rfl⟩
              obtain ⟨V4, hV⟩ : ∃ V, V = V3.alloc (rwI0 N) := ⟨_, rfl⟩
              have HB4 : Hid (Below W1.heap.size W1 V4) := by rw [hV]; exact HB3.out.alloc HB3.out.size _
              have HZ4 : Hid (V4.heap.size = X + 4) := by show _ = _; rw [hV, World.size_alloc, HZ3.out]
              have HXh : Hid (bh = X + 3) := by show _ = _; rw [← hbh, HZ3.out]
              have HRh : Hid (V4.heap[bh]? = some (rwI0 N)) := by show _ = _; rw [hV, ← hbh]; exact heap_alloc_new _ _
              replace HRa := Lib.hid (heap_keep HRa.out hV)
              replace HRd := Lib.hid (heap_keep HRd.out hV)
              replace HRp := Lib.hid (heap_keep HRp.out hV)
              rw [hbh, ← hV]
              clear hV hbh
              refine hK.out _ _ (HS.out _ HB4.out) (fun hHeld2 => ?_)
              clear hK K hHeld; have hHeld := hHeld2; clear hHeld2
              try simp only [Act.put, nB, nC, nD]
              refine wpAnyH_listed (l2 := #[true, true, true, true, true, true, true, true, true, true, true, true, true, false, false, false]) (by kernel_rfl) ?_
              exact LEAF bh ba bd bp V4 ⟨_, _, _, _, HXh.out, HXa.out, HXd.out, HXp.out, by decide, HZ4.out, HRh.out, HRa.out, HRd.out, HRp.out⟩ HB4
          · refine wp_make 109 (.tmp 16) (by rfl) (N : Int) (by rfl) _ (make_bools N HN8.out V1) ?_
            obtain ⟨bp, hbp⟩ : ∃ b, V1.heap.size = b := ⟨_, rfl⟩
            obtain ⟨V2, hV⟩ : ∃ V, V = V1.alloc (rwB0 N) := ⟨_, rfl⟩
            have HB2 : Hid (Below W1.heap.size W1 V2) := by rw [hV]; exact HB1.out.alloc HB1.out.size _
            have HZ2 : Hid (V2.heap.size = X + 2) := by show _ = _; rw [hV, World.size_alloc, HZ1.out]
            have HXp : Hid (bp = X + 1) := by show _ = _; rw [← hbp, HZ1.out]
            have HRp : Hid (V2.heap[bp]? = some (rwB0 N)) := by show _ = _; rw [hV, ← hbp]; exact heap_alloc_new _ _
            replace HRa := Lib.hid (heap_keep HRa.out hV)
            rw [hbp, ← hV]
            clear hV hbp
            refine hK.out _ _ (HS.out _ HB2.out) (fun hHeld2 => ?_)
            clear hK K hHeld; have hHeld := hHeld2; clear hHeld2
            try simp only [Act.put, nB, nC, nD]
            refine held_two (i := 3) (j := 9) rfl rfl (by kernel_rfl) (by rfl) (by rfl) (fun K hK => ?_) (fun K hK => ?_)
            · refine wp_make 92 (.tmp 7) (by rfl) (N : Int) (by rfl) _ (make_ints N HN8.out V2) ?_
              obtain ⟨bh, hbh⟩ : ∃ b, V2.heap.size = b := ⟨_, rfl⟩
              obtain ⟨V3, hV⟩ : ∃ V, V = V2.alloc (rwI0 N) := ⟨_, rfl⟩
              have HB3 : Hid (Below W1.heap.size W1 V3) := by rw [hV]; exact HB2.out.alloc HB2.out.size _
              have HZ3 : Hid (V3.heap.size = X + 3) := by show _ = _; rw [hV, World.size_alloc, HZ2.out]
              have HXh : Hid (bh = X + 2) := by show _ = _; rw [← hbh, HZ2.out]
              have HRh : Hid (V3.heap[bh]? = some (rwI0 N)) := by show _ = _; rw [hV, ← hbh]; exact heap_alloc_new _ _
              replace HRa := Lib.hid (heap_keep HRa.out hV)
              replace HRp := Lib.hid (heap_keep HRp.out hV)
              rw [hbh, ← hV]
              clear hV hbh
              refine hK.out _ _ (HS.out _ HB3.out) (fun hHeld2 => ?_)
              clear hK K hHeld; have hHeld := hHeld2; clear hHeld2
              try simp only [Act.put, nB, nC, nD]
              refine held_one (i := 9) rfl (by kernel_rfl) (by rfl) (fun K hK => ?_)
              refine wp_make 108 (.tmp 13) (by rfl) (N : Int) (by rfl) _ (make_words N HN8.out V3) ?_
              obtain ⟨bd, hbd⟩ : ∃ b, V3.heap.size = b := ⟨_, rfl⟩
              obtain ⟨V4, hV⟩ : ∃ V, V = V3.alloc (rwW0 N) := ⟨_, rfl⟩
              have HB4 : Hid (Below W1.heap.size W1 V4) := by rw [hV]; exact HB3.out.alloc HB3.out.size _
              have HZ4 : Hid (V4.heap.size = X + 4) := by show _ = _; rw [hV, World.size_alloc, HZ3.out]
              have HXd : Hid (bd = X + 3) := by show _ = _; rw [← hbd, HZ3.out]
              have HRd : Hid (V4.heap[bd]? = some (rwW0 N)) := by show _ = _; rw [hV, ← hbd]; exact heap_alloc_new _ _
              replace HRa := Lib.hid (heap_keep HRa.out hV)
              replace HRp := Lib.hid (heap_keep HRp.out hV)
              replace HRh := Lib.hid (heap_keep HRh.out hV)
              rw [hbd, ← hV]
              clear hV hbd
              refine hK.out _ _ (HS.out _ HB4.out) (fun hHeld2 => ?_)
              clear hK K hHeld; have hHeld := hHeld2; clear hHeld2
              try simp only [Act.put, nB, nC, nD]
              refine wpAnyH_listed (l2 := #[true, true, true, true, true, true, true, true, true, true, true, true, true, false, false, false]) (by kernel_rfl) ?_
              exact LEAF bh ba bd bp V4 ⟨_, _, _, _, HXh.out, HXa.out, HXd.out, HXp.out, by decide, HZ4.out, HRh.out, HRa.out, HRd.out, HRp.out⟩ HB4
            · refine wp_make 108 (.tmp 13) (by rfl) (N : Int) (by rfl) _ (make_words N HN8.out V2) ?_
              obtain ⟨bd, hbd⟩ : ∃ b, V2.heap.size = b := ⟨_, rfl⟩
              obtain ⟨V3, hV⟩ : ∃ V, V = V2.alloc (rwW0 N) := ⟨_, rfl⟩
              have HB3 : Hid (Below W1.heap.size W1 V3) := by rw [hV]; exact HB2.out.alloc HB2.out.size _
              have HZ3 : Hid (V3.heap.size = X + 3) := by show _ = _; rw [hV, World.size_alloc, HZ2.out]
              have HXd : Hid (bd = X + 2) := by show _ = _; rw [← hbd, HZ2.out]
              have HRd : Hid (V3.heap[bd]? = some (rwW0 N)) := by show _ = _; rw [hV, ← hbd]; exact heap_alloc_new _ _
              replace HRa := Lib.hid (heap_keep HRa.out hV)
              replace HRp := Lib.hid (heap_keep HRp.out hV)
              rw [hbd, ← hV]
              clear hV hbd
              refine hK.out _ _ (HS.out _ HB3.out) (fun hHeld2 => ?_)
              clear hK K hHeld; have hHeld := hHeld2; clear hHeld2
              try simp only [Act.put, nB, nC, nD]
              refine held_one (i := 3) rfl (by kernel_rfl) (by rfl) (fun K hK => ?_)
              refine wp_make 92 (.tmp 7) (by rfl) (N : Int) (by rfl) _ (make_ints N HN8.out V3) ?_
              obtain ⟨bh, hbh⟩ : ∃ b, V3.heap.size = b := ⟨_, rfl⟩
              obtain ⟨V4, hV⟩ : ∃ V, V = V3.alloc (rwI0 N) := ⟨_, rfl⟩
              have HB4 : Hid (Below W1.heap.size W1 V4) := by rw [hV]; exact HB3.out.alloc HB3.out.size _
              have HZ4 : Hid (V4.heap.size = X + 4) := by show _ = _; rw [hV, World.size_alloc, HZ3.out]
              have HXh : Hid (bh = X + 3) := by show _ = _; rw [← hbh, HZ3.out]
              have HRh : Hid (V4.heap[bh]? = some (rwI0 N)) := by show _ = _; rw [hV, ← hbh]; exact heap_alloc_new _ _
              replace HRa := Lib.hid (heap_keep HRa.out hV)
              replace HRp := Lib.hid (heap_keep HRp.out hV)
              replace HRd := Lib.hid (heap_keep HRd.out hV)
              rw [hbh, ← hV]
              clear hV hbh
              refine hK.out _ _ (HS.out _ HB4.out) (fun hHeld2 => ?_)
              clear hK K hHeld; have hHeld := hHeld2; clear hHeld2
              try simp only [Act.put, nB, nC, nD]
              refine wpAnyH_listed (l2 := #[true, true, true, true, true, true, true, true, true, true, true, true, true, false, false, false]) (by kernel_rfl) ?_
              exact LEAF bh ba bd bp V4 ⟨_, _, _, _, HXh.out, HXa.out, HXd.out, HXp.out, by decide, HZ4.out, HRh.out, HRa.out, HRd.out, HRp.out⟩ HB4
        · refine wp_make 108 (.tmp 13) (by rfl) (N : Int) (by rfl) _ (make_words N HN8.out W1.drew) ?_
          obtain ⟨bd, hbd⟩ : ∃ b, W1.drew.heap.size = b := ⟨_, rfl⟩
          obtain ⟨V1, hV⟩ : ∃ V, V = W1.drew.alloc (rwW0 N) := ⟨_, rfl⟩
          have HB1 : Hid (Below W1.heap.size W1 V1) := by rw [hV]; exact HB0.out.alloc HB0.out.size _
          have HZ1 : Hid (V1.heap.size = X + 1) := by show _ = _; rw [hV, World.size_alloc, HXX.out]
          have HXd : Hid (bd = X + 0) := by show _ = _; rw [← hbd, HXX.out]; rfl
          have HRd : Hid (V1.heap[bd]? = some (rwW0 N)) := by show _ = _; rw [hV, ← hbd]; exact heap_alloc_new _ _
          rw [hbd, ← hV]
          clear hV hbd
          refine hK.out _ _ (HS.out _ HB1.out) (fun hHeld2 => ?_)
          clear hK K hHeld; have hHeld := hHeld2; clear hHeld2
          try simp only [Act.put, nB, nC, nD]
          refine held_three (i := 3) (j := 6) (k := 12) rfl rfl rfl (by kernel_rfl) (by rfl) (by rfl) (by rfl) (fun K hK => ?_) (fun K hK => ?_) (fun K hK => ?_)
          · refine wp_make 92 (.tmp 7) (by rfl) (N : Int) (by rfl) _ (make_ints N HN8.out V1) ?_
            obtain ⟨bh, hbh⟩ : ∃ b, V1.heap.size = b := ⟨_, rfl⟩
            obtain ⟨V2, hV⟩ : ∃ V, V = V1.alloc (rwI0 N) := ⟨_, rfl⟩
            have HB2 : Hid (Below W1.heap.size W1 V2) := by rw [hV]; exact HB1.out.alloc HB1.out.size _
            have HZ2 : Hid (V2.heap.size = X + 2) := by show _ = _; rw [hV, World.size_alloc, HZ1.out]
            have HXh : Hid (bh = X + 1) := by show _ = _; rw [← hbh, HZ1.out]
            have HRh : Hid (V2.heap[bh]? = some (rwI0 N)) := by show _ = _; rw [hV, ← hbh]; exact heap_alloc_new _ _
            replace HRd := Lib.hid (heap_keep HRd.out hV)
            rw [hbh, ← hV]
            clear hV hbh
            refine hK.out _ _ (HS.out _ HB2.out) (fun hHeld2 => ?_)
            clear hK K hHeld; have hHeld := hHeld2; clear hHeld2
            try simp only [Act.put, nB, nC, nD]
            refine held_two (i := 6) (j := 12) rfl rfl (by kernel_rfl) (by rfl) (by rfl) (fun K hK => ?_) (fun K hK => ?_)
            · refine wp_make 92 (.tmp 10) (by rfl) (N : Int) (by rfl) _ (make_ints N HN8.out V2) ?_
              obtain ⟨ba, hba⟩ : ∃ b, V2.heap.size = b := ⟨_, rfl⟩
              obtain ⟨V3, hV⟩ : ∃ V, V = V2.alloc (rwI0 N) := ⟨_, rfl⟩
              have HB3 : Hid (Below W1.heap.size W1 V3) := by rw [hV]; exact HB2.out.alloc HB2.out.size _
              have HZ3 : Hid (V3.heap.size = X + 3) := by show _ = _; rw [hV, World.size_alloc, HZ2.out]
              have HXa : Hid (ba = X + 2) := by show _ = _; rw [← hba, HZ2.out]
              have HRa : Hid (V3.heap[ba]? = some (rwI0 N)) := by show _ = _; rw [hV, ← hba]; exact heap_alloc_new _ _
              replace HRd := Lib.hid (heap_keep HRd.out hV)
              replace HRh := Lib.hid (heap_keep HRh.out hV)
              rw [hba, ← hV]
              clear hV hba
              refine hK.out _ _ (HS.out _ HB3.out) (fun hHeld2 => ?_)
              clear hK K hHeld; have hHeld := hHeld2; clear hHeld2
              try simp only [Act.put, nB, nC, nD]
              refine held_one (i := 12) rfl (by kernel_rfl) (by rfl) (fun K hK => ?_)
              refine wp_make 109 (.tmp 16) (by rfl) (N : Int) (by rfl) _ (make_bools N HN8.out V3) ?_
              obtain ⟨bp, hbp⟩ : ∃ b, V3.heap.size = b := ⟨_, rfl⟩
              obtain ⟨V4, hV⟩ : ∃ V, V = V3.alloc (rwB0 N) := ⟨_, rfl⟩
              have HB4 : Hid (Below W1.heap.size W1 V4) := by rw [hV]; exact HB3.out.alloc HB3.out.size _
              have HZ4 : Hid (V4.heap.size = X + 4) := by show _ = _; rw [hV, World.size_alloc, HZ3.out]
              have HXp : Hid (bp = X + 3) := by show _ = _; rw [← hbp, HZ3.out]
              have HRp : Hid (V4.heap[bp]? = some (rwB0 N)) := by show _ = _; rw [hV, ← hbp]; exact heap_alloc_new _ _
              replace HRd := Lib.hid (heap_keep HRd.out hV)
              replace HRh := Lib.hid (heap_keep HRh.out hV)
              replace HRa := Lib.hid (heap_keep HRa.out hV)
              rw [hbp, ← hV]
              clear hV hbp
              refine hK.out _ _ (HS.out _ HB4.out) (fun hHeld2 => ?_)
              clear hK K hHeld; have hHeld := hHeld2; clear hHeld2
              try simp only [Act.put, nB, nC, nD]
              refine wpAnyH_listed (l2 := #[true, true, true, true, true, true, true, true, true, true, true, true, true, false, false, false]) (by kernel_rfl) ?_
              exact LEAF bh ba bd bp V4 ⟨_, _, _, _, HXh.out, HXa.out, HXd.out, HXp.out, by decide, HZ4.out, HRh.out, HRa.out, HRd.out, HRp.out⟩ HB4
            · refine wp_make 109 (.tmp 16) (by rfl) (N : Int) (by rfl) _ (make_bools N HN8.out V2) ?_
              obtain ⟨bp, hbp⟩ : ∃ b, V2.heap.size = b := ⟨_, rfl⟩
              obtain ⟨V3, hV⟩ : ∃ V, V = V2.alloc (rwB0 N) := ⟨_, rfl⟩
              have HB3 : Hid (Below W1.heap.size W1 V3) := by rw [hV]; exact HB2.out.alloc HB2.out.size _
              have HZ3 : Hid (V3.heap.size = X + 3) := by show _ = _; rw [hV, World.size_alloc, HZ2.out]
              have HXp : Hid (bp = X + 2) := by show _ = _; rw [← hbp, HZ2.out]
              have HRp : Hid (V3.heap[bp]? = some (rwB0 N)) := by show _ = _; rw [hV, ← hbp]; exact heap_alloc_new _ _
              replace HRd := Lib.hid (heap_keep HRd.out hV)
              replace HRh := Lib.hid (heap_keep HRh.out hV)
              rw [hbp, ← hV]
              clear hV hbp
              refine hK.out _ _ (HS.out _ HB3.out) (fun hHeld2 => ?_)
              clear hK K hHeld; have hHeld := hHeld2; clear hHeld2
              try simp only [Act.put, nB, nC, nD]
              refine held_one (i := 6) rfl (by kernel_rfl) (by rfl) (fun K hK => ?_)
              refine wp_make 92 (.tmp 10) (by rfl) (N : Int) (by rfl) _ (make_ints N HN8.out V3) ?_
              obtain ⟨ba, hba⟩ : ∃ b, V3.heap.size = b := ⟨_, rfl⟩
              obtain ⟨V4, hV⟩ : ∃ V, V = V3.alloc (rwI0 N) := ⟨_, rfl⟩
              have HB4 : Hid (Below W1.heap.size W1 V4) := by rw [hV]; exact HB3.out.alloc HB3.out.size _
              have HZ4 : Hid (V4.heap.size = X + 4) := by show _ = _; rw [hV, World.size_alloc, HZ3.out]
              have HXa : Hid (ba = X + 3) := by show _ = _; rw [← hba, HZ3.out]
              have HRa : Hid (V4.heap[ba]? = some (rwI0 N)) := by show _ = _; rw [hV, ← hba]; exact heap_alloc_new _ _
              replace HRd := Lib.hid (heap_keep HRd.out hV)
              replace HRh := Lib.hid (heap_keep HRh.out hV)
              replace HRp := Lib.hid (heap_keep HRp.out hV)
              rw [hba, ← hV]
              clear hV hba
              refine hK.out _ _ (HS.out _ HB4.out) (fun hHeld2 => ?_)
              clear hK K hHeld; have hHeld := hHeld2; clear hHeld2
              try simp only [Act.put, nB, nC, nD]
              refine wpAnyH_listed (l2 := #[true, true, true, true, true, true, true, true, true, true, true, true, true, false, false, false]) (by kernel_rfl) ?_
              exact LEAF bh ba bd bp V4 ⟨_, _, _, _, HXh.out, HXa.out, HXd.out, HXp.out, by decide, HZ4.out, HRh.out, HRa.out, HRd.out, HRp.out⟩ HB4
          · refine wp_make 92 (.tmp 10) (by rfl) (N : Int) (by rfl) _ (make_ints N HN8.out V1) ?_
            obtain ⟨ba, hba⟩ : ∃ b, V1.heap.size = b := ⟨_, rfl⟩
            obtain ⟨V2, hV⟩ : ∃ V, V = V1.alloc (rwI0 N) := ⟨_, rfl⟩
            have HB2 : Hid (Below W1.heap.size W1 V2) := by rw [hV]; exact HB1.out.alloc HB1.out.size _
            have HZ2 : Hid (V2.heap.size = X + 2) := by show _ = _; rw [hV, World.size_alloc, HZ1.out]
            have HXa : Hid (ba = X + 1) := by show _ = _; rw [← hba, HZ1.out]
            have HRa : Hid (V2.heap[ba]? = some (rwI0 N)) := by show _ = _; rw [hV, ← hba]; exact heap_alloc_new _ _
            replace HRd := Lib.hid (heap_keep HRd.out hV)
            rw [hba, ← hV]
            clear hV hba
            refine hK.out _ _ (HS.out _ HB2.out) (fun hHeld2 => ?_)
            clear hK K hHeld; have hHeld := hHeld2; clear hHeld2
            try simp only [Act.put, nB, nC, nD]
            refine held_two (i := 3) (j := 12) rfl rfl (by kernel_rfl) (by rfl) (by rfl) (fun K hK => ?_) (fun K hK => ?_)
            · refine wp_make 92 (.tmp 7) (by rfl) (N : Int) (by rfl) _ (make_ints N HN8.out V2) ?_
              obtain ⟨bh, hbh⟩ : ∃ b, V2.heap.size = b := ⟨_, rfl⟩
              obtain ⟨V3, hV⟩ : ∃ V, V = V2.alloc (rwI0 N) := ⟨_, rfl⟩
              have HB3 : Hid (Below W1.heap.size W1 V3) := by rw [hV]; exact HB2.out.alloc HB2.out.size _
              have HZ3 : Hid (V3.heap.size = X + 3) := by show _ = _; rw [hV, World.size_alloc, HZ2.out]
              have HXh : Hid (bh = X + 2) := by show _ = _; rw [← hbh, HZ2.out]
              have HRh : Hid (V3.heap[bh]? = some (rwI0 N)) := by show _ = _; rw [hV, ← hbh]; exact heap_alloc_new _ _
              replace HRd := Lib.hid (heap_keep HRd.out hV)
              replace HRa := Lib.hid (heap_keep HRa.out hV)
              rw [hbh, ← hV]
              clear hV hbh
              refine hK.out _ _ (HS.out _ HB3.out) (fun hHeld2 => ?_)
              clear hK K hHeld; have hHeld := hHeld2; clear hHeld2
              try simp only [Act.put, nB, nC, nD]
              refine held_one (i := 12) rfl (by kernel_rfl) (by rfl) (fun K hK => ?_)
              refine wp_make 109 (.tmp 16) (by rfl) (N : Int) (by rfl) _ (make_bools N HN8.out V3) ?_
              obtain ⟨bp, hbp⟩ : ∃ b, V3.heap.size = b := ⟨_, rfl⟩
              obtain ⟨V4, hV⟩ : ∃ V, V = V3.alloc (rwB0 N) := ⟨_, rfl⟩
              have HB4 : Hid (Below W1.heap.size W1 V4) := by rw [hV]; exact HB3.out.alloc HB3.out.size _
              have HZ4 : Hid (V4.heap.size = X + 4) := by show _ = _; rw [hV, World.size_alloc, HZ3.out]
              have HXp : Hid (bp = X + 3) := by show _ = _; rw [← hbp, HZ3.out]
              have HRp : Hid (V4.heap[bp]? = some (rwB0 N)) := by show _ = _; rw [hV, ← hbp]; exact heap_alloc_new _ _
              replace HRd := Lib.hid (heap_keep HRd.out hV)
              replace HRa := Lib.hid (heap_keep HRa.out hV)
              replace HRh := Lib.hid (heap_keep HRh.out hV)
              rw [hbp, ← hV]
              clear hV hbp
              refine hK.out _ _ (HS.out _ HB4.out) (fun hHeld2 => ?_)
              clear hK K hHeld; have hHeld := hHeld2; clear hHeld2
              try simp only [Act.put, nB, nC, nD]
              refine wpAnyH_listed (l2 := #[true, true, true, true, true, true, true, true, true, true, true, true, true, false, false, false]) (by kernel_rfl) ?_
              exact LEAF bh ba bd bp V4 ⟨_, _, _, _, HXh.out, HXa.out, HXd.out, HXp.out, by decide, HZ4.out, HRh.out, HRa.out, HRd.out, HRp.out⟩ HB4
            · refine wp_make 109 (.tmp 16) (by rfl) (N : Int) (by rfl) _ (make_bools N HN8.out V2) ?_
              obtain ⟨bp, hbp⟩ : ∃ b, V2.heap.size = b := ⟨_, rfl⟩
              obtain ⟨V3, hV⟩ : ∃ V, V = V2.alloc (rwB0 N) := ⟨_, rfl⟩
              have HB3 : Hid (Below W1.heap.size W1 V3) := by rw [hV]; exact HB2.out.alloc HB2.out.size _
              have HZ3 : Hid (V3.heap.size = X + 3) := by show _ = _; rw [hV, World.size_alloc, HZ2.out]
              have HXp : Hid (bp = X + 2) := by show _ = _; rw [← hbp, HZ2.out]
              have HRp : Hid (V3.heap[bp]? = some (rwB0 N)) := by show _ = _; rw [hV, ← hbp]; exact heap_alloc_new _ _
              replace HRd := Lib.hid (heap_keep HRd.out hV)
              replace HRa := Lib.hid (heap_keep HRa.out hV)
              rw [hbp, ← hV]
              clear hV hbp
              refine hK.out _ _ (HS.out _ HB3.out) (fun hHeld2 => ?_)
              clear hK K hHeld; have hHeld := hHeld2; clear hHeld2
              try simp only [Act.put, nB, nC, nD]
              refine held_one (i := 3) rfl (by kernel_rfl) (by rfl) (fun K hK => ?_)
              refine wp_make 92 (.tmp 7) (by rfl) (N : Int) (by rfl) _ (make_ints N HN8.out V3) ?_
              obtain ⟨bh, hbh⟩ : ∃ b, V3.heap.size = b := ⟨_, rfl⟩
              obtain ⟨V4, hV⟩ : ∃ V, V = V3.alloc (rwI0 N) := ⟨_, rfl⟩
              have HB4 : Hid (Below W1.heap.size W1 V4) := by rw [hV]; exact HB3.out.alloc HB3.out.size _
              have HZ4 : Hid (V4.heap.size = X + 4) := by show _ = _; rw [hV, World.size_alloc, HZ3.out]
              have HXh : Hid (bh = X + 3) := by show _ = _; rw [← hbh, HZ3.out]
              have HRh : Hid (V4.heap[bh]? = some (rwI0 N)) := by show _ = _; rw [hV, ← hbh]; exact heap_alloc_new _ _
              replace HRd := Lib.hid (heap_keep HRd.out hV)
              replace HRa := Lib.hid (heap_keep HRa.out hV)
              replace HRp := Lib.hid (heap_keep HRp.out hV)
              rw [hbh, ← hV]
              clear hV hbh
              refine hK.out _ _ (HS.out _ HB4.out) (fun hHeld2 => ?_)
              clear hK K hHeld; have hHeld := hHeld2; clear hHeld2
              try simp only [Act.put, nB, nC, nD]
              refine wpAnyH_listed (l2 := #[true, true, true, true, true, true, true, true, true, true, true, true, true, false, false, false]) (by kernel_rfl) ?_
              exact LEAF bh ba bd bp V4 ⟨_, _, _, _, HXh.out, HXa.out, HXd.out, HXp.out, by decide, HZ4.out, HRh.out, HRa.out, HRd.out, HRp.out⟩ HB4
          · refine wp_make 109 (.tmp 16) (by rfl) (N : Int) (by rfl) _ (make_bools N HN8.out V1) ?_
            obtain ⟨bp, hbp⟩ : ∃ b, V1.heap.size = b := ⟨_, rfl⟩
            obtain ⟨V2, hV⟩ : ∃ V, V = V1.alloc (rwB0 N) := ⟨_, rfl⟩
            have HB2 : Hid (Below W1.heap.size W1 V2) := by rw [hV]; exact HB1.out.alloc HB1.out.size _
            have HZ2 : Hid (V2.heap.size = X + 2) := by show _ = _; rw [hV, World.size_alloc, HZ1.out]
            have HXp : Hid (bp = X + 1) := by show _ = _; rw [← hbp, HZ1.out]
            have HRp : Hid (V2.heap[bp]? = some (rwB0 N)) := by show _ = _; rw [hV, ← hbp]; exact heap_alloc_new _ _
            replace HRd := Lib.hid (heap_keep HRd.out hV)
            rw [hbp, ← hV]
            clear hV hbp
            refine hK.out _ _ (HS.out _ HB2.out) (fun hHeld2 => ?_)
            clear hK K hHeld; have hHeld := hHeld2; clear hHeld2
            try simp only [Act.put, nB, nC, nD]
            refine held_two (i := 3) (j := 6) rfl rfl (by kernel_rfl) (by rfl) (by rfl) (fun K hK => ?_) (fun K hK => ?_)
            · refine wp_make 92 (.tmp 7) (by rfl) (N : Int) (by rfl) _ (make_ints N HN8.out V2) ?_
              obtain ⟨bh, hbh⟩ : ∃ b, V2.heap.size = b := ⟨_, rfl⟩
              obtain ⟨V3, hV⟩ : ∃ V, V = V2.alloc (rwI0 N) := ⟨_, rfl⟩
              have HB3 : Hid (Below W1.heap.size W1 V3) := by rw [hV]; exact HB2.out.alloc HB2.out.size _
              have HZ3 : Hid (V3.heap.size = X + 3) := by show _ = _; rw [hV, World.size_alloc, HZ2.out]
              have HXh : Hid (bh = X + 2) := by show _ = _; rw [← hbh, HZ2.out]
              have HRh : Hid (V3.heap[bh]? = some (rwI0 N)) := by show _ = _; rw [hV, ← hbh]; exact heap_alloc_new _ _
              replace HRd := Lib.hid (heap_keep HRd.out hV)
              replace HRp := Lib.hid (heap_keep HRp.out hV)
              rw [hbh, ← hV]
              clear hV hbh
              refine hK.out _ _ (HS.out _ HB3.out) (fun hHeld2 => ?_)
              clear hK K hHeld; have hHeld := hHeld2; clear hHeld2
              try simp only [Act.put, nB, nC, nD]
              refine held_one (i := 6) rfl (by kernel_rfl) (by rfl) (fun K hK => ?_)
              refine wp_make 92 (.tmp 10) (by rfl) (N : Int) (by rfl) _ (make_ints N HN8.out V3) ?_
              obtain ⟨ba, hba⟩ : ∃ b, V3.heap.size = b := ⟨_, rfl⟩
              obtain ⟨V4, hV⟩ : ∃ V, V = V3.alloc (rwI0 N) := ⟨_, rfl⟩
              have HB4 : Hid (Below W1.heap.size W1 V4) := by rw [hV]; exact HB3.out.alloc HB3.out.size _
              have HZ4 : Hid (V4.heap.size = X + 4) := by show _ = _; rw [hV, World.size_alloc, HZ3.out]
              have HXa : Hid (ba = X + 3) := by show _ = _; rw [← hba, HZ3.out]
              have HRa : Hid (V4.heap[ba]? = some (rwI0 N)) := by show _ = _; rw [hV, ← hba]; exact heap_alloc_new _ _
              replace HRd := Lib.hid (heap_keep HRd.out hV)
              replace HRp := Lib.hid (heap_keep HRp.out hV)
              replace HRh := Lib.hid (heap_keep HRh.out hV)
              rw [hba, ← hV]
              clear hV hba
              refine hK.out _ _ (HS.out _ HB4.out) (fun hHeld2 => ?_)
              clear hK K hHeld; have hHeld := hHeld2; clear hHeld2
              try simp only [Act.put, nB, nC, nD]
              refine wpAnyH_listed (l2 := #[true, true, true, true, true, true, true, true, true, true, true, true, true, false, false, false]) (by kernel_rfl) ?_
              exact LEAF bh ba bd bp V4 ⟨_, _, _, _, HXh.out, HXa.out, HXd.out, HXp.out, by decide, HZ4.out, HRh.out, HRa.out, HRd.out, HRp.out⟩ HB4
            · refine wp_make 92 (.tmp 10) (by rfl) (N : Int) (by rfl) _ (make_ints N HN8.out V2) ?_
              obtain ⟨ba, hba⟩ : ∃ b, V2.heap.size = b := ⟨_, rfl⟩
              obtain ⟨V3, hV⟩ : ∃ V, V = V2.alloc (rwI0 N) := ⟨_, rfl⟩
              have HB3 : Hid (Below W1.heap.size W1 V3) := by rw [hV]; exact HB2.out.alloc HB2.out.size _
              have HZ3 : Hid (V3.heap.size = X + 3) := by show _ = _; rw [hV, World.size_alloc, HZ2.out]
              have HXa : Hid (ba = X + 2) := by show _ = _; rw [← hba, HZ2.out]
              have HRa : Hid (V3.heap[ba]? = some (rwI0 N)) := by show _ = _; rw [hV, ← hba]; exact heap_alloc_new _ _
              replace HRd := Lib.hid (heap_keep HRd.out hV)
              replace HRp := Lib.hid (heap_keep HRp.out hV)
              rw [hba, ← hV]
              clear hV hba
              refine hK.out _ _ (HS.out _ HB3.out) (fun hHeld2 => ?_)
              clear hK K hHeld; have hHeld := hHeld2; clear hHeld2
              try simp only [Act.put, nB, nC, nD]
              refine held_one (i := 3) rfl (by kernel_rfl) (by rfl) (fun K hK => ?_)
              refine wp_make 92 (.tmp 7) (by rfl) (N : Int) (by rfl) _ (make_ints N HN8.out V3) ?_
              obtain ⟨bh, hbh⟩ : ∃ b, V3.heap.size = b := ⟨_, rfl⟩
              obtain ⟨V4, hV⟩ : ∃ V, V = V3.alloc (rwI0 N) := ⟨_, rfl⟩
              have HB4 : Hid (Below W1.heap.size W1 V4) := by rw [hV]; exact HB3.out.alloc HB3.out.size _
              have HZ4 : Hid (V4.heap.size = X + 4) := by show _ = _; rw [hV, World.size_alloc, HZ3.out]
              have HXh : Hid (bh = X + 3) := by show _ = _; rw [← hbh, HZ3.out]
              have HRh : Hid (V4.heap[bh]? = some (rwI0 N)) := by show _ = _; rw [hV, ← hbh]; exact heap_alloc_new _ _
              replace HRd := Lib.hid (heap_keep HRd.out hV)
              replace HRp := Lib.hid (heap_keep HRp.out hV)
              replace HRa := Lib.hid (heap_keep HRa.out hV)
              rw [hbh, ← hV]
              clear hV hbh
              refine hK.out _ _ (HS.out _ HB4.out) (fun hHeld2 => ?_)
              clear hK K hHeld; have hHeld := hHeld2; clear hHeld2
              try simp only [Act.put, nB, nC, nD]
              refine wpAnyH_listed (l2 := #[true, true, true, true, true, true, true, true, true, true, true, true, true, false, false, false]) (by kernel_rfl) ?_
              exact LEAF bh ba bd bp V4 ⟨_, _, _, _, HXh.out, HXa.out, HXd.out, HXp.out, by decide, HZ4.out, HRh.out, HRa.out, HRd.out, HRp.out⟩ HB4
        · refine wp_make 109 (.tmp 16) (by rfl) (N : Int) (by rfl) _ (make_bools N HN8.out W1.drew) ?_
          obtain ⟨bp, hbp⟩ : ∃ b, W1.drew.heap.size = b := ⟨_, rfl⟩
          obtain ⟨V1, hV⟩ : ∃ V, V = W1.drew.alloc (rwB0 N) := ⟨_, rfl⟩
          have HB1 : Hid (Below W1.heap.size W1 V1) := by rw [hV]; exact HB0.out.alloc HB0.out.size _
          have HZ1 : Hid (V1.heap.size = X + 1) := by show _ = _; rw [hV, World.size_alloc, HXX.out]
          have HXp : Hid (bp = X + 0) := by show _ = _; rw [← hbp, HXX.out]; rfl
          have HRp : Hid (V1.heap[bp]? = some (rwB0 N)) := by show _ = _; rw [hV, ← hbp]; exact heap_alloc_new _ _
          rw [hbp, ← hV]
          clear hV hbp
          refine hK.out _ _ (HS.out _ HB1.out) (fun hHeld2 => ?_)
          clear hK K hHeld; have hHeld := hHeld2; clear hHeld2
          try simp only [Act.put, nB, nC, nD]
          refine held_three (i := 3) (j := 6) (k := 9) rfl rfl rfl (by kernel_rfl) (by rfl) (by rfl) (by rfl) (fun K hK => ?_) (fun K hK => ?_) (fun K hK => ?_)
          · refine wp_make 92 (.tmp 7) (by rfl) (N : Int) (by rfl) _ (make_ints N HN8.out V1) ?_
            obtain ⟨bh, hbh⟩ : ∃ b, V1.heap.size = b := ⟨_, rfl⟩
            obtain ⟨V2, hV⟩ : ∃ V, V = V1.alloc (rwI0 N) := ⟨_, rfl⟩
            have HB2 : Hid (Below W1.heap.size W1 V2) := by rw [hV]; exact HB1.out.alloc HB1.out.size _
            have HZ2 : Hid (V2.heap.size = X + 2) := by show _ = _; rw [hV, World.size_alloc, HZ1.out]
            have HXh : Hid (bh = X + 1) := by show _ = _; rw [← hbh, HZ1.out]
            have HRh : Hid (V2.heap[bh]? = some (rwI0 N)) := by show _ = _; rw [hV, ← hbh]; exact heap_alloc_new _ _
            replace HRp := Lib.hid (heap_keep HRp.out hV)
            rw [hbh, ← hV]
            clear hV hbh
            refine hK.out _ _ (HS.out _ HB2.out) (fun hHeld2 => ?_)
            clear hK K hHeld; have hHeld := hHeld2; clear hHeld2
            try simp only [Act.put, nB, nC, nD]
            refine held_two (i := 6) (j := 9) rfl rfl (by kernel_rfl) (by rfl) (by rfl) (fun K hK => ?_) (fun K hK => ?_)
            · refine wp_make 92 (.tmp 10) (by rfl) (N : Int) (by rfl) _ (make_ints N HN8.out V2) ?_
              obtain ⟨ba, hba⟩ : ∃ b, V2.heap.size = b := ⟨_, rfl⟩
              obtain ⟨V3, hV⟩ : ∃ V, V = V2.alloc (rwI0 N) := ⟨_, rfl⟩
              have HB3 : Hid (Below W1.heap.size W1 V3) := by rw [hV]; exact HB2.out.alloc HB2.out.size _
              have HZ3 : Hid (V3.heap.size = X + 3) := by show _ = _; rw [hV, World.size_alloc, HZ2.out]
              have HXa : Hid (ba = X + 2) := by show _ = _; rw [← hba, HZ2.out]
              have HRa : Hid (V3.heap[ba]? = some (rwI0 N)) := by show _ = _; rw [hV, ← hba]; exact heap_alloc_new _ _
              replace HRp := Lib.hid (heap_keep HRp.out hV)
              replace HRh := Lib.hid (heap_keep HRh.out hV)
              rw [hba, ← hV]
              clear hV hba
              refine hK.out _ _ (HS.out _ HB3.out) (fun hHeld2 => ?_)
              clear hK K hHeld; have hHeld := hHeld2; clear hHeld2
              try simp only [Act.put, nB, nC, nD]
              refine held_one (i := 9) rfl (by kernel_rfl) (by rfl) (fun K hK => ?_)
              refine wp_make 108 (.tmp 13) (by rfl) (N : Int) (by rfl) _ (make_words N HN8.out V3) ?_
              obtain ⟨bd, hbd⟩ : ∃ b, V3.heap.size = b := ⟨_, rfl⟩
              obtain ⟨V4, hV⟩ : ∃ V, V = V3.alloc (rwW0 N) := ⟨_, rfl⟩
              have HB4 : Hid (Below W1.heap.size W1 V4) := by rw [hV]; exact HB3.out.alloc HB3.out.size _
              have HZ4 : Hid (V4.heap.size = X + 4) := by show _ = _; rw [hV, World.size_alloc, HZ3.out]
              have HXd : Hid (bd = X + 3) := by show _ = _; rw [← hbd, HZ3.out]
              have HRd : Hid (V4.heap[bd]? = some (rwW0 N)) := by show _ = _; rw [hV, ← hbd]; exact heap_alloc_new _ _
              replace HRp := Lib.hid (heap_keep HRp.out hV)
              replace HRh := Lib.hid (heap_keep HRh.out hV)
              replace HRa := Lib.hid (heap_keep HRa.out hV)
              rw [hbd, ← hV]
              clear hV hbd
              refine hK.out _ _ (HS.out _ HB4.out) (fun hHeld2 => ?_)
              clear hK K hHeld; have hHeld := hHeld2; clear hHeld2
              try simp only [Act.put, nB, nC, nD]
              refine wpAnyH_listed (l2 := #[true, true, true, true, true, true, true, true, true, true, true, true, true, false, false, false]) (by kernel_rfl) ?_
              exact LEAF bh ba bd bp V4 ⟨_, _, _, _, HXh.out, HXa.out, HXd.out, HXp.out, by decide, HZ4.out, HRh.out, HRa.out, HRd.out, HRp.out⟩ HB4
            · refine wp_make 108 (.tmp 13) (by rfl) (N : Int) (by rfl) _ (make_words N HN8.out V2) ?_
              obtain ⟨bd, hbd⟩ : ∃ b, V2.heap.size = b := ⟨_, rfl⟩
              obtain ⟨V3, hV⟩ : ∃ V, V = V2.alloc (rwW0 N) := ⟨_, rfl⟩
              have HB3 : Hid (Below W1.heap.size W1 V3) := by rw [hV]; exact HB2.out.alloc HB2.out.size _
              have HZ3 : Hid (V3.heap.size = X + 3) := by show _ = _; rw [hV, World.size_alloc, HZ2.out]
              have HXd : Hid (bd = X + 2) := by show _ = _; rw [← hbd, HZ2.out]
              have HRd : Hid (V3.heap[bd]? = some (rwW0 N)) := by show _ = _; rw [hV, ← hbd]; exact heap_alloc_new _ _
              replace HRp := Lib.hid (heap_keep HRp.out hV)
              replace HRh := Lib.hid (heap_keep HRh.out hV)
              rw [hbd, ← hV]
              clear hV hbd
              refine hK.out _ _ (HS.out _ HB3.out) (fun hHeld2 => ?_)
              clear hK K hHeld; have hHeld := hHeld2; clear hHeld2
              try simp only [Act.put, nB, nC, nD]
              refine held_one (i := 6) rfl (by kernel_rfl) (by rfl) (fun K hK => ?_)
              refine wp_make 92 (.tmp 10) (by rfl) (N : Int) (by rfl) _ (make_ints N HN8.out V3) ?_
              obtain ⟨ba, hba⟩ : ∃ b, V3.heap.size = b := ⟨_, rfl⟩
              obtain ⟨V4, hV⟩ : ∃ V, V = V3.alloc (rwI0 N) := ⟨_, rfl⟩
              have HB4 : Hid (Below W1.heap.size W1 V4) := by rw [hV]; exact HB3.out.alloc HB3.out.size _
              have HZ4 : Hid (V4.heap.size = X + 4) := by show _ = _; rw [hV, World.size_alloc, HZ3.out]
              have HXa : Hid (ba = X + 3) := by show _ = _; rw [← hba, HZ3.out]
              have HRa : Hid (V4.heap[ba]? = some (rwI0 N)) := by show _ = _; rw [hV, ← hba]; exact heap_alloc_new _ _
              replace HRp := Lib.hid (heap_keep HRp.out hV)
              replace HRh := Lib.hid (heap_keep HRh.out hV)
              replace HRd := Lib.hid (heap_keep HRd.out hV)
              rw [hba, ← hV]
              clear hV hba
              refine hK.out _ _ (HS.out _ HB4.out) (fun hHeld2 => ?_)
              clear hK K hHeld; have hHeld := hHeld2; clear hHeld2
              try simp only [Act.put, nB, nC, nD]
              refine wpAnyH_listed (l2 := #[true, true, true, true, true, true, true, true, true, true, true, true, true, false, false, false]) (by kernel_rfl) ?_
              exact LEAF bh ba bd bp V4 ⟨_, _, _, _, HXh.out, HXa.out, HXd.out, HXp.out, by decide, HZ4.out, HRh.out, HRa.out, HRd.out, HRp.out⟩ HB4
          · refine wp_make 92 (.tmp 10) (by rfl) (N : Int) (by rfl) _ (make_ints N HN8.out V1) ?_
            obtain ⟨ba, hba⟩ : ∃ b, V1.heap.size = b := ⟨_, rfl⟩
            obtain ⟨V2, hV⟩ : ∃ V, V = V1.alloc (rwI0 N) := ⟨_, rfl⟩
            have HB2 : Hid (Below W1.heap.size W1 V2) := by rw [hV]; exact HB1.out.alloc HB1.out.size _
            have HZ2 : Hid (V2.heap.size = X + 2) := by show _ = _; rw [hV, World.size_alloc, HZ1.out]
            have HXa : Hid (ba = X + 1) := by show _ = _; rw [← hba, HZ1.out]
            have HRa : Hid (V2.heap[ba]? = some (rwI0 N)) := by show _ = _; rw [hV, ← hba]; exact heap_alloc_new _ _
            replace HRp := Lib.hid (heap_keep HRp.out hV)
            rw [hba, ← hV]
            clear hV hba
            refine hK.out _ _ (HS.out _ HB2.out) (fun hHeld2 => ?_)
            clear hK K hHeld; have hHeld := hHeld2; clear hHeld2
            try simp only [Act.put, nB, nC, nD]
            refine held_two (i := 3) (j := 9) rfl rfl (by kernel_rfl) (by rfl) (by rfl) (fun K hK => ?_) (fun K hK => ?_)
            · refine wp_make 92 (.tmp 7) (by rfl) (N : Int) (by rfl) _ (make_ints N HN8.out V2) ?_
              obtain ⟨bh, hbh⟩ : ∃ b, V2.heap.size = b := ⟨_, rfl⟩
              obtain ⟨V3, hV⟩ : ∃ V, V = V2.alloc (rwI0 N) := ⟨_, rfl⟩
              have HB3 : Hid (Below W1.heap.size W1 V3) := by rw [hV]; exact HB2.out.alloc HB2.out.size _
              have HZ3 : Hid (V3.heap.size = X + 3) := by show _ = _; rw [hV, World.size_alloc, HZ2.out]
              have HXh : Hid (bh = X + 2) := by show _ = _; rw [← hbh, HZ2.out]
              have HRh : Hid (V3.heap[bh]? = some (rwI0 N)) := by show _ = _; rw [hV, ← hbh]; exact heap_alloc_new _ _
              replace HRp := Lib.hid (heap_keep HRp.out hV)
              replace HRa := Lib.hid (heap_keep HRa.out hV)
              rw [hbh, ← hV]
              clear hV hbh
              refine hK.out _ _ (HS.out _ HB3.out) (fun hHeld2 => ?_)
              clear hK K hHeld; have hHeld := hHeld2; clear hHeld2
              try simp only [Act.put, nB, nC, nD]
              refine held_one (i := 9) rfl (by kernel_rfl) (by rfl) (fun K hK => ?_)
              refine wp_make 108 (.tmp 13) (by rfl) (N : Int) (by rfl) _ (make_words N HN8.out V3) ?_
              obtain ⟨bd, hbd⟩ : ∃ b, V3.heap.size = b := ⟨_, rfl⟩
              obtain ⟨V4, hV⟩ : ∃ V, V = V3.alloc (rwW0 N) := ⟨_, rfl⟩
              have HB4 : Hid (Below W1.heap.size W1 V4) := by rw [hV]; exact HB3.out.alloc HB3.out.size _
              have HZ4 : Hid (V4.heap.size = X + 4) := by show _ = _; rw [hV, World.size_alloc, HZ3.out]
              have HXd : Hid (bd = X + 3) := by show _ = _; rw [← hbd, HZ3.out]
              have HRd : Hid (V4.heap[bd]? = some (rwW0 N)) := by show _ = _; rw [hV, ← hbd]; exact heap_alloc_new _ _
              replace HRp := Lib.hid (heap_keep HRp.out hV)
              replace HRa := Lib.hid (heap_keep HRa.out hV)
              replace HRh := Lib.hid (heap_keep HRh.out hV)
              rw [hbd, ← hV]
              clear hV hbd
              refine hK.out _ _ (HS.out _ HB4.out) (fun hHeld2 => ?_)
              clear hK K hHeld; have hHeld := hHeld2; clear hHeld2
              try simp only [Act.put, nB, nC, nD]
              refine wpAnyH_listed (l2 := #[true, true, true, true, true, true, true, true, true, true, true, true, true, false, false, false]) (by kernel_rfl) ?_
              exact LEAF bh ba bd bp V4 ⟨_, _, _, _, HXh.out, HXa.out, HXd.out, HXp.out, by decide, HZ4.out, HRh.out, HRa.out, HRd.out, HRp.out⟩ HB4
            · refine wp_make 108 (.tmp 13) (by rfl) (N : Int) (by rfl) _ (make_words N HN8.out V2) ?_
              obtain ⟨bd, hbd⟩ : ∃ b, V2.heap.size = b := ⟨_, rfl⟩
              obtain ⟨V3, hV⟩ : ∃ V, V = V2.alloc (rwW0 N) := ⟨_, rfl⟩
              have HB3 : Hid (Below W1.heap.size W1 V3) := by rw [hV]; exact HB2.out.alloc HB2.out.size _
              have HZ3 : Hid (V3.heap.size = X + 3) := by show _ = _; rw [hV, World.size_alloc, HZ2.out]
              have HXd : Hid (bd = X + 2) := by show _ = _; rw [← hbd, HZ2.out]
              have HRd : Hid (V3.heap[bd]? = some (rwW0 N)) := by show _ = _; rw [hV, ← hbd]; exact heap_alloc_new _ _
              replace HRp := Lib.hid (heap_keep HRp.out hV)
              replace HRa := Lib.hid (heap_keep HRa.out hV)
              rw [hbd, ← hV]
              clear hV hbd
              refine hK.out _ _ (HS.out _ HB3.out) (fun hHeld2 => ?_)
              clear hK K hHeld; have hHeld := hHeld2; clear hHeld2
              try simp only [Act.put, nB, nC, nD]
              refine held_one (i := 3) rfl (by kernel_rfl) (by rfl) (fun K hK => ?_)
              refine wp_make 92 (.tmp 7) (by rfl) (N : Int) (by rfl) _ (make_ints N HN8.out V3) ?_
              obtain ⟨bh, hbh⟩ : ∃ b, V3.heap.size = b := ⟨_, rfl⟩
              obtain ⟨V4, hV⟩ : ∃ V, V = V3.alloc (rwI0 N) := ⟨_, rfl⟩
              have HB4 : Hid (Below W1.heap.size W1 V4) := by rw [hV]; exact HB3.out.alloc HB3.out.size _
              have HZ4 : Hid (V4.heap.size = X + 4) := by show _ = _; rw [hV, World.size_alloc, HZ3.out]
              have HXh : Hid (bh = X + 3) := by show _ = _; rw [← hbh, HZ3.out]
              have HRh : Hid (V4.heap[bh]? = some (rwI0 N)) := by show _ = _; rw [hV, ← hbh]; exact heap_alloc_new _ _
              replace HRp := Lib.hid (heap_keep HRp.out hV)
              replace HRa := Lib.hid (heap_keep HRa.out hV)
              replace HRd := Lib.hid (heap_keep HRd.out hV)
              rw [hbh, ← hV]
              clear hV hbh
              refine hK.out _ _ (HS.out _ HB4.out) (fun hHeld2 => ?_)
              clear hK K hHeld; have hHeld := hHeld2; clear hHeld2
              try simp only [Act.put, nB, nC, nD]
              refine wpAnyH_listed (l2 := #[true, true, true, true, true, true, true, true, true, true, true, true, true, false, false, false]) (by kernel_rfl) ?_
              exact LEAF bh ba bd bp V4 ⟨_, _, _, _, HXh.out, HXa.out, HXd.out, HXp.out, by decide, HZ4.out, HRh.out, HRa.out, HRd.out, HRp.out⟩ HB4
          · refine wp_make 108 (.tmp 13) (by rfl) (N : Int) (by rfl) _ (make_words N HN8.out V1) ?_
            obtain ⟨bd, hbd⟩ : ∃ b, V1.heap.size = b := ⟨_, rfl⟩
            obtain ⟨V2, hV⟩ : ∃ V, V = V1.alloc (rwW0 N) := ⟨_, rfl⟩
            have HB2 : Hid (Below W1.heap.size W1 V2) := by rw [hV]; exact HB1.out.alloc HB1.out.size _
            have HZ2 : Hid (V2.heap.size = X + 2) := by show _ = _; rw [hV, World.size_alloc, HZ1.out]
            have HXd : Hid (bd = X + 1) := by show _ = _; rw [← hbd, HZ1.out]
            have HRd : Hid (V2.heap[bd]? = some (rwW0 N)) := by show _ = _; rw [hV, ← hbd]; exact heap_alloc_new _ _
            replace HRp := Lib.hid (heap_keep HRp.out hV)
            rw [hbd, ← hV]
            clear hV hbd
            refine hK.out _ _ (HS.out _ HB2.out) (fun hHeld2 => ?_)
            clear hK K hHeld; have hHeld := hHeld2; clear hHeld2
            try simp only [Act.put, nB, nC, nD]
            refine held_two (i := 3) (j := 6) rfl rfl (by kernel_rfl) (by rfl) (by rfl) (fun K hK => ?_) (fun K hK => ?_)
            · refine wp_make 92 (.tmp 7) (by rfl) (N : Int) (by rfl) _ (make_ints N HN8.out V2) ?_
              obtain ⟨bh, hbh⟩ : ∃ b, V2.heap.size = b := ⟨_, rfl⟩
              obtain ⟨V3, hV⟩ : ∃ V, V = V2.alloc (rwI0 N) := ⟨_, rfl⟩
              have HB3 : Hid (Below W1.heap.size W1 V3) := by rw [hV]; exact HB2.out.alloc HB2.out.size _
              have HZ3 : Hid (V3.heap.size = X + 3) := by show _ = _; rw [hV, World.size_alloc, HZ2.out]
              have HXh : Hid (bh = X + 2) := by show _ = _; rw [← hbh, HZ2.out]
              have HRh : Hid (V3.heap[bh]? = some (rwI0 N)) := by show _ = _; rw [hV, ← hbh]; exact heap_alloc_new _ _
              replace HRp := Lib.hid (heap_keep HRp.out hV)
              replace HRd := Lib.hid (heap_keep HRd.out hV)
              rw [hbh, ← hV]
              clear hV hbh
              refine hK.out _ _ (HS.out _ HB3.out) (fun hHeld2 => ?_)
              clear hK K hHeld; have hHeld := hHeld2; clear hHeld2
              try simp only [Act.put, nB, nC, nD]
              refine held_one (i := 6) rfl (by kernel_rfl) (by rfl) (fun K hK => ?_)
              refine wp_make 92 (.tmp 10) (by rfl) (N : Int) (by rfl) _ (make_ints N HN8.out V3) ?_
              obtain ⟨ba, hba⟩ : ∃ b, V3.heap.size = b := ⟨_, rfl⟩
              obtain ⟨V4, hV⟩ : ∃ V, V = V3.alloc (rwI0 N) := ⟨_, rfl⟩
              have HB4 : Hid (Below W1.heap.size W1 V4) := by rw [hV]; exact HB3.out.alloc HB3.out.size _
              have HZ4 : Hid (V4.heap.size = X + 4) := by show _ = _; rw [hV, World.size_alloc, HZ3.out]
              have HXa : Hid (ba = X + 3) := by show _ = _; rw [← hba, HZ3.out]
              have HRa : Hid (V4.heap[ba]? = some (rwI0 N)) := by show _ = _; rw [hV, ← hba]; exact heap_alloc_new _ _
              replace HRp := Lib.hid (heap_keep HRp.out hV)
              replace HRd := Lib.hid (heap_keep HRd.out hV)
              replace HRh := Lib.hid (heap_keep HRh.out hV)
              rw [hba, ← hV]
              clear hV hba
              refine hK.out _ _ (HS.out _ HB4.out) (fun hHeld2 => ?_)
              clear hK K hHeld; have hHeld := hHeld2; clear hHeld2
              try simp only [Act.put, nB, nC, nD]
              refine wpAnyH_listed (l2 := #[true, true, true, true, true, true, true, true, true, true, true, true, true, false, false, false]) (by kernel_rfl) ?_
              exact LEAF bh ba bd bp V4 ⟨_, _, _, _, HXh.out, HXa.out, HXd.out, HXp.out, by decide, HZ4.out, HRh.out, HRa.out, HRd.out, HRp.out⟩ HB4
            · refine wp_make 92 (.tmp 10) (by rfl) (N : Int) (by rfl) _ (make_ints N HN8.out V2) ?_
              obtain ⟨ba, hba⟩ : ∃ b, V2.heap.size = b := ⟨_, rfl⟩
              obtain ⟨V3, hV⟩ : ∃ V, V = V2.alloc (rwI0 N) := ⟨_, rfl⟩
              have HB3 : Hid (Below W1.heap.size W1 V3) := by rw [hV]; exact HB2.out.alloc HB2.out.size _
              have HZ3 : Hid (V3.heap.size = X + 3) := by show _ = _; rw [hV, World.size_alloc, HZ2.out]
              have HXa : Hid (ba = X + 2) := by show _ = _; rw [← hba, HZ2.out]
              have HRa : Hid (V3.heap[ba]? = some (rwI0 N)) := by show _ = _; rw [hV, ← hba]; exact heap_alloc_new _ _
              replace HRp := Lib.hid (heap_keep HRp.out hV)
              replace HRd := Lib.hid (heap_keep HRd.out hV)
              rw [hba, ← hV]
              clear hV hba
              refine hK.out _ _ (HS.out _ HB3.out) (fun hHeld2 => ?_)
              clear hK K hHeld; have hHeld := hHeld2; clear hHeld2
              try simp only [Act.put, nB, nC, nD]
              refine held_one (i := 3) rfl (by kernel_rfl) (by rfl) (fun K hK => ?_)
              refine wp_make 92 (.tmp 7) (by rfl) (N : Int) (by rfl) _ (make_ints N HN8.out V3) ?_
              obtain ⟨bh, hbh⟩ : ∃ b, V3.heap.size = b := ⟨_, rfl⟩
              obtain ⟨V4, hV⟩ : ∃ V, V = V3.alloc (rwI0 N) := ⟨_, rfl⟩
              have HB4 : Hid (Below W1.heap.size W1 V4) := by rw [hV]; exact HB3.out.alloc HB3.out.size _
              have HZ4 : Hid (V4.heap.size = X + 4) := by show _ = _; rw [hV, World.size_alloc, HZ3.out]
              have HXh : Hid (bh = X + 3) := by show _ = _; rw [← hbh, HZ3.out]
              have HRh : Hid (V4.heap[bh]? = some (rwI0 N)) := by show _ = _; rw [hV, ← hbh]; exact heap_alloc_new _ _
              replace HRp := Lib.hid (heap_keep HRp.out hV)
              replace HRd := Lib.hid (heap_keep HRd.out hV)
              replace HRa := Lib.hid (heap_keep HRa.out hV)
              rw [hbh, ← hV]
              clear hV hbh
              refine hK.out _ _ (HS.out _ HB4.out) (fun hHeld2 => ?_)
              clear hK K hHeld; have hHeld := hHeld2; clear hHeld2
              try simp only [Act.put, nB, nC, nD]
              refine wpAnyH_listed (l2 := #[true, true, true, true, true, true, true, true, true, true, true, true, true, false, false, false]) (by kernel_rfl) ?_
              exact LEAF bh ba bd bp V4 ⟨_, _, _, _, HXh.out, HXa.out, HXd.out, HXp.out, by decide, HZ4.out, HRh.out, HRa.out, HRd.out, HRp.out⟩ HB4
      case leaf =>
        intro bh ba bd bp V4 hfc HB4
        have HFC := Lib.hid hfc
        have hHeld := HS.out _ HB4.out
        clear hfc
        try dsimp only
        have hCn := HCN.out
        subst hCn
        refine held_take (i := 13) (v := ?_) rfl (by kernel_rfl) (by kernel_rfl) (by kernel_rfl) (fun _ _ _ h => h) (by rfl) hHeld ?_ ?_
        rotate_left 1
        · (intro w hSw; (try dsimp only at hSw); go_simp; try (with_reducible rfl))
        try simp only [Act.put, nB, nC, nD]
        refine held_one (i := 14) rfl (by kernel_rfl) (by rfl) (fun K hK => ?_)
        go_simp
        have HB5 := Lib.hid (HB4.out.alloc HB4.out.size (dcO C (.slice none 0 0) 0 bh ba bd bp (.slice none 0 0) (.slice none 0 0) false))
        refine hK.out _ _ (HS.out _ HB5.out) (fun hHeld2 => ?_)
        clear hK K hHeld; have hHeld := hHeld2; clear hHeld2
        try simp only [Act.put, nB, nC, nD]
        refine held_one (i := 15) rfl (by kernel_rfl) (by rfl) (fun K hK => ?_)
        go_simp
        refine hK.out _ _ (hHeld) (fun hHeld2 => ?_)
        clear hK K hHeld; have hHeld := hHeld2; clear hHeld2
        try simp only [Act.put, nB, nC, nD]
        refine wpAnyH_done (by kernel_rfl) ?_ _
        clear hHeld
        go_wp2_with fail
        go_meet
        obtain ⟨jh, ja, jd, jp, f1, f2, f3, f4, f5, f6, f7, f8, f9, f10⟩ := HFC.out
        exact ⟨newk_of HH0.out rfl (HA.out.trans (HB4.out.mono HA.out.size)) X _ _ _ _ bh ba bd bp (by have h1 := HA.out.size; have h2 := HB0.out.size; have h3 := HXX.out; omega) (by have h2 := HB0.out.size; have h3 := HXX.out; omega) f1 f2 f3 f4 f6 f5 f7 f8 f9 f10, HB5.out⟩
  case rest =>
    obtain ⟨HNK, HBC⟩ := hcut
    obtain ⟨K0, rfl, eC, es, -, els, hdm, hbw, hge⟩ := HNK.out
    obtain ⟨c, hc⟩ : ∃ c, K0.c = c := ⟨_, rfl⟩
    have HK0 : Hid (∃ K : Dm, K.c = c ∧ K.C = C ∧ K.s = sN N D 0 ∧ DM w0 wc K ∧ ∀ j, DB K j → W1.heap.size ≤ j) := ⟨K0, hc, eC, es, hdm, hge⟩
    rw [hc]
    clear HNK eC es els hdm hbw hge hc
    go_wp2_with fail
    go_loopw [4] (fun ii wr => ∃ k : Nat, ii = .int .i64 (k : Int) ∧ k ≤ N ∧ Hid (∃ K : Dm, K.c = c ∧ K.C = C ∧ K.s = sN N D k ∧ DM w0 wr K ∧ ∀ j, DB K j → W1.heap.size ≤ j) ∧ Hid (Below W1.heap.size W1 wr)) (fun ii _ => N - (intOf ii).toNat)
    case atStart => exact ⟨0, rfl, by omega, HK0, HBC⟩
    case round =>
      obtain ⟨k, rfl, hk, HK, HBR⟩ := hrel
      clear HK0
      obtain ⟨c0, c3, -⟩ := HS.out _ HBR.out
      by_cases hlt : k < N
      · have hkn : (k : Int) < (N : Int) := by omega
        have hk2 : Hid (k + 1 ≤ N) := hlt
        have hms : Hid (N - (k + 1) < N - k) := by show _ < _; omega
        obtain ⟨K, ec, eC, es, hd, hge⟩ := HK.out
        have hX := (psK_at N D k hlt)
        obtain ⟨u, hu⟩ : ∃ u, u = Value.slice (some ⟨wr.drew.heap.size, 0, none⟩) D D := ⟨_, rfl⟩
        obtain ⟨r1, r2, r3, r4⟩ := hd.drew.line_add D hD8 hu rfl
        obtain ⟨lv, hlv⟩ : ∃ lv, K.lv = lv := ⟨_, rfl⟩
        obtain ⟨us, hus⟩ : ∃ us, K.ls.map Rl.v = us := ⟨_, rfl⟩
        have hul : us.length = k := by rw [← hus, List.length_map]; have := congrArg List.length hd.ln; rw [List.length_map, es] at this; rw [this]; show (List.replicate k (zB D)).length = k; simp
        rw [hlv, hus] at r1 r4
        rw [hlv] at r3
        rw [ec] at r3 r4
        rw [es] at r4
        have HA2 := Lib.hid ((Below.refl wr.drew.heap.size wr.drew).alloc (Nat.le_refl _) (madeB D))
        have HF : Hid (∀ W, Below wr.drew.heap.size wr.drew W → W.cell? ⟨c, 10, none⟩ = some lv ∧ W.frozen? ⟨c, 10, none⟩ = false ∧ W.cell? ⟨P, 3, none⟩ = some (.int .i64 (D : Int))) := fun W hW => by
          have h1 := (hd.drew.belows hW).cell 10 _ rfl
          have h2 := (hd.drew.belows hW).fz 10
          rw [ec, hlv] at h1; rw [ec] at h2
          exact ⟨h1, h2, (HS.out _ (HBR.out.drew.trans (hW.mono HBR.out.drew.size))).2.1⟩
        have HR1 := Lib.hid r1; have HR2 := Lib.hid r2; have HR4 := Lib.hid r4; have HUL : Hid (us.length ≤ 1000) := by show _ ≤ _; omega
        have HR3 : Hid (some c ≠ lv.ownBlock) := fun e => r3 c e.symm rfl
        have HLO : Hid (∀ j, lv.ownBlock = some j → W1.heap.size ≤ j ∧ j < wr.heap.size) := fun j hj => ⟨hge j (.inl (.inl (by rw [hlv]; exact hj))), (hd.lr.lt (.inl (by rw [hlv]; exact hj))).2⟩
        have HCW : Hid (W1.heap.size ≤ c) := by show _ ≤ _; rw [← ec]; exact hge _ (.inr (by simp [DO, Dm.bl]))
        have HBS : Hid (w0.heap.size ≤ wr.drew.heap.size) := hd.be.size
        have HSA : Hid (∀ W s2, GoesD w0 wr.drew K W s2 → s2.ps[k]? = some pr0 → ∃ ab, W.cell? ⟨c, 13, none⟩ = some (.slice (some ⟨ab, 0, none⟩) N N) ∧ W.cell? ⟨ab, k, none⟩ = some (.int .i64 0) ∧ W.frozen? ⟨ab, k, none⟩ = false ∧ (∃ K' : Dm, K'.c = c ∧ K'.C = C ∧ K'.s = { s2 with ps := s2.ps.set k { pr0 with ha := D } } ∧ DM w0 (W.setCell ⟨ab, k, none⟩ (.int .i64 (D : Int))).drew K' ∧ ∀ j, DB K' j → W1.heap.size ≤ j) ∧ W1.heap.size ≤ ab) := fun W s2 g hx => by
          obtain ⟨K1, e1, e2, e3, H1, L1, N1⟩ := g
          obtain ⟨⟨-, b0, -⟩, -, ⟨b1, b2⟩, -⟩ := H1.all (e3.trans ec) (by rw [e2, eC, HCN.out]) rfl rfl rfl k pr0 (by rw [e1]; exact hx)
          obtain ⟨K2, f1, f2, f3, H2, L2, N2⟩ := (H1.set_ha k pr0 (by rw [e1]; exact hx) D).drew
          have hw1 : W1.heap.size ≤ wr.drew.heap.size := HBR.out.size
          exact ⟨K1.a, b0, b1, b2, ⟨K2, f3.trans (e3.trans ec), f2.trans (e2.trans eC), by rw [f1, e1], H2, fun j hj => (N2 j hj).elim (fun e => (N1 j e).elim (hge j) (fun e => Nat.le_trans hw1 e)) (fun e => Nat.le_trans hw1 (Nat.le_trans L1.size e))⟩, (N1 K1.a (.inr (by simp [DO, Dm.bl]))).elim (hge _) (fun e => Nat.le_trans hw1 e)⟩
        clear hd r1 r2 r3 r4 hlv hus hul ec eC es hge HK
        subst hu
        go_wp2_with fail
        refine wp_region_J (s := 13) (S := (fun w' => w'.cell? ⟨c, 10, none⟩ = some lv ∧ w'.frozen? ⟨c, 10, none⟩ = false ∧ w'.cell? ⟨P, 3, none⟩ = some (.int .i64 (D : Int)))) (by kernel_rfl) (HF.out _ (Below.refl _ _)) (fun hHeld => ?_)
        refine j_take (i := 0) (v := ?_) rfl (by kernel_rfl) (by kernel_rfl) (by kernel_rfl) (by kernel_rfl) (fun _ _ _ h => h) (by rfl) hHeld ?_ ?_
        rotate_left 1
        · (intro w hSw; (try dsimp only at hSw); go_simp; try (with_reducible rfl))
        try simp only [Act.put, nB, nC, nD]
        refine j_take (i := 1) (v := ?_) rfl (by kernel_rfl) (by kernel_rfl) (by kernel_rfl) (by kernel_rfl) (fun _ _ _ h => h) (by rfl) hHeld ?_ ?_
        rotate_left 1
        · (intro w hSw; (try dsimp only at hSw); go_simp; try (with_reducible rfl))
        try simp only [Act.put, nB, nC, nD]
        refine j_take (i := 2) (v := ?_) rfl (by kernel_rfl) (by kernel_rfl) (by kernel_rfl) (by kernel_rfl) (fun _ _ _ h => h) (by rfl) hHeld ?_ ?_
        rotate_left 1
        · (intro w hSw; (try dsimp only at hSw); go_simp; try (with_reducible rfl))
        try simp only [Act.put, nB, nC, nD]
        refine j_take (i := 3) (v := ?_) rfl (by kernel_rfl) (by kernel_rfl) (by kernel_rfl) (by kernel_rfl) (fun _ _ _ h => h) (by rfl) hHeld ?_ ?_
        rotate_left 1
        · (intro w hSw; (try dsimp only at hSw); go_simp; try (with_reducible rfl))
        try simp only [Act.put, nB, nC, nD]
        refine j_take (i := 4) (v := ?_) rfl (by kernel_rfl) (by kernel_rfl) (by kernel_rfl) (by kernel_rfl) (fun _ _ _ h => h) (by rfl) hHeld ?_ ?_
        rotate_left 1
        · (intro w hSw; (try dsimp only at hSw); go_simp; try (with_reducible rfl))
        try simp only [Act.put, nB, nC, nD]
        refine j_take (i := 5) (v := ?_) rfl (by kernel_rfl) (by kernel_rfl) (by kernel_rfl) (by kernel_rfl) (fun _ _ _ h => h) (by rfl) hHeld ?_ ?_
        rotate_left 1
        · (intro w hSw; (try dsimp only at hSw); go_simp; try (with_reducible rfl))
        try simp only [Act.put, nB, nC, nD]
        refine j_take (i := 6) (v := ?_) rfl (by kernel_rfl) (by kernel_rfl) (by kernel_rfl) (by kernel_rfl) (fun _ _ _ h => h) (by rfl) hHeld ?_ ?_
        rotate_left 1
        · (intro w hSw; (try dsimp only at hSw); go_simp; try (with_reducible rfl))
        try simp only [Act.put, nB, nC, nD]
        refine j_one (i := 7) rfl (by kernel_rfl) (by rfl) (fun K9 hK => ?_)
        refine wp_make 33 (.tmp 32) (by rfl) (D : Int) (by rfl) _ (make_b D (by omega) wr.drew) ?_
        refine hK.out _ _ (HF.out _ HA2.out) (fun hHeld2 => ?_)
        clear hK K9 hHeld; have hHeld := hHeld2; clear hHeld2
        try simp only [Act.put, nB, nC, nD]
        refine j_take (i := 8) (v := ?_) rfl (by kernel_rfl) (by kernel_rfl) (by kernel_rfl) (by kernel_rfl) (fun _ _ _ h => h) (by rfl) hHeld ?_ ?_
        rotate_left 1
        · (intro w hSw; (try dsimp only at hSw); go_simp; try (with_reducible rfl))
        try simp only [Act.put, nB, nC, nD]
        refine j_one (i := 9) rfl (by kernel_rfl) (by rfl) (fun K9 hK => ?_)
        go_simp
        refine hK.out _ _ (HF.out _ HR2.out) (fun hHeld2 => ?_)
        clear hK K9 hHeld; have hHeld := hHeld2; clear hHeld2
        try simp only [Act.put, nB, nC, nD]
        refine j_one (i := 10) rfl (by kernel_rfl) (by rfl) (fun K9 hK => ?_)
        refine wp_append_line (.tmp 30) (.tmp 35) (by rfl) w0.heap.size lv us (.slice (some ⟨wr.drew.heap.size, 0, none⟩) D D) (by rfl) HR1.out rfl (wr.heap.size + 1) (by rfl) (by have h7 := heap_alloc_new (wr.alloc (madeB D)) (lOne (.slice (some ⟨wr.drew.heap.size, 0, none⟩) D D)); rw [show (wr.alloc (madeB D)).heap.size = wr.heap.size + 1 by simp] at h7; exact h7) HUL.out (Nat.le_trans HBS.out HR2.out.size) ?_
        intro v9 w9 h9 g9 e9
        obtain ⟨g9b, cap9, rfl⟩ := owns_slice h9 (by omega)
        refine hK.out _ _ (⟨gr_cell1 g9 (HF.out _ HR2.out).1 HR3.out, gr_fz1 g9 (HF.out _ HR2.out).1 (HF.out _ HR2.out).2.1 HR3.out, gr_cell1 g9 (HF.out _ HR2.out).2.2 (fun e => by have h1 := (HLO.out P e.symm).1; have h2 := HPL.out; omega)⟩) (fun hHeld2 => ?_)
        clear hK K9 hHeld; have hHeld := hHeld2; clear hHeld2
        try simp only [Act.put, nB, nC, nD]
        have HG9 := Lib.hid (HR4.out _ w9 h9 g9 e9)
        have HB9 : Hid (Below W1.heap.size W1 w9) := ((HBR.out.drew.trans (HR2.out.mono HBR.out.drew.size))).grown g9 (Nat.le_trans HBR.out.drew.size HR2.out.size) (fun j hj => (HLO.out j hj).1)
        clear h9 g9 e9
        refine j_one (i := 11) rfl (by kernel_rfl) (by rfl) (fun K9 hK => ?_)
        go_simp
        refine hK.out _ _ (hHeld) (fun hHeld2 => ?_)
        clear hK K9 hHeld; have hHeld := hHeld2; clear hHeld2
        try simp only [Act.put, nB, nC, nD]
        refine j_one (i := 12) rfl (by kernel_rfl) (by rfl) (fun K9 hK => ?_)
        go_simp
        refine hK.out _ _ (hHeld) (fun hHeld2 => ?_)
        clear hK K9 hHeld; have hHeld := hHeld2; clear hHeld2
        try simp only [Act.put, nB, nC, nD]
        refine j_last rfl (by kernel_rfl) (by simp) (by kernel_rfl) (by rfl) (fun K9 hK => ?_)
        go_simp
        refine hK.out _ _ ?_
        skip
        clear hHeld
        obtain ⟨w10, hw10⟩ : ∃ w10, w10 = w9.setCell ⟨c, 10, none⟩ (.slice (some ⟨g9b, 0, none⟩) (us.length + 1) cap9) := ⟨_, rfl⟩
        rw [← hw10] at HG9 ⊢
        have HB10 : Hid (Below W1.heap.size W1 w10) := by rw [hw10]; exact HB9.out.setCell (p := ⟨c, 10, none⟩) HCW.out _
        clear hw10
        obtain ⟨ab, a13, aa, fa, hend, haw⟩ := HSA.out w10 _ HG9.out hX
        have HEN2 : Hid (∃ K : Dm, K.c = c ∧ K.C = C ∧ K.s = sN N D (k + 1) ∧ DM w0 (w10.setCell ⟨ab, k, none⟩ (.int .i64 (D : Int))).drew K ∧ ∀ j, DB K j → W1.heap.size ≤ j) := by
          obtain ⟨K9, q1, q2, q3, q4, q5⟩ := hend
          exact ⟨K9, q1, q2, by rw [q3]; unfold sN; rw [List.replicate_succ']; rfl, q4, q5⟩
        obtain ⟨-, d3, -⟩ := HS.out _ HB10.out
        have HAW := Lib.hid haw
        clear hend haw hX c0 c3
        go_wp2_with fail
        go_big_region
        go_wp2_with fail
        go_roundw
        case rel => exact ⟨k + 1, by go_num, hk2.out, HEN2, (HB10.out.setCell (p := ⟨ab, k, none⟩) HAW.out _).drew⟩
        case measure => simp [intOf]; have := hms.out; omega
      · obtain rfl : N = k := by omega
        obtain ⟨K, ec, eC, es, hd, hge⟩ := HK.out
        go_wp2_with fail
        go_ret
        exact ⟨K, by rw [ec]; rfl, eC, by rw [es, ← HCN.out, ← HCD.out, sN_end], hd, HA.out.trans (HBR.out.mono HA.out.size), fun j hj => Nat.le_trans HA.out.size (hge j hj)⟩
end Go.Proofs.YtpnobpligchpiaaGreatDoor
