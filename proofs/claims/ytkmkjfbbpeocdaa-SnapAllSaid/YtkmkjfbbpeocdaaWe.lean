/- Pictures made, plain; WALKS over package snap: New, lay. -/
import Derived.Test.YtkmkjfbbpeocdaaWd
import Derived.Test.YtkmkjfbbpeocdaaGd
namespace Go.Proofs.Ytkmkjfbbpeocdaa
set_option maxRecDepth 100000
open Go.RowKit Go.Maps
set_option linter.unusedVariables false
set_option linter.unusedSimpArgs false

/-- i pages were taken and written -/
structure MadeN (l l' : List Sh) (g : List Int) (f : Nat → Int) (i : Nat) : Prop where
  len : l'.length = l.length
  used : usedN l' = usedN l + i
  fresh : ∀ j, j < i → (pg l (f j)).r = 0
  one : ∀ j, j < i → (pg l' (f j)).r = 1
  num : ∀ j, j < i → ∀ m, m < 8 → g[8 * j + m]? = some ((pg l' (f j)).on m)
  inj : ∀ a b, a < i → b < i → f a = f b → a = b
  oth : ∀ p, (∀ j, j < i → f j ≠ p) → pg l' p = pg l p
theorem MadeN.start (l : List Sh) (g : List Int) (f : Nat → Int) : MadeN l l g f 0 :=
  ⟨rfl, rfl, fun j h => by omega, fun j h => by omega, fun j h => by omega, fun a b h => by omega, fun p _ => rfl⟩
theorem MadeN.step {l l' : List Sh} {g : List Int} {f : Nat → Int} {i : Nat} (h : MadeN l l' g f i) (k : Nat) (hk : k < l'.length) (h0 : (shAt l' k).r = 0) (s : Nat → Int) (hs : ∀ m, m < 8 → g[8 * i + m]? = some (s m)) (p : Int) (hp : p = k + 1) :
    MadeN l (l'.set k ⟨1, s⟩) g (shPut f i p) (i + 1) := by
  have hpr : (pg l' p).r = 0 := by rw [pg_at l' p k hp]; exact h0
  have hne : ∀ j, j < i → f j ≠ p := fun j hj e => by have := h.one j hj; rw [e, hpr] at this; omega
  have hlo : ∀ j, j < i → shPut f i p j = f j := fun j hj => by unfold shPut; rw [if_neg (by omega)]
  have hhi : shPut f i p i = p := by unfold shPut; rw [if_pos rfl]
  have hset := fun q => pg_set hk (⟨1, s⟩ : Sh) p hp q
  refine ⟨by rw [List.length_set]; exact h.len, ?_, fun j hj => ?_, fun j hj => ?_, fun j hj m hm => ?_, fun a b ha hb e => ?_, fun q hq => ?_⟩
  · have := usedN_set l' k hk ⟨1, s⟩
    rw [h0, if_neg (by omega), if_pos (show (0 : Int) < 1 by omega)] at this
    have := h.used; omega
  · by_cases e : j = i
    · subst e; rw [hhi, ← h.oth p hne]; exact hpr
    · rw [hlo j (by omega)]; exact h.fresh j (by omega)
  · by_cases e : j = i
    · subst e; rw [hhi, hset, if_pos rfl]
    · rw [hlo j (by omega), hset, if_neg (hne j (by omega))]; exact h.one j (by omega)
  · by_cases e : j = i
    · subst e; rw [hhi, hset, if_pos rfl]; exact hs m hm
    · rw [hlo j (by omega), hset, if_neg (hne j (by omega))]; exact h.num j (by omega) m hm
  · by_cases e1 : a = i
    · by_cases e2 : b = i
      · omega
      · rw [e1, hhi, hlo b (by omega)] at e
        exact absurd e.symm (hne b (by omega))
    · by_cases e2 : b = i
      · rw [e2, hhi, hlo a (by omega)] at e
        exact absurd e (hne a (by omega))
      · rw [hlo a (by omega), hlo b (by omega)] at e
        exact h.inj a b (by omega) (by omega) e
  · have h1 := hq i (by omega)
    rw [hhi] at h1
    rw [hset, if_neg (fun x => h1 x.symm)]
    exact h.oth q (fun j hj => by rw [← hlo j hj]; exact hq j (by omega))
theorem MadeN.inv {l l' : List Sh} {g : List Int} {f : Nat → Int} {L : List Pc} (h : MadeN l l' g f 4) (I : INV l L) (b : Nat) : INV l' (L ++ [⟨b, 1, f⟩]) := by
  have hpc : ∀ p, pcN ⟨b, 1, f⟩ p = hasN f p 4 := fun p => if_pos (show (0 : Int) < 1 by omega)
  refine ⟨fun p => ?_, fun k c hk hr => ?_, fun k c hk => ?_⟩
  · rw [cnt_append, hpc]
    by_cases e : ∃ j, j < 4 ∧ f j = p
    · obtain ⟨j, hj, rfl⟩ := e
      rw [h.one j hj, hasN_one f 4 h.inj j hj, ← I.cnt, h.fresh j hj]; rfl
    · have hn : ∀ j, j < 4 → f j ≠ p := fun j hj x => e ⟨j, hj, x⟩
      rw [h.oth p hn, hasN_zero f p 4 hn, I.cnt, Int.add_zero]
  · rcases get_snoc hk with h1 | ⟨_, rfl⟩
    · exact I.dist k c h1 hr
    · exact fun i j hi hj => h.inj i j hi hj
  · rcases get_snoc hk with h1 | ⟨_, rfl⟩
    · exact I.nn k c h1
    · show (0 : Int) ≤ 1; omega
theorem MadeN.old {l l' : List Sh} {g : List Int} {f : Nat → Int} {L : List Pc} (h : MadeN l l' g f 4) (I : INV l L) {k : Nat} {c : Pc} (hk : L[k]? = some c) (hr : 0 < c.r) : gmL l' c.on = gmL l c.on := by
  refine gmL_congr _ _ _ _ (fun i hi j hj => ?_)
  rw [h.oth (c.on i) (fun m hm e => by have := I.has hk hr hi; rw [← e, h.fresh m hm] at this; omega)]
theorem MadeN.gm {l l' : List Sh} {g : List Int} {f : Nat → Int} (h : MadeN l l' g f 4) (hg : g.length = 32) : gmL l' f = g :=
  gmL_of _ _ _ hg (fun i hi j hj => h.num i hi j hj)

/-! ### arrays of four numbers -/
theorem q4_get (f : Nat → Int) (i : Nat) (h : i < 4) : (q4A f)[i]? = some (.int .i64 (f i)) := by
  obtain rfl | rfl | rfl | rfl : i = 0 ∨ i = 1 ∨ i = 2 ∨ i = 3 := by omega
  all_goals rfl
def Q4 (w : World) (b : Nat) (t : TypeId) (f : Nat → Int) : Prop := w.heap[b]? = some (.cells (q4A f) t (0, 0))
theorem Q4.cell {w : World} {b : Nat} {t : TypeId} {f : Nat → Int} (h : Q4 w b t f) (i : Nat) (hi : i < 4) : w.cell? ⟨b, i, none⟩ = some (.int .i64 (f i)) := by rw [cell_of_row w b i _ _ _ h]; exact q4_get f i hi
theorem Q4.fz {w : World} {b : Nat} {t : TypeId} {f : Nat → Int} (h : Q4 w b t f) (i : Nat) : w.frozen? ⟨b, i, none⟩ = false := by unfold Q4 at h; simp [World.frozen?, h]
theorem Q4.lt {w : World} {b : Nat} {t : TypeId} {f : Nat → Int} (h : Q4 w b t f) : b < w.heap.size := (Array.getElem?_eq_some_iff.1 h).1
theorem Q4.range {w : World} {b : Nat} {t : TypeId} {f : Nat → Int} (h : Q4 w b t f) : w.rangeAt b 0 (q4L f) := fun j v hv => by
  have hj : j < 4 := (List.getElem?_eq_some_iff.1 hv).1
  rw [Nat.zero_add, h.cell j hj]
  obtain rfl | rfl | rfl | rfl : j = 0 ∨ j = 1 ∨ j = 2 ∨ j = 3 := by omega
  all_goals simpa [q4L] using hv
theorem Q4.set {w : World} {b : Nat} {t : TypeId} {f : Nat → Int} (h : Q4 w b t f) (i : Nat) (hi : i < 4) (x : Int) : Q4 (w.setCell ⟨b, i, none⟩ (.int .i64 x)) b t (shPut f i x) := by
  unfold Q4 at *
  simp only [World.setCell, Array.getElem?_modify, h, if_true, Option.map_some]
  obtain rfl | rfl | rfl | rfl : i = 0 ∨ i = 1 ∨ i = 2 ∨ i = 3 := by omega
  all_goals rfl
theorem Q4.block {w w' : World} {b : Nat} {t : TypeId} {f : Nat → Int} (h : Q4 w b t f) (hb : w'.heap[b]? = w.heap[b]?) : Q4 w' b t f := hb.trans h
theorem wpList_load_q4 {P : Program} {ops : Array Oper} {rest : List Oper} {op : Oper} {a : Act} {w : World} {Q : Exit → Act → World → Prop} (hgd : op.guard = none) (ty : TypeId) (x : Operand) (ho : op.op = .load ty x)
    (b o : Nat) (hx : a.eval x = .pointer (some ⟨b, o, none⟩)) (f : Nat → Int) (h : w.rangeAt b o (q4L f)) {n : Nat} {e : TypeId} (hu : P.underlying ty = some (.array n e)) (hi : (P.info? ty).map (·.size) = some 4)
    (hq : wpList P ops Q rest (a.put op.dst (.agg (q4A f))) w) : wpList P ops Q (op :: rest) a w :=
  wpList_load_mid hgd ty x ho b o hx (q4L f) _ h hu rfl (by rw [hi]; rfl) hq
theorem index_q4 (f : Nat → Int) (i : Nat) (hi : i < 4) (w : World) : (Instr.index 67 (.agg (q4A f)) (.int .i64 (i : Int))).run Try.prog w = .ok (.int .i64 (f i)) w := by
  obtain rfl | rfl | rfl | rfl : i = 0 ∨ i = 1 ∨ i = 2 ∨ i = 3 := by omega
  all_goals (unfold q4A q4L; generalize f 0 = x0; generalize f 1 = x1; generalize f 2 = x2; generalize f 3 = x3; kernel_rfl)
/-! ### New -/
theorem snew_at (w w1 : World) (P A n : Nat) (x : Int) (hx : x = ((4 * n : Nat) : Int)) (R : RM w1 P A (List.replicate (4 * n) zS)) (hA : w.heap.size ≤ A) (hP : w.heap.size ≤ P) (B : Below w.heap.size w w1) (W : World)
    (hW : W = (w1.alloc (.map #[] 0)).alloc (.cells (stA P w1.heap.size x 0) 66)) :
    (∀ b, SB (w1.heap.size + 1) P A w1.heap.size [] b → w.heap.size ≤ b) ∧ SM W (w1.heap.size + 1) P A w1.heap.size (List.replicate (4 * n) zS) [] ∧ Below w.heap.size w W := by
  subst hW hx
  have hP1 := R.lt
  have hA1 := R.row.lt
  have hs := B.size
  have hl := heap_alloc_last (w1.alloc (.map #[] 0)) (.cells (stA P w1.heap.size ((4 * n : Nat) : Int) 0) 66)
  rw [World.size_alloc] at hl
  refine ⟨fun b hb => ?_, ⟨?_, (R.alloc _).alloc _, ⟨.map [], (World.ownsMap_made w1 _ _ _).alloc _, ⟨fun k c hk => by simp at hk, fun x _ => rfl⟩⟩, fun k c hk => by simp at hk, fun j k c d hj => by simp at hj, ?_⟩, (B.alloc hs _).alloc (by simp; omega) _⟩
  · rcases hb with rfl | rfl | rfl | rfl | ⟨k, c, hk, _⟩
    · omega
    · exact hP
    · exact hA
    · exact hs
    · simp at hk
  · rw [List.length_replicate]; exact hl
  · refine ⟨?_, ?_, ?_, ?_, ?_⟩ <;> omega
theorem snew_any (n : Nat) (hn : n ≤ 50) (x : Int) (hx : x = n) (w : World) :
    Calls Try.prog 12 #[.int .i64 x] w fun e w' => ∃ S P A M, e = .returned (.pointer (some ⟨S, 0, none⟩)) ∧ (∀ b, SB S P A M [] b → w.heap.size ≤ b) ∧ SM w' S P A M (List.replicate (4 * n) zS) [] ∧ Below w.heap.size w w' := by
  have hmm := @run_makeMap Try.prog
  have hx0 : 0 ≤ x := by omega
  have hx1 : x ≤ 50 := by omega
  have HN := Lib.hid (new_any (4 * x) (4 * n) (by omega) w)
  have HX : Hid (4 * x = ((4 * n : Nat) : Int)) := by rw [Hid]; omega
  clear hx
  go_enter Try.func12, Try.ntmps12
  go_wp2_with (go_at_call 29; with_reducible refine HN.out.mono ?_; rintro e w1 ⟨P, A, rfl, hA, hP, R, B⟩; have HR := Lib.hid R; have HB := Lib.hid B; clear R B)
  go_ret
  exact ⟨w1.heap.size + 1, P, A, w1.heap.size, rfl, snew_at w w1 P A n (4 * x) HX.out HR.out hA hP HB.out _ rfl⟩
/-! ### lay -/
theorem index_g8 (g : List Int) (hg : g.length = 8) (k : Nat) (hk : k < 8) (w : World) : (Instr.index 72 (.agg (gC g)) (.int .i64 (k : Int))).run Try.prog w = .ok (.int .i32 (g[k]'(by omega))) w :=
  index_g 72 g Try.underlying72 Try.underlying21 rfl infoCell k (by omega) hg w
theorem lay_tk {w w2 : World} {P A : Nat} {l' : List Sh} (hA : A < w.heap.size) (g : List Int) (t : TypeId) (U : Upd (w.alloc (.cells (gC g) t)) w2 P A l') : Hid (Upd w w2 P A l') ∧ Hid (GA w2 w.heap.size t g) :=
  ⟨⟨U.rm, grown_tr (grown_be ((Below.refl _ _).alloc (Nat.le_refl _) _)) U.gr⟩, GA.grown (GA.new w t g) U.gr (fun e => by have := Option.some.inj e; omega)⟩
theorem snoc_get {g : List Int} {i : Nat} (hi : i < g.length) (s : Nat → Int) (h : ∀ m, m < i → g[m]? = some (s m)) : ∀ m, m < i + 1 → g[m]? = some (shPut s i g[i] m) := fun m hm => by
  unfold shPut
  by_cases e : m = i
  · subst e; rw [if_pos rfl]; exact List.getElem?_eq_getElem hi
  · rw [if_neg e]; exact h m (by omega)
theorem lay_rd {w wr w' : World} {P A : Nat} {l : List Sh} {k : Nat} (hk : k < l.length) {s : Nat → Int} {i : Nat} {v : Int} (U : Upd w wr P A (l.set k ⟨1, s⟩)) (U2 : Upd wr w' P A ((l.set k ⟨1, s⟩).set k ⟨(shAt (l.set k ⟨1, s⟩) k).r, shPut (shAt (l.set k ⟨1, s⟩) k).on i v⟩)) :
    Hid (Upd w w' P A (l.set k ⟨1, shPut s i v⟩)) := by
  have e : (l.set k ⟨1, s⟩).set k ⟨(shAt (l.set k ⟨1, s⟩) k).r, shPut (shAt (l.set k ⟨1, s⟩) k).on i v⟩ = l.set k ⟨1, shPut s i v⟩ := by
    rw [shAt_set hk, if_pos rfl, List.set_set]
  rw [e] at U2
  exact ⟨U2.rm, grown_tr U.gr U2.gr⟩
set_option maxHeartbeats 1000000 in
theorem lay_hit (w : World) (S P A M : Nat) (l : List Sh) (L : List Pc) (h : SM w S P A M l L) (g : List Int) (hg : g.length = 8) (k : Nat) (hk : k < l.length) (h0 : (shAt l k).r = 0) (hb : ∀ j, j < k → (shAt l j).r ≠ 0) (p : Int) (hp : p = k + 1) :
    Calls Try.prog 34 #[.pointer (some ⟨S, 0, none⟩), .agg (gC g)] w fun e w' => e = .returned (.int .i64 p) ∧ ∃ s, (∀ m, m < 8 → g[m]? = some (s m)) ∧ Upd w w' P A (l.set k ⟨1, s⟩) := by
  have b0 : Below w.heap.size w (w.alloc (.cells (gC g) 72)) := (Below.refl _ _).alloc (Nat.le_refl _) _
  have h1 := h.alloc (.cells (gC g) 72)
  have c0 := h1.c0
  have HT := Lib.hid (take_hit _ P A l h1.rm k hk h0 hb p hp _ rfl)
  have HG := Lib.hid (GA.new w 72 g)
  have HH := Lib.hid h
  have hAlt := h.rm.row.lt
  have HP := Lib.hid hp
  have hgl : (gC g).size = 8 := by rw [gC_size, hg]
  have HG8 := Lib.hid hg
  have HK := Lib.hid hk
  have hne := h.ne
  clear h h1 h0 hb hp hg hk
  go_enter Try.func34, Try.ntmps34
  go_wp2_with (first
    | (go_at_call 50; with_reducible refine HT.out.mono ?_; rintro e w2 ⟨rfl, U⟩; obtain ⟨HU, HG2⟩ := lay_tk hAlt g _ U; clear U)
    | (with_reducible refine wpList_load_g rfl 72 (.tmp 3) rfl w.heap.size (by with_unfolding_all rfl) 72 g HG2.out Try.underlying72 (by rw [HG8.out]; exact infoPage) ?_))
  go_loopw [18] (fun i wr => ∃ (j : Nat) (s : Nat → Int), i = .int .i64 j ∧ j ≤ 8 ∧ Hid (∀ m, m < j → g[m]? = some (s m)) ∧ Hid (Upd w wr P A (l.set k ⟨1, s⟩))) (fun i _ => 8 - (intOf i).toNat)
  case atStart => exact ⟨0, zN, rfl, by omega, fun m hm => by omega, HU⟩
  case round =>
    obtain ⟨j, s, rfl, hj, hs, hU⟩ := hrel
    by_cases hlt : j < 8
    · have hjc : (j : Int) < 8 := by omega
      have hix := index_g8 g HG8.out j hlt wr
      have hjl : j < g.length := by rw [HG8.out]; exact hlt
      have HS := Lib.hid (snoc_get hjl s hs.out)
      have HM := Lib.hid (HH.out.room hU.out (List.length_set ..)).sm
      have cs := HM.out.c0
      have hrk : (shAt (l.set k ⟨1, s⟩) k).r = 1 := by rw [shAt_set HK.out, if_pos rfl]
      have HSet := Lib.hid (set_in wr P A _ hU.out.rm p (j : Int) (g[j]'hjl) k j HP.out (by rw [List.length_set]; exact HK.out) hrk rfl hlt _ rfl)
      generalize g[j] = v at *
      clear hrk
      go_wp2_with (go_at_call 41; with_reducible refine HSet.out.mono ?_; rintro e w4 ⟨rfl, U⟩; have HU4 := lay_rd HK.out hU.out U; clear U)
      go_roundw
      case rel => exact ⟨j + 1, shPut s j v, by go_num, by omega, HS, HU4⟩
      case measure => simp [intOf]; omega
    · obtain rfl : j = 8 := by omega
      go_wp2
      go_ret
      exact ⟨rfl, s, hs.out, hU.out⟩
end Go.Proofs.Ytkmkjfbbpeocdaa
