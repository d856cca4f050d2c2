/- THE WALK of runs.count. -/
import Derived.Test.YtclgcfofgiejgaaDoorJb
namespace Go.Proofs.YtclgcfofgiejgaaDoor
set_option maxRecDepth 100000
open Go.RowKit Go.Shelf
attribute [local go_sem] Oper.semAt_some
set_option linter.unusedVariables false

/-- block B holds two cells -/
def Pair (W : World) (B : Nat) (t : TypeId) (u v : Value) : Prop := W.heap[B]? = some (.cells #[u, v] t (0, 0))
theorem Pair.lt {W : World} {B : Nat} {t : TypeId} {u v : Value} (h : Pair W B t u v) : B < W.heap.size := (Array.getElem?_eq_some_iff.1 h).1
theorem Pair.cell0 {W : World} {B : Nat} {t : TypeId} {u v : Value} (h : Pair W B t u v) : W.cell? ⟨B, 0, none⟩ = some u := by simp [World.cell?, show W.heap[B]? = _ from h]
theorem Pair.cell1 {W : World} {B : Nat} {t : TypeId} {u v : Value} (h : Pair W B t u v) : W.cell? ⟨B, 1, none⟩ = some v := by simp [World.cell?, show W.heap[B]? = _ from h]
theorem Pair.kept {W W' : World} {row : Option Nat} {B : Nat} {t : TypeId} {u v : Value} (h : Pair W B t u v) (hg : W.grownBy W' row) (hne : some B ≠ row) : Pair W' B t u v := (hg.block B h.lt hne).trans h
theorem Pair.other {W : World} {B B' : Nat} {t : TypeId} {u v : Value} (h : Pair W B t u v) (hne : B ≠ B') (x : Value) : Pair (W.setCell ⟨B', 0, none⟩ x) B t u v := h.kept (grownBy_setCell' W B' x) (fun e => hne (by cases e; rfl))
theorem pair_own {β : Type} (B : Nat) (t : TypeId) (f g : β → Value) : Own (fun s W => Pair W B t (f s) (g s)) := fun s X Y row hs hg hrow =>
  hs.kept hg (fun e' => by obtain ⟨o, ho, hc⟩ := hrow B e'.symm; rw [show X.heap[B]? = _ from hs] at ho; cases ho; cases hc)

def cntV : Cnt → Value
  | .form => .tuple #[.int .i64 0, .int .i64 1]
  | .full => .tuple #[.int .i64 0, .int .i64 4]
  | .ok t => .tuple #[.int .i64 t, .int .i64 0]

/-- what holds between two rounds of count -/
def CI (w : World) (m : Int) {T : Int} (pre : List (ItT T)) (W : World) : Prop :=
  (∃ t, cnt m 0 (vals pre) = .ok t ∧ Boxed W (w.heap.size + 1 + 1 + 1) 3 (.int .i64 t)) ∧ Boxed W w.heap.size 3 (.int .i64 m) ∧ Boxed W (w.heap.size + 1) 3 (.int .i64 0) ∧ Boxed W (w.heap.size + 1 + 1) 24 (.int .i64 0) ∧ w.heap.size + 5 ≤ W.heap.size ∧ Below w.heap.size w W
def CX (w : World) (m : Int) {T : Int} (c : Code) (pre : List (ItT T)) (W : World) : Prop :=
  (c = .ret ∧ ∃ e, cntV (cnt m 0 (vals pre)) = .tuple #[.int .i64 0, .int .i64 e] ∧ (∀ r, cnt m 0 (vals pre ++ r) = cnt m 0 (vals pre)) ∧ Boxed W (w.heap.size + 1) 3 (.int .i64 0) ∧ Boxed W (w.heap.size + 1 + 1) 24 (.int .i64 e)) ∧ Below w.heap.size w W
theorem ci_own (w : World) (m : Int) {T : Int} (B : Nat) (hB : w.heap.size ≤ B) : OwnFrom B (CI w m (T := T)) := fun s X Y row hs hg hr => by
  obtain ⟨⟨t, h1, h2⟩, h3, h4, h5, hz, h6⟩ := hs
  have hk : ∀ {b ty v}, Boxed X b ty v → Boxed Y b ty v := fun {b ty v} h => boxed_own b ty (fun _ : Unit => v) () X Y row h hg (fun r e => (hr r e).2)
  exact ⟨⟨t, h1, hk h2⟩, hk h3, hk h4, hk h5, Nat.le_trans hz hg.size, ownFrom_below (β := Unit) (n₀ := w.heap.size) (w₀ := w) (B := B) (Nat.le_refl _) hB () X Y row h6 hg hr⟩
theorem cx_own (w : World) (m : Int) {T : Int} (B : Nat) (hB : w.heap.size ≤ B) (c : Code) : OwnFrom B (CX w m (T := T) c) := fun s X Y row hs hg hr => by
  obtain ⟨⟨h0, e, h1, h2, h3, h4⟩, h6⟩ := hs
  have hk : ∀ {b ty v}, Boxed X b ty v → Boxed Y b ty v := fun {b ty v} h => boxed_own b ty (fun _ : Unit => v) () X Y row h hg (fun r e => (hr r e).2)
  exact ⟨⟨h0, e, h1, h2, hk h3, hk h4⟩, ownFrom_below (β := Unit) (n₀ := w.heap.size) (w₀ := w) (B := B) (Nat.le_refl _) hB () X Y row h6 hg hr⟩

set_option maxHeartbeats 4000000 in
theorem count_any (A : Option Addr) (l : List UInt8) (cap : Nat) (m : Int) (w : World) (hm0 : 0 ≤ m) (hm1 : m ≤ 9223372036854775807) (hr : RB w w.heap.size A l) (hc : l.length ≤ cap) (hm : cap ≤ maxLen) :
    Calls Tryd.prog 85 #[.slice A l.length cap, .int .i64 m] w fun e w' => e = .returned (cntV (cnt m 0 (items true l))) ∧ Below w.heap.size w w' := by
  have HR := Lib.hid hr; have HM := Lib.hid hm; have HM1 := Lib.hid hm1; clear hr hm hm1
  refine (callsIn_wide (n := 6)).1 ?_
  refine callsIn_of_wp_marks Tryd.func85 rfl trivial ?_ rfl
  simp only [Tryd.ntmps85, List.size_toArray, List.length_cons, List.length_nil, Nat.reduceAdd, Nat.reduceSub, Array.replicate_succ, Array.replicate_zero, List.push_toArray, List.append_toArray, List.nil_append, List.cons_append]
  gi_wp2_with (refine ⟨trivial, ?_⟩; gi_at_call 86; refine (callsIn_wide.2 (read_any _ _ _ _)).mono ?_; rintro e w' ⟨rfl, rfl⟩)
  have b0 := (((((Boxed.new w 3 (.int .i64 m)).alloc (.cells #[.int .i64 0] 3)).alloc (.cells #[.int .i64 0] 24)).alloc (.cells #[.int .i64 0] 3)).alloc (.cells #[.slice A l.length cap] 29))
  have b1 := ((((Boxed.new (w.alloc (.cells #[.int .i64 m] 3)) 3 (.int .i64 0)).alloc (.cells #[.int .i64 0] 24)).alloc (.cells #[.int .i64 0] 3)).alloc (.cells #[.slice A l.length cap] 29))
  have b2 := (((Boxed.new ((w.alloc (.cells #[.int .i64 m] 3)).alloc (.cells #[.int .i64 0] 3)) 24 (.int .i64 0)).alloc (.cells #[.int .i64 0] 3)).alloc (.cells #[.slice A l.length cap] 29))
  have b3 := ((Boxed.new (((w.alloc (.cells #[.int .i64 m] 3)).alloc (.cells #[.int .i64 0] 3)).alloc (.cells #[.int .i64 0] 24)) 3 (.int .i64 0)).alloc (.cells #[.slice A l.length cap] 29))
  have b4 := (Boxed.new ((((w.alloc (.cells #[.int .i64 m] 3)).alloc (.cells #[.int .i64 0] 3)).alloc (.cells #[.int .i64 0] 24)).alloc (.cells #[.int .i64 0] 3)) 29 (.slice A l.length cap))
  simp only [World.size_alloc] at b1 b2 b3 b4
  have hB0 : Below w.heap.size w (((((w.alloc (.cells #[.int .i64 m] 3)).alloc (.cells #[.int .i64 0] 3)).alloc (.cells #[.int .i64 0] 24)).alloc (.cells #[.int .i64 0] 3)).alloc (.cells #[.slice A l.length cap] 29)) :=
    ((((Below.refl _ w).alloc (Nat.le_refl _) _).alloc (by simp) _).alloc (by simp; omega) _).alloc (by simp; omega) _ |>.alloc (by simp; omega) _
  have hsz : (((((w.alloc (.cells #[.int .i64 m] 3)).alloc (.cells #[.int .i64 0] 3)).alloc (.cells #[.int .i64 0] 24)).alloc (.cells #[.int .i64 0] 3)).alloc (.cells #[.slice A l.length cap] 29)).heap.size = w.heap.size + 5 := by simp
  obtain ⟨W0, hW0⟩ : ∃ W0, (((((w.alloc (.cells #[.int .i64 m] 3)).alloc (.cells #[.int .i64 0] 3)).alloc (.cells #[.int .i64 0] 24)).alloc (.cells #[.int .i64 0] 3)).alloc (.cells #[.slice A l.length cap] 29)) = W0 := ⟨_, rfl⟩
  rw [hW0] at b0 b1 b2 b3 b4 hB0 hsz ⊢
  clear hW0
  have hT : ∀ x ∈ items true l, x.1 ≤ 9223372036854775807 := fun x hx => (items_in l true x hx).2
  refine wpIn_rangeFunc_ownH rfl (by omega) (gf := 88) (lb := #[.pointer (some ⟨w.heap.size + 1 + 1 + 1 + 1, 0, none⟩)]) rfl trivial (enters_of Tryd.func88 (by kernel_rfl) rfl)
    (read_stops 5 (by omega) 9223372036854775807 (w.heap.size + 1 + 1 + 1 + 1) w.heap.size A l cap hT hc HM.out W0 (by omega) (by omega) b4 (HR.out.below hB0)) (fun h k => KR.trans h k) (krB (by omega) (by omega)) (Below.refl _ _) (fun _ => rfl)
    (CI w m) (CX w m) (ci_own w m _ (by omega)) (cx_own w m _ (by omega))
    ⟨⟨0, cnt_nil _ _, b3⟩, b0, b1, b2, by omega, hB0⟩
    (fun x a' W => ∃ Bx, w.heap.size + 1 + 1 + 1 + 1 < Bx ∧ Pair W Bx 138 (.int .i64 x.1.1) (.int .u8 (x.1.2.1.toNat : Int)) ∧ a' = { tmps := #[.slice A l.length cap, .int .i64 m, undef, .pointer (some ⟨w.heap.size, 0, none⟩), .pointer (some ⟨w.heap.size + 1, 0, none⟩), .pointer (some ⟨w.heap.size + 1 + 1, 0, none⟩), .pointer (some ⟨w.heap.size + 1 + 1 + 1, 0, none⟩), .pointer (some ⟨Bx, 0, none⟩), .bool x.1.2.2, .slice A l.length cap, .func (.func 88) #[] #[.pointer (some ⟨w.heap.size + 1 + 1 + 1 + 1, 0, none⟩)], .agg #[.int .i64 x.1.1, .int .u8 (x.1.2.1.toNat : Int)], .bool x.1.2.2, undef, undef, undef, undef, undef, undef, undef, undef, undef, undef, undef, undef, undef], defers := [] })
    (fun x a' _ X Y row hs hg hr => by obtain ⟨Bx, h1, h2, h3⟩ := hs; exact ⟨Bx, h1, pair_own Bx 138 (fun _ : Unit => Value.int .i64 x.1.1) (fun _ => Value.int .u8 (x.1.2.1.toNat : Int)) () X Y row h2 hg (fun r e => (hr r e).2), h3⟩)
    ?assign ?body ?done ?stop
  case assign =>
    rintro lo pre ⟨⟨n, c, ok⟩, hx0, hx1⟩ W K ⟨⟨t, h1, h2⟩, h3, h4, h5, hz, h6⟩ hK
    have hsW := h6.size
    dsimp only [encI, itV]
    gi_wp2
    exact hK _ _ ((KeepsOthers.alloc _ _).from _) ⟨(Below.refl _ W).alloc hsW _, Below.heap_alloc W _ _ (by omega)⟩ ⟨⟨t, h1, h2.alloc _⟩, h3.alloc _, h4.alloc _, h5.alloc _, by simp; omega, h6.alloc hsW _⟩ ⟨W.heap.size, by omega, World.alloc_heap_new W _, rfl⟩
  case body =>
    rintro lo pre ⟨⟨n, c, ok⟩, hx0, hx1⟩ a' W hl ⟨r, hr⟩ ⟨⟨t, h1, h2⟩, h3, h4, h5, hz, h6⟩ ⟨Bx, hBx, bX, rfl⟩ hlt
    have hsW := h6.size
    have f1 := h4.frozen
    have c1 := h4.cell
    have f2 := h5.frozen
    have c2 := h5.cell
    have hx0 : 0 ≤ n := hx0
    have hx1 : n ≤ 9223372036854775807 := hx1
    cases ok with
    | false =>
      have e1 : cnt m 0 (vals (pre ++ [⟨(n, c, false), hx0, hx1⟩])) = .form := by rw [vals_snoc, cnt_app, h1]; exact cnt_form _ _ _ _ rfl
      have e2 : ∀ r, cnt m 0 (vals (pre ++ [⟨(n, c, false), hx0, hx1⟩]) ++ r) = .form := fun r => by rw [cnt_app, e1]; rfl
      have E1 := Lib.hid e1; have E2 := Lib.hid e2; clear e1 e2 h1
      have g4 := h4.set (.int .i64 0)
      have g5 := (h5.other (show w.heap.size + 1 + 1 ≠ w.heap.size + 1 by omega) (.int .i64 0)).set (.int .i64 1)
      have g4 := g4.other (show w.heap.size + 1 ≠ w.heap.size + 1 + 1 by omega) (.int .i64 1)
      have f2' := (h5.other (show w.heap.size + 1 + 1 ≠ w.heap.size + 1 by omega) (.int .i64 0)).frozen
      have c2' := (h5.other (show w.heap.size + 1 + 1 ≠ w.heap.size + 1 by omega) (.int .i64 0)).cell
      have G4 := Lib.hid g4; have G5 := Lib.hid g5; clear g4 g5
      gi_wp2
      exact ⟨((KeepsOthers.setCell _ _ _).trans (KeepsOthers.setCell _ _ _)).from _, ⟨rfl, 1, by rw [E1.out]; rfl, fun r => by rw [E2.out, E1.out], G4.out, G5.out⟩, (h6.setCell (p := ⟨w.heap.size + 1, 0, none⟩) (by simp) _).setCell (p := ⟨w.heap.size + 1 + 1, 0, none⟩) (by simp; omega) _⟩
    | true =>
      obtain ⟨ht0, ht1⟩ : 0 ≤ t ∧ t ≤ m := by
        have := cnt_le m (vals pre) 0 t hm0 (fun x hx => by obtain ⟨y, _, rfl⟩ := List.mem_map.1 hx; exact y.2.1) h1
        omega
      have cX := bX.cell0
      have cM := h3.cell
      have cT := h2.cell
      have fT := h2.frozen
      obtain ⟨q, hq⟩ : ∃ q : Int, Hid (m - t = q) := ⟨_, rfl⟩
      have hq1 : wrap64 (m - t) = q := by rw [w64_in _ (by have := HM1.out; omega)]; exact hq.out
      by_cases hfull : q < n
      · have e1 : cnt m 0 (vals (pre ++ [⟨(n, c, true), hx0, hx1⟩])) = .full := by rw [vals_snoc, cnt_app, h1]; exact cnt_full _ _ _ _ rfl (by rw [hq.out]; exact hfull)
        have e2 : ∀ r, cnt m 0 (vals (pre ++ [⟨(n, c, true), hx0, hx1⟩]) ++ r) = .full := fun r => by rw [cnt_app, e1]; rfl
        have E1 := Lib.hid e1; have E2 := Lib.hid e2; clear e1 e2 h1
        have g4 := h4.set (.int .i64 0)
        have g5 := (h5.other (show w.heap.size + 1 + 1 ≠ w.heap.size + 1 by omega) (.int .i64 0)).set (.int .i64 4)
        have g4 := g4.other (show w.heap.size + 1 ≠ w.heap.size + 1 + 1 by omega) (.int .i64 4)
        have f2' := (h5.other (show w.heap.size + 1 + 1 ≠ w.heap.size + 1 by omega) (.int .i64 0)).frozen
        have c2' := (h5.other (show w.heap.size + 1 + 1 ≠ w.heap.size + 1 by omega) (.int .i64 0)).cell
        have G4 := Lib.hid g4; have G5 := Lib.hid g5; clear g4 g5
        gi_wp2
        exact ⟨((KeepsOthers.setCell _ _ _).trans (KeepsOthers.setCell _ _ _)).from _, ⟨rfl, 4, by rw [E1.out]; rfl, fun r => by rw [E2.out, E1.out], G4.out, G5.out⟩, (h6.setCell (p := ⟨w.heap.size + 1, 0, none⟩) (by simp) _).setCell (p := ⟨w.heap.size + 1 + 1, 0, none⟩) (by simp; omega) _⟩
      · have e1 : cnt m 0 (vals (pre ++ [⟨(n, c, true), hx0, hx1⟩])) = .ok (t + n) := by rw [vals_snoc, cnt_app, h1]; show cnt m t [_] = _; rw [cnt_on _ _ _ _ rfl (by rw [hq.out]; exact hfull), cnt_nil]
        obtain ⟨s, hs⟩ : ∃ s : Int, Hid (t + n = s) := ⟨_, rfl⟩
        have hs1 : wrap64 (t + n) = s := by rw [w64_in _ (by have := HM1.out; have := hq.out; omega)]; exact hs.out
        rw [hs.out] at e1
        have E1 := Lib.hid e1; clear e1 h1
        gi_wp2
        exact ⟨(KeepsOthers.setCell _ _ _).from _, ⟨(Below.refl w.heap.size W).setCell (p := ⟨w.heap.size + 1 + 1 + 1, 0, none⟩) (by simp; omega) _, Below.heap_setCell _ _ _ _ (by simp)⟩, ⟨s, E1.out, h2.set _⟩, h3.other (by omega) _, h4.other (by omega) _, h5.other (by omega) _, by rw [World.size_setCell]; omega, h6.setCell (p := ⟨w.heap.size + 1 + 1 + 1, 0, none⟩) (by simp; omega) _⟩
  case done =>
    rintro D ys W hD hys ⟨⟨t, h1, h2⟩, h3, h4, h5, hz, h6⟩ hK
    rw [hys] at h1
    have cT := h2.cell
    have f1 := h4.frozen
    have c1 := h4.cell
    have g5 := (h5.other (show w.heap.size + 1 + 1 ≠ w.heap.size + 1 by omega) (.int .i64 t))
    have f2' := g5.frozen
    have c2' := g5.cell
    have g4 := (h4.set (.int .i64 t)).other (show w.heap.size + 1 ≠ w.heap.size + 1 + 1 by omega) (.int .i64 0)
    have g5 := g5.set (.int .i64 0)
    have hK' := ((KeepsOthers.setCell W ⟨w.heap.size + 1, 0, none⟩ (.int .i64 t)).trans (KeepsOthers.setCell _ ⟨w.heap.size + 1 + 1, 0, none⟩ (.int .i64 0))).same D _ hK rfl
    have hb := (h6.setCell (p := ⟨w.heap.size + 1, 0, none⟩) (by simp) (.int .i64 t)).setCell (p := ⟨w.heap.size + 1 + 1, 0, none⟩) (by simp; omega) (.int .i64 0)
    have c4 := cell_kept g4.cell (grownBy_putObj' _ D (.deferred none)) (fun r e => by cases e; exact ⟨_, hK', rfl⟩)
    have c5 := cell_kept g5.cell (grownBy_putObj' _ D (.deferred none)) (fun r e => by cases e; exact ⟨_, hK', rfl⟩)
    have H1 := Lib.hid h1; have HK' := Lib.hid hK'; have HB := Lib.hid hb; have C4 := Lib.hid c4; have C5 := Lib.hid c5
    clear h1 hK' hb c4 c5 g4 g5
    gi_wp2
    refine ⟨by simp, .inl ⟨_, _, rfl, run_takeDeferred HK'.out, ?_⟩⟩
    have c4 := C4.out
    have c5 := C5.out
    refine ⟨.tuple #[.int .i64 t, .int .i64 0], ?_, by rw [H1.out]; rfl, HB.out.trans (belowK_b (w := w) (Nat.le_refl _) _ D _ _ (by omega) HK'.out rfl rfl)⟩
    simp [results, Tryd.f85, go_sem, c4, c5]
  case stop =>
    rintro D c pre W hD ⟨rest, hrest⟩ ⟨⟨rfl, e, h1, h2, h3, h4⟩, h6⟩ hK
    have h5 := h2 rest
    rw [hrest] at h5
    rw [← h5] at h1
    have c4 := cell_kept h3.cell (grownBy_putObj' _ D (.deferred none)) (fun r e => by cases e; exact ⟨_, hK, rfl⟩)
    have c5 := cell_kept h4.cell (grownBy_putObj' _ D (.deferred none)) (fun r e => by cases e; exact ⟨_, hK, rfl⟩)
    have C4 := Lib.hid c4; have C5 := Lib.hid c5; have H1 := Lib.hid h1
    clear c4 c5 h1 h5 h2
    gi_wp2
    refine ⟨by simp, .inl ⟨_, _, rfl, run_takeDeferred hK, ?_⟩⟩
    have c4 := C4.out
    have c5 := C5.out
    refine ⟨.tuple #[.int .i64 0, .int .i64 e], ?_, by rw [H1.out], h6.trans (belowK_b (w := w) (Nat.le_refl _) _ D _ _ (by omega) hK rfl rfl)⟩
    simp [results, Tryd.f85, go_sem, c4, c5]
end Go.Proofs.YtclgcfofgiejgaaDoor
