/- texts of YcCa -/
import Derived.BigRegion
import Derived.Test.YtpnobpligchpiaaGreatDoorYcF
namespace Go.Proofs.YtpnobpligchpiaaGreatDoor
set_option maxRecDepth 100000
open Go.RowKit
set_option linter.unusedVariables false
set_option linter.unusedSimpArgs false
abbrev heL (ps : List Pr) : List Value := ps.map fun x => .int .i64 (x.he : Int)
abbrev haL (ps : List Pr) : List Value := ps.map fun x => .int .i64 (x.ha : Int)
abbrev apL (ps : List Pr) : List Value := ps.map fun x => .bool x.ap
def wdL : List Pr → List Value
  | [] => []
  | x :: r => .int .i64 (x.fr : Int) :: .int .u32 x.su :: wdL r
theorem wdL_get : ∀ (ps : List Pr) (i : Nat) (x : Pr), ps[i]? = some x → (wdL ps)[i * 2]? = some (.int .i64 (x.fr : Int)) ∧ (wdL ps)[i * 2 + 1]? = some (.int .u32 x.su)
  | [], i, x, h => by cases h
  | y :: r, 0, x, h => by obtain rfl := Option.some.inj h; exact ⟨rfl, rfl⟩
  | y :: r, i + 1, x, h => by
    have := wdL_get r i x h
    rw [show (i + 1) * 2 = i * 2 + 1 + 1 by omega]
    exact this
theorem wdL_set : ∀ (ps : List Pr) (i : Nat) (x : Pr), i < ps.length → ((wdL ps).set (i * 2) (.int .i64 (x.fr : Int))).set (i * 2 + 1) (.int .u32 x.su) = wdL (ps.set i x)
  | [], i, x, h => by cases h
  | y :: r, 0, x, h => rfl
  | y :: r, i + 1, x, h => by
    have h2 : i < r.length := by simpa using h
    rw [show (i + 1) * 2 = i * 2 + 1 + 1 by omega]
    show _ :: _ :: ((wdL r).set (i * 2) _).set (i * 2 + 1) _ = _
    rw [wdL_set r i x h2]; rfl
theorem map_set_same {α β : Type} (f : α → β) {xs : List α} {i : Nat} {x y : α} (hx : xs[i]? = some x) (h : f y = f x) : (xs.set i y).map f = xs.map f := by
  rw [List.map_set, h]
  exact set_self _ _ _ (by rw [List.getElem?_map, hx]; rfl)
theorem wdL_same : ∀ {ps : List Pr} {i : Nat} {x y : Pr}, ps[i]? = some x → y.fr = x.fr → y.su = x.su → wdL (ps.set i y) = wdL ps
  | [], i, x, y, h, _, _ => by cases h
  | z :: r, 0, x, y, h, h1, h2 => by obtain rfl := Option.some.inj h; show _ :: _ :: _ = _ :: _ :: _; rw [h1, h2]
  | z :: r, i + 1, x, y, h, h1, h2 => by
    show _ :: _ :: wdL (r.set i y) = _ :: _ :: wdL r
    rw [wdL_same (ps := r) h h1 h2]
abbrev dcO (C : Cf) (lv : Value) (ck h a d p : Nat) (mv ev : Value) (cl : Bool) : Obj :=
  .cells #[.int .i64 C.n, .int .i64 C.me, .int .i64 C.id, .int .i64 C.dl, .int .i64 C.wi, .int .i64 C.g, .int .i64 C.o, .int .i64 C.br, .int .i64 C.wk, .int .i64 C.ro, lv, .int .i64 ck, .slice (some ⟨h, 0, none⟩) C.n C.n, .slice (some ⟨a, 0, none⟩) C.n C.n, .slice (some ⟨d, 0, none⟩) C.n C.n, .slice (some ⟨p, 0, none⟩) C.n C.n, mv, ev, .bool cl] 111 (0, 0)
structure Dm where
  C : Cf
  c : Nat
  h : Nat
  a : Nat
  d : Nat
  p : Nat
  lv : Value
  ls : List Rl
  mv : Value
  mo : Obj
  ev : Value
  eo : Obj
  s : Pl
def Dm.E (K : Dm) : List Ent := [(some K.c, dcO K.C K.lv K.s.ck K.h K.a K.d K.p K.mv K.ev K.s.cl), (some K.h, .cells (heL K.s.ps).toArray 3 (0, 0)), (some K.a, .cells (haL K.s.ps).toArray 3 (0, 0)), (some K.d, .cells (wdL K.s.ps).toArray 137 (0, 0)), (some K.p, .cells (apL K.s.ps).toArray 4 (0, 0)), (K.mv.ownBlock, K.mo), (K.ev.ownBlock, K.eo)]
def Dm.bl (K : Dm) : List (Option Nat) := [some K.c, some K.h, some K.a, some K.d, some K.p, K.mv.ownBlock, K.ev.ownBlock]
def DO (K : Dm) (k : Nat) : Prop := some k ∈ K.bl
def DB (K : Dm) (k : Nat) : Prop := LB K.lv K.ls k ∨ DO K k
theorem DO.ent {K : Dm} {k : Nat} (h : DO K k) : ∃ (i : Nat) (o : Obj), K.E[i]? = some (some k, o) := by
  have h2 : some k ∈ K.E.map Prod.fst := h
  obtain ⟨e, he, hk⟩ := List.mem_map.1 h2
  obtain ⟨i, hi⟩ := List.mem_iff_getElem?.1 he
  exact ⟨i, e.2, by rw [hi, ← hk]⟩
theorem ent_DO {K : Dm} {k i : Nat} {o : Obj} (h : K.E[i]? = some (some k, o)) : DO K k := show some k ∈ K.E.map Prod.fst from List.mem_map.2 ⟨(some k, o), List.mem_of_getElem? h, rfl⟩
structure DM (w0 w : World) (K : Dm) : Prop where
  bu : BU w0 w K.E
  km : RowE 34 1 K.mv K.s.ms.length (msL K.s.ms) K.mo
  ke : RowE 119 3 K.ev K.s.es.length (rwsL K.s.es) K.eo
  lr : LR w w0.heap.size K.lv K.ls
  ln : K.ls.map Rl.l = K.s.L
  far : ∀ k, LB K.lv K.ls k → ¬ DO K k
def GoesD (w0 w : World) (K : Dm) (w' : World) (s' : Pl) : Prop :=
  ∃ K', K'.s = s' ∧ K'.C = K.C ∧ K'.c = K.c ∧ DM w0 w' K' ∧ Lv w w' (DB K) ∧ ∀ k, DB K' k → DB K k ∨ w.heap.size ≤ k
section
variable {w0 w w' : World} {K : Dm}
theorem DM.be (h : DM w0 w K) : Below w0.heap.size w0 w := h.bu.be
theorem DM.get (h : DM w0 w K) {k : Nat} (hk : DO K k) : w0.heap.size ≤ k ∧ k < w.heap.size := by
  obtain ⟨i, o, hi⟩ := hk.ent
  exact ⟨(h.bu.get i k o hi).1, h.bu.lt hi⟩
theorem DM.lt (h : DM w0 w K) {k : Nat} (hk : DB K k) : w0.heap.size ≤ k ∧ k < w.heap.size := by
  rcases hk with hk | hk
  · exact h.lr.lt hk
  · exact h.get hk
theorem DM.keep {B : Nat → Prop} (h : DM w0 w K) (g : Lv w w' B) (hb : ∀ k, B k → w0.heap.size ≤ k) (hn : ∀ k, DB K k → ¬ B k) : DM w0 w' K := by
  have hs : ∀ k, DB K k → w'.heap[k]? = w.heap[k]? := fun k hk => g.block k (h.lt hk).2 (hn k hk)
  exact ⟨⟨h.be.trans (g.to_below h.be.size hb), fun i k o hi => ⟨(h.bu.get i k o hi).1, (hs k (.inr (ent_DO hi))).trans (h.bu.get i k o hi).2⟩, h.bu.inj⟩, h.km, h.ke, h.lr.same fun k hk => hs k (.inl hk), h.ln, h.far⟩
theorem DM.belows (h : DM w0 w K) (hb : Below w.heap.size w w') : DM w0 w' K := h.keep (B := noB) (Lv.of_below hb) (fun k hk => hk.elim) (fun k _ hk => hk)
theorem DM.drew (h : DM w0 w K) : DM w0 w.drew K := h.belows (Below.refl _ _).drew
theorem DM.goes (h : DM w0 w K) (hb : Below w.heap.size w w') : GoesD w0 w K w' K.s := ⟨K, rfl, rfl, rfl, h.belows hb, Lv.of_below hb, fun k hk => .inl hk⟩
theorem goesd_then {w1 : World} {K1 : Dm} {s' : Pl} (h1 : Lv w w1 (DB K)) (h2 : ∀ k, DB K1 k → DB K k ∨ w.heap.size ≤ k) (hC : K1.C = K.C) (hc : K1.c = K.c) (g : GoesD w0 w1 K1 w' s') : GoesD w0 w K w' s' := by
  obtain ⟨K', e1, e2, e3, g1, g2, g3⟩ := g
  exact ⟨K', e1, e2.trans hC, e3.trans hc, g1, h1.trans g2 h2, fun k hk => (g3 k hk).elim (h2 k) (fun e => .inr (Nat.le_trans h1.size e))⟩
theorem GoesD.drew {s' : Pl} (g : GoesD w0 w K w' s') : GoesD w0 w K w'.drew s' := by
  obtain ⟨K', e1, e2, e3, g1, g2, g3⟩ := g
  exact ⟨K', e1, e2, e3, g1.drew, g2.trans (Lv.of_below (B := noB) (Below.refl _ _).drew) (fun k hk => hk.elim), g3⟩
theorem GoesD.belows {w2 : World} {s' : Pl} (g : GoesD w0 w K w' s') (hb : Below w'.heap.size w' w2) : GoesD w0 w K w2 s' := by
  obtain ⟨K', e1, e2, e3, g1, g2, g3⟩ := g
  exact ⟨K', e1, e2, e3, g1.belows hb, g2.trans (Lv.of_below (B := noB) hb) (fun k hk => hk.elim), g3⟩
theorem GoesD.step {P : Program} {f : Nat} {args : Array Value} {w1 : World} {s s' : Pl} {Φ : Ending → Prop} (g : GoesD w0 w K w1 s) (H : ∀ K1 : Dm, K1.s = s → K1.C = K.C → K1.c = K.c → DM w0 w1 K1 → Calls P f args w1 fun e w' => Φ e ∧ GoesD w0 w1 K1 w' s') :
    Calls P f args w1 fun e w' => Φ e ∧ GoesD w0 w K w' s' := by
  obtain ⟨K1, e1, e2, e3, g1, g2, g3⟩ := g
  exact (H K1 e1 e2 e3 g1).mono fun e w' ⟨he, h⟩ => ⟨he, goesd_then g2 g3 e2 e3 h⟩
theorem DM.cell (h : DM w0 w K) (j : Nat) (v : Value) (hv : (#[.int .i64 K.C.n, .int .i64 K.C.me, .int .i64 K.C.id, .int .i64 K.C.dl, .int .i64 K.C.wi, .int .i64 K.C.g, .int .i64 K.C.o, .int .i64 K.C.br, .int .i64 K.C.wk, .int .i64 K.C.ro, K.lv, .int .i64 K.s.ck, .slice (some ⟨K.h, 0, none⟩) K.C.n K.C.n, .slice (some ⟨K.a, 0, none⟩) K.C.n K.C.n, .slice (some ⟨K.d, 0, none⟩) K.C.n K.C.n, .slice (some ⟨K.p, 0, none⟩) K.C.n K.C.n, K.mv, K.ev, .bool K.s.cl] : Array Value)[j]? = some v) : w.cell? ⟨K.c, j, none⟩ = some v := h.bu.cell (i := 0) rfl hv
theorem DM.fz (h : DM w0 w K) (j : Nat) : w.frozen? ⟨K.c, j, none⟩ = false := h.bu.frozen (i := 0) rfl j
theorem DM.fzh (h : DM w0 w K) (j : Nat) : w.frozen? ⟨K.h, j, none⟩ = false := h.bu.frozen (i := 1) rfl j
theorem DM.fza (h : DM w0 w K) (j : Nat) : w.frozen? ⟨K.a, j, none⟩ = false := h.bu.frozen (i := 2) rfl j
theorem DM.fzd (h : DM w0 w K) (j : Nat) : w.frozen? ⟨K.d, j, none⟩ = false := h.bu.frozen (i := 3) rfl j
theorem DM.fzp (h : DM w0 w K) (j : Nat) : w.frozen? ⟨K.p, j, none⟩ = false := h.bu.frozen (i := 4) rfl j
theorem DM.peer (h : DM w0 w K) (i : Nat) (x : Pr) (hx : K.s.ps[i]? = some x) : w.cell? ⟨K.h, i, none⟩ = some (.int .i64 (x.he : Int)) ∧ w.cell? ⟨K.a, i, none⟩ = some (.int .i64 (x.ha : Int)) ∧ w.cell? ⟨K.d, i * 2, none⟩ = some (.int .i64 (x.fr : Int)) ∧ w.cell? ⟨K.d, i * 2 + 1, none⟩ = some (.int .u32 x.su) ∧ w.cell? ⟨K.p, i, none⟩ = some (.bool x.ap) := by
  refine ⟨h.bu.cell (i := 1) rfl ?_, h.bu.cell (i := 2) rfl ?_, h.bu.cell (i := 3) rfl ?_, h.bu.cell (i := 3) rfl ?_, h.bu.cell (i := 4) rfl ?_⟩
  · rw [List.getElem?_toArray, List.getElem?_map, hx]; rfl
  · rw [List.getElem?_toArray, List.getElem?_map, hx]; rfl
  · rw [List.getElem?_toArray]; exact (wdL_get _ i x hx).1
  · rw [List.getElem?_toArray]; exact (wdL_get _ i x hx).2
  · rw [List.getElem?_toArray, List.getElem?_map, hx]; rfl
theorem DM.marks (h : DM w0 w K) : ∃ A cap, K.mv = .slice A K.s.ms.length cap ∧ K.s.ms.length ≤ cap ∧ cap ≤ maxLen := h.km.val
theorem DM.mark (h : DM w0 w K) {A : Option Addr} {c : Nat} (hv : K.mv = .slice A K.s.ms.length c) (j : Nat) (u : Int) (hj : K.s.ms[j]? = some u) : ∃ b, A = some ⟨b, 0, none⟩ ∧ b < w.heap.size ∧ w.cell? ⟨b, j, none⟩ = some (.int .u32 u) := by
  obtain ⟨b, e, hb, hc, _⟩ := h.bu.rowcell h.km (i := 5) rfl hv j (.int .u32 u) (by unfold msL; rw [List.getElem?_map, hj]; rfl)
  exact ⟨b, e, cell_lt hc, hc⟩
theorem DM.events (h : DM w0 w K) : ∃ A cap, K.ev = .slice A K.s.es.length cap ∧ K.s.es.length ≤ cap ∧ cap ≤ maxLen := h.ke.val
theorem DM.llen (h : DM w0 w K) : K.ls.length = K.s.L.length := by rw [← h.ln, List.length_map]
theorem DM.line (h : DM w0 w K) (j : Nat) (l : List UInt8) (hl : K.s.L[j]? = some l) : ∃ v, K.ls[j]? = some ⟨v, l⟩ := by
  rw [← h.ln, List.getElem?_map] at hl
  cases e : K.ls[j]? with
  | none => rw [e] at hl; cases hl
  | some x =>
    rw [e] at hl
    obtain ⟨v, l'⟩ := x
    obtain rfl : l' = l := Option.some.inj hl
    exact ⟨v, rfl⟩
theorem DM.turn (h : DM w0 w K) (K' : Dm) (hC : K'.C = K.C) (hc : K'.c = K.c) (hv : K'.lv = K.lv) (hl : K'.ls = K.ls) (hL : K'.s.L = K.s.L) (hb : BU w0 w' K'.E) (g : Lv w w' (DO K)) (ho : ∀ k, DO K' k → DO K k ∨ w.heap.size ≤ k)
    (mk : RowE 34 1 K'.mv K'.s.ms.length (msL K'.s.ms) K'.mo) (ek : RowE 119 3 K'.ev K'.s.es.length (rwsL K'.s.es) K'.eo) : GoesD w0 w K w' K'.s := by
  have hd : DM w0 w' K' := by
    refine ⟨hb, mk, ek, ?_, by rw [hl, hL]; exact h.ln, ?_⟩
    · rw [hv, hl]; exact h.lr.same fun k hk => g.block k (h.lr.lt hk).2 (h.far k hk)
    · rw [hv, hl]
      exact fun k hk hk2 => (ho k hk2).elim (h.far k hk) (fun e => by have := (h.lr.lt hk).2; omega)
  refine ⟨K', rfl, hC, hc, hd, ⟨g.os, g.tape, g.output, g.size, fun k hk hn => g.block k hk (fun e => hn (.inr e))⟩, fun k hk => ?_⟩
  rcases hk with hk | hk
  · rw [hv, hl] at hk; exact .inl (.inl hk)
  · exact (ho k hk).imp .inr id
theorem DM.set_clock (h : DM w0 w K) (n : Nat) : GoesD w0 w K (w.setCell ⟨K.c, 11, none⟩ (.int .i64 (n : Int))) { K.s with ck := n } :=
  h.turn { K with s := { K.s with ck := n } } rfl rfl rfl rfl rfl (h.bu.store 0 K.c _ _ rfl 11 _) (lv_store _ _ _ _ (by simp [DO, Dm.bl])) (fun k hk => .inl hk) h.km h.ke
theorem DM.set_closed (h : DM w0 w K) : GoesD w0 w K (w.setCell ⟨K.c, 18, none⟩ (.bool true)) { K.s with cl := true } :=
  h.turn { K with s := { K.s with cl := true } } rfl rfl rfl rfl rfl (h.bu.store 0 K.c _ _ rfl 18 _) (lv_store _ _ _ _ (by simp [DO, Dm.bl])) (fun k hk => .inl hk) h.km h.ke
theorem DM.set_told (h : DM w0 w K) : GoesD w0 w K (w.setCell ⟨K.c, 17, none⟩ (.slice none 0 0)) (toldP K.s) :=
  h.turn { K with ev := .slice none 0 0, s := toldP K.s } rfl rfl rfl rfl rfl ((h.bu.store 0 K.c _ _ rfl 17 _).drop 6 K.eo) (lv_store _ _ _ _ (by simp [DO, Dm.bl])) (fun k hk => .inl (by
    have hk2 : some k ∈ [some K.c, some K.h, some K.a, some K.d, some K.p, K.mv.ownBlock, none] := hk
    have : some k ∈ [some K.c, some K.h, some K.a, some K.d, some K.p, K.mv.ownBlock] := by simpa using hk2
    exact List.mem_append_left [K.ev.ownBlock] this)) h.km (RowE.nil _ _ _)
theorem DM.set_he (h : DM w0 w K) (i : Nat) (x : Pr) (hx : K.s.ps[i]? = some x) (n : Nat) : GoesD w0 w K (w.setCell ⟨K.h, i, none⟩ (.int .i64 (n : Int))) { K.s with ps := K.s.ps.set i { x with he := n } } := by
  refine h.turn { K with s := { K.s with ps := K.s.ps.set i { x with he := n } } } rfl rfl rfl rfl rfl ?_ (lv_store _ _ _ _ (by simp [DO, Dm.bl])) (fun k hk => .inl hk) h.km h.ke
  have := h.bu.store 1 K.h _ _ rfl i (.int .i64 (n : Int))
  rw [List.setIfInBounds_toArray] at this
  have e1 : (heL K.s.ps).set i (.int .i64 (n : Int)) = heL (K.s.ps.set i { x with he := n }) := by unfold heL; rw [List.map_set]
  rw [e1] at this
  unfold Dm.E at this ⊢
  dsimp only at this ⊢
  rw [show haL (K.s.ps.set i { x with he := n }) = haL K.s.ps from map_set_same _ hx rfl, show apL (K.s.ps.set i { x with he := n }) = apL K.s.ps from map_set_same _ hx rfl, show wdL (K.s.ps.set i { x with he := n }) = wdL K.s.ps from wdL_same hx rfl rfl]
  exact this
theorem DM.set_ha (h : DM w0 w K) (i : Nat) (x : Pr) (hx : K.s.ps[i]? = some x) (n : Nat) : GoesD w0 w K (w.setCell ⟨K.a, i, none⟩ (.int .i64 (n : Int))) { K.s with ps := K.s.ps.set i { x with ha := n } } := by
  refine h.turn { K with s := { K.s with ps := K.s.ps.set i { x with ha := n } } } rfl rfl rfl rfl rfl ?_ (lv_store _ _ _ _ (by simp [DO, Dm.bl])) (fun k hk => .inl hk) h.km h.ke
  have := h.bu.store 2 K.a _ _ rfl i (.int .i64 (n : Int))
  rw [List.setIfInBounds_toArray] at this
  have e1 : (haL K.s.ps).set i (.int .i64 (n : Int)) = haL (K.s.ps.set i { x with ha := n }) := by unfold haL; rw [List.map_set]
  rw [e1] at this
  unfold Dm.E at this ⊢
  dsimp only at this ⊢
  rw [show heL (K.s.ps.set i { x with ha := n }) = heL K.s.ps from map_set_same _ hx rfl, show apL (K.s.ps.set i { x with ha := n }) = apL K.s.ps from map_set_same _ hx rfl, show wdL (K.s.ps.set i { x with ha := n }) = wdL K.s.ps from wdL_same hx rfl rfl]
  exact this
theorem DM.set_ap (h : DM w0 w K) (i : Nat) (x : Pr) (hx : K.s.ps[i]? = some x) : GoesD w0 w K (w.setCell ⟨K.p, i, none⟩ (.bool true)) { K.s with ps := K.s.ps.set i { x with ap := true } } := by
  refine h.turn { K with s := { K.s with ps := K.s.ps.set i { x with ap := true } } } rfl rfl rfl rfl rfl ?_ (lv_store _ _ _ _ (by simp [DO, Dm.bl])) (fun k hk => .inl hk) h.km h.ke
  have := h.bu.store 4 K.p _ _ rfl i (.bool true)
  rw [List.setIfInBounds_toArray] at this
  have e1 : (apL K.s.ps).set i (.bool true) = apL (K.s.ps.set i { x with ap := true }) := by unfold apL; rw [List.map_set]
  rw [e1] at this
  unfold Dm.E at this ⊢
  dsimp only at this ⊢
  rw [show heL (K.s.ps.set i { x with ap := true }) = heL K.s.ps from map_set_same _ hx rfl, show haL (K.s.ps.set i { x with ap := true }) = haL K.s.ps from map_set_same _ hx rfl, show wdL (K.s.ps.set i { x with ap := true }) = wdL K.s.ps from wdL_same hx rfl rfl]
  exact this
theorem DM.set_wd (h : DM w0 w K) (i : Nat) (x : Pr) (hx : K.s.ps[i]? = some x) (f : Nat) (u : Int) : GoesD w0 w K ((w.setCell ⟨K.d, i * 2, none⟩ (.int .i64 (f : Int))).setCell ⟨K.d, i * 2 + 1, none⟩ (.int .u32 u)) { K.s with ps := K.s.ps.set i { x with fr := f, su := u } } := by
  refine h.turn { K with s := { K.s with ps := K.s.ps.set i { x with fr := f, su := u } } } rfl rfl rfl rfl rfl ?_ ((lv_store _ _ _ _ (by simp [DO, Dm.bl])).trans (lv_store _ K.d _ _ (B := fun k => k = K.d) rfl) (fun k hk => .inl (by rw [hk]; simp [DO, Dm.bl]))) (fun k hk => .inl hk) h.km h.ke
  have := (h.bu.store 3 K.d _ _ rfl (i * 2) (.int .i64 (f : Int))).store 3 K.d _ _ rfl (i * 2 + 1) (.int .u32 u)
  rw [List.setIfInBounds_toArray, List.setIfInBounds_toArray] at this
  have e1 : ((wdL K.s.ps).set (i * 2) (.int .i64 (f : Int))).set (i * 2 + 1) (.int .u32 u) = wdL (K.s.ps.set i { x with fr := f, su := u }) := wdL_set K.s.ps i { x with fr := f, su := u } (List.getElem?_eq_some_iff.1 hx).1
  rw [e1] at this
  unfold Dm.E at this ⊢
  dsimp only at this ⊢
  rw [show heL (K.s.ps.set i { x with fr := f, su := u }) = heL K.s.ps from map_set_same _ hx rfl, show haL (K.s.ps.set i { x with fr := f, su := u }) = haL K.s.ps from map_set_same _ hx rfl, show apL (K.s.ps.set i { x with fr := f, su := u }) = apL K.s.ps from map_set_same _ hx rfl]
  exact this
theorem DM.push_mark (h : DM w0 w K) {w1 : World} (v' : Value) (o' : Obj) (u : Int) (k' : Nat) (hk : v'.ownBlock = some k') (R : RowE 34 1 v' (K.s.ms.length + 1) (msL K.s.ms ++ [.int .u32 u]) o') (hb : BU w0 w1 (K.E.set 5 (v'.ownBlock, o'))) (g : w.grownBy w1 K.mv.ownBlock) (hn : K.mv.ownBlock = some k' ∨ w.heap.size ≤ k') :
    GoesD w0 w K (w1.setCell ⟨K.c, 16, none⟩ v') { K.s with ms := K.s.ms ++ [u] } := by
  refine h.turn { K with mv := v', mo := o', s := { K.s with ms := K.s.ms ++ [u] } } rfl rfl rfl rfl rfl (hb.store 0 K.c _ _ rfl 16 _) ((Lv.of_grown g fun k e => by simp [DO, Dm.bl, e]).trans (lv_store w1 K.c 16 v' (B := fun k => k = K.c) rfl) (fun k e => .inl (by rw [e]; simp [DO, Dm.bl]))) (fun k hk2 => ?_) ?_ h.ke
  · have hk3 : some k ∈ [some K.c, some K.h, some K.a, some K.d, some K.p, v'.ownBlock, K.ev.ownBlock] := hk2
    rw [hk] at hk3
    show some k ∈ [some K.c, some K.h, some K.a, some K.d, some K.p, K.mv.ownBlock, K.ev.ownBlock] ∨ _
    simp only [List.mem_cons, List.not_mem_nil, or_false] at hk3 ⊢
    rcases hk3 with e | e | e | e | e | e | e
    · exact .inl (.inl e)
    · exact .inl (.inr (.inl e))
    · exact .inl (.inr (.inr (.inl e)))
    · exact .inl (.inr (.inr (.inr (.inl e))))
    · exact .inl (.inr (.inr (.inr (.inr (.inl e)))))
    · injection e with e; subst e
      exact hn.imp (fun e => .inr (.inr (.inr (.inr (.inr (.inl e.symm)))))) id
    · exact .inl (.inr (.inr (.inr (.inr (.inr (.inr e))))))
  · show RowE _ 1 v' (K.s.ms ++ [u]).length (msL (K.s.ms ++ [u])) o'
    rw [List.length_append, msL, List.map_append]; exact R
theorem DM.push_event (h : DM w0 w K) {w1 : World} (v' : Value) (o' : Obj) (e : Ev) (k' : Nat) (hk : v'.ownBlock = some k') (R : RowE 119 3 v' (K.s.es.length + 1) (rwsL K.s.es ++ rwL e) o') (hb : BU w0 w1 (K.E.set 6 (v'.ownBlock, o'))) (g : w.grownBy w1 K.ev.ownBlock) (hn : K.ev.ownBlock = some k' ∨ w.heap.size ≤ k') :
    GoesD w0 w K (w1.setCell ⟨K.c, 17, none⟩ v') { K.s with es := K.s.es ++ [e] } := by
  refine h.turn { K with ev := v', eo := o', s := { K.s with es := K.s.es ++ [e] } } rfl rfl rfl rfl rfl (hb.store 0 K.c _ _ rfl 17 _) ((Lv.of_grown g fun k e => by simp [DO, Dm.bl, e]).trans (lv_store w1 K.c 17 v' (B := fun k => k = K.c) rfl) (fun k e => .inl (by rw [e]; simp [DO, Dm.bl]))) (fun k hk2 => ?_) h.km ?_
  · have hk3 : some k ∈ [some K.c, some K.h, some K.a, some K.d, some K.p, K.mv.ownBlock, v'.ownBlock] := hk2
    rw [hk] at hk3
    show some k ∈ [some K.c, some K.h, some K.a, some K.d, some K.p, K.mv.ownBlock, K.ev.ownBlock] ∨ _
    simp only [List.mem_cons, List.not_mem_nil, or_false] at hk3 ⊢
    rcases hk3 with e | e | e | e | e | e | e
    · exact .inl (.inl e)
    · exact .inl (.inr (.inl e))
    · exact .inl (.inr (.inr (.inl e)))
    · exact .inl (.inr (.inr (.inr (.inl e))))
    · exact .inl (.inr (.inr (.inr (.inr (.inl e)))))
    · exact .inl (.inr (.inr (.inr (.inr (.inr (.inl e))))))
    · injection e with e; subst e
      exact hn.imp (fun e => .inr (.inr (.inr (.inr (.inr (.inr e.symm)))))) id
  · show RowE _ 3 v' (K.s.es ++ [e]).length (rwsL (K.s.es ++ [e])) o'
    rw [List.length_append, rwsL_append]
    have : rwsL [e] = rwL e := by show rwL e ++ [] = _; rw [List.append_nil]
    rw [this]; exact R
theorem DM.put_line (h : DM w0 w K) {g n cap : Nat} {cur : Array Value} (hlv : K.lv = .slice (some ⟨g, 0, none⟩) n cap) (hr : w.heap[g]? = some (lineO cur)) (p : Nat) (v : Value) (l : List UInt8) (hm : K.ls[p]? = some ⟨v, l⟩) (v' : Value) (l' : List UInt8) (R : RPut w w' g p cur v v') (ho : OB w' w0.heap.size v' l') :
    GoesD w0 w K w' { K.s with L := K.s.L.set p l' } := by
  have hg : LB K.lv K.ls g := .inl (by rw [hlv]; rfl)
  have hvB : ∀ k, v.ownBlock = some k → LB K.lv K.ls k := fun k hk => .inr ⟨_, List.mem_of_getElem? hm, hk⟩
  have hlr := h.lr
  rw [hlv] at hlr
  have hlr2 := hlr.put hr p ⟨v, l⟩ hm v' l' R ho
  have hnB : ∀ k, LB K.lv (K.ls.set p ⟨v', l'⟩) k → LB K.lv K.ls k ∨ w.heap.size ≤ k := fun k hk => by
    rw [hlv] at hk ⊢
    exact LB.put (m := ⟨v, l⟩) hm R hk
  have hs : ∀ k, DO K k → w'.heap[k]? = w.heap[k]? := fun k hk => R.block k (h.get hk).2 (fun e => h.far k (e ▸ hg) hk) (fun e => h.far k (hvB k e) hk)
  refine ⟨{ K with ls := K.ls.set p ⟨v', l'⟩, s := { K.s with L := K.s.L.set p l' } }, rfl, rfl, rfl, ⟨⟨?_, fun i k o hi => ⟨(h.bu.get i k o hi).1, (hs k (ent_DO (K := K) hi)).trans (h.bu.get i k o hi).2⟩, h.bu.inj⟩, h.km, h.ke, by show LR _ _ K.lv _; rw [hlv]; exact hlr2, ?_, fun k hk hk2 => ?_⟩, ⟨R.os, R.tape, R.output, R.size, fun k hk hn => R.block k hk (fun e => hn (.inl (e ▸ hg))) (fun e => hn (.inl (hvB k e)))⟩, fun k hk => ?_⟩
  · exact h.be.trans (R.below h.be.size (h.lr.lt hg).1 (fun k hk => (h.lr.lt (hvB k hk)).1))
  · show (K.ls.set p ⟨v', l'⟩).map Rl.l = K.s.L.set p l'
    rw [List.map_set, h.ln]
  · exact (hnB k hk).elim (fun e => h.far k e hk2) (fun e => by have := (h.get (K := K) hk2).2; omega)
  · rcases hk with hk | hk
    · exact (hnB k hk).imp .inl id
    · exact .inl (.inr hk)
end
theorem within_any (n low high : Int) (b : Bool) (hb : b = true ↔ low ≤ n ∧ n ≤ high) (w : World) : Calls Tryz.prog 66 #[.int .i64 n, .int .i64 low, .int .i64 high] w fun e w' => e = .returned (.bool b) ∧ w = w' := by
  have HB := Lib.hid hb; clear hb
  by_cases h0 : low ≤ n
  · by_cases h1 : n ≤ high
    · have HE := Lib.hid (HB.out.2 ⟨h0, h1⟩)
      go_enter Tryz.func66, Tryz.ntmps66
      go_wp2
      go_ret
      exact ⟨by rw [HE.out]; first | rfl | (simp; omega), rfl⟩
    · have HE := Lib.hid (show b = false by rw [Bool.eq_false_iff]; exact fun h => h1 (HB.out.1 h).2)
      go_enter Tryz.func66, Tryz.ntmps66
      go_wp2
      go_ret
      exact ⟨by rw [HE.out]; first | rfl | (simp; omega), rfl⟩
  · have HE := Lib.hid (show b = false by rw [Bool.eq_false_iff]; exact fun h => h0 (HB.out.1 h).1)
    have h0' : n < low := by omega
    go_enter Tryz.func66, Tryz.ntmps66
    go_wp2
    go_ret
    exact ⟨by rw [HE.out]; first | rfl | (simp; omega), rfl⟩
theorem eqraw_same (k p f : Int) (w : World) : Calls Tryz.prog 90 #[.agg #[.int .i64 k, .int .i64 p, .int .i64 f], .agg #[.int .i64 k, .int .i64 p, .int .i64 f]] w fun e w' => e = .returned (.bool true) ∧ Below w.heap.size w w' := by
  go_enter Tryz.func90, Tryz.ntmps90
  go_wp2
  go_ret
  exact ⟨by first | rfl | simp, ((Below.refl _ _).alloc (Nat.le_refl _) _).alloc (by simp) _⟩
theorem doc_told (w : World) (c : Nat) (v : Value) (h : w.cell? ⟨c, 17, none⟩ = some v) (hf : w.frozen? ⟨c, 17, none⟩ = false) : Calls Tryz.prog 34 #[pB c] w fun e w' => e = .returned v ∧ w.setCell ⟨c, 17, none⟩ (.slice none 0 0) = w' := by
  go_enter Tryz.func34, Tryz.ntmps34
  go_wp2
  go_ret
  exact ⟨rfl, rfl⟩
theorem DM.ll {w0 w : World} {K : Dm} (h : DM w0 w K) {n : Nat} (hl : ∀ l ∈ K.s.L, l.length ≤ n) : ∀ m ∈ K.ls, m.l.length ≤ n := fun m hm => hl m.l (by rw [← h.ln]; exact List.mem_map_of_mem hm)
theorem doc_front (w0 w : World) (K : Dm) (h : DM w0 w K) (h0 : 0 < K.s.L.length) (h8 : K.s.L.length ≤ 8) (hl : ∀ l ∈ K.s.L, l.length ≤ 1000) (F : Nat) (hF : frontP K.s.L = F) :
    Calls Tryz.prog 70 #[pB K.c] w fun e w' => e = .returned (.int .i64 F) ∧ w = w' := by
  have HR := Lib.hid (rfront_any w w0.heap.size K.lv K.ls h.lr (by rw [h.llen]; exact h0) (by rw [h.llen]; exact h8) (h.ll hl) F (by rw [h.ln]; exact hF))
  have c10 := h.cell 10 _ rfl
  clear h
  go_enter Tryz.func70, Tryz.ntmps70
  go_wp2_with (first
    | (go_at_call 111; with_reducible refine (HR.out).mono ?_; rintro e w1 ⟨rfl, rfl⟩))
  go_ret
  exact ⟨rfl, rfl⟩
theorem DM.lines {w0 w : World} {K : Dm} (h : DM w0 w K) (h0 : 0 < K.s.L.length) (n : Nat) (hn : K.s.L.length = n) : ∃ g cap cur, K.lv = .slice (some ⟨g, 0, none⟩) n cap ∧ n ≤ cap ∧ cap ≤ maxLen ∧ w.heap[g]? = some (lineO cur) ∧ ∀ j (hj : j < K.ls.length), cur[j]? = some K.ls[j].v :=
  h.lr.form (by rw [h.llen]; exact h0) n (by rw [h.llen]; exact hn)
theorem DM.line_at {w0 w : World} {K : Dm} (h : DM w0 w K) {g n cap : Nat} (hv : K.lv = .slice (some ⟨g, 0, none⟩) n cap) (j : Nat) (l : List UInt8) (hl : K.s.L[j]? = some l) (H : Nat) (hH : l.length = H) :
    ∃ A c, w.cell? ⟨g, j, none⟩ = some (.slice A H c) ∧ RB w w.heap.size A l ∧ K.ls[j]? = some ⟨.slice A H c, l⟩ ∧ H ≤ c ∧ c ≤ maxLen := by
  obtain ⟨v, hm⟩ := h.line j l hl
  have hlr := h.lr
  rw [hv] at hlr
  obtain ⟨A, c, a1, a2, a3⟩ := hlr.line_at j _ hm H hH
  obtain rfl : v = .slice A H c := a2
  obtain ⟨A', c', e, b1, b2, -⟩ := (hlr.line _ (List.mem_of_getElem? hm)).1.form_n H hH
  injection e with e3 e4 e5
  subst e5
  exact ⟨A, c, a1, a3, hm, b1, b2⟩
theorem doc_head (w0 w : World) (K : Dm) (h : DM w0 w K) (l : List UInt8) (hl : K.s.L[K.C.me]? = some l) (hn : K.s.L.length = K.C.n) (H : Nat) (hH : l.length = H) :
    Calls Tryz.prog 69 #[pB K.c] w fun e w' => e = .returned (.int .i64 H) ∧ w' = w.drew := by
  have hme : K.C.me < K.s.L.length := (List.getElem?_eq_some_iff.1 hl).1
  obtain ⟨g, cap, cur, hv, -, -, -, -⟩ := h.lines (by omega) _ rfl
  obtain ⟨A, c, a1, -, -, -, -⟩ := h.drew.line_at hv _ l hl H hH
  have c10 := h.drew.cell 10 _ rfl
  have c1 := h.drew.cell 1 _ rfl
  rw [hv] at c10
  obtain ⟨me, hm⟩ : ∃ me, K.C.me = me := ⟨_, rfl⟩
  obtain ⟨n, hn2⟩ : ∃ n, K.s.L.length = n := ⟨_, rfl⟩
  obtain ⟨kc, hkc⟩ : ∃ kc, K.c = kc := ⟨_, rfl⟩
  rw [hm] at c1 a1 hme
  rw [hn2] at c10 hme
  rw [hkc] at c1 c10 ⊢
  have hmi : (me : Int) < (n : Int) := by omega
  clear h hl hn hv hm hn2 hkc
  go_enter Tryz.func69, Tryz.ntmps69
  go_wp2_with fail
  go_big_region
  go_wp2_with fail
  go_ret
  exact ⟨rfl, rfl⟩
theorem raw_new (w : World) (k p f : Int) : ∀ j u, [Value.int .i64 k, .int .i64 p, .int .i64 f][j]? = some u → (w.alloc (Obj.cells #[.int .i64 k, .int .i64 p, .int .i64 f] 119)).cell? ((⟨w.heap.size, 0, none⟩ : Addr).add j) = some u := fun j u hj => by
  rw [Addr.add_lit, Nat.zero_add, cell_of_row _ _ _ _ _ _ (heap_alloc_new w _)]
  simpa using hj
set_option maxHeartbeats 600000 in
theorem doc_event (w0 w : World) (K : Dm) (h : DM w0 w K) (e : Ev) (k p f : Int) (he : rwL e = [.int .i64 k, .int .i64 p, .int .i64 f]) (hl : K.s.es.length ≤ 900000) {kc : Nat} (hkc : K.c = kc) :
    Calls Tryz.prog 75 #[pB kc, .int .i64 k, .int .i64 p, .int .i64 f] w fun en w' => en = .returned (.tuple #[]) ∧ GoesD w0 w K w' { K.s with es := K.s.es ++ [e] } := by
  have HKC := Lib.hid hkc
  obtain ⟨n, hn⟩ : ∃ n, K.s.es.length = n := ⟨_, rfl⟩
  obtain ⟨A, cap, hev, -, -⟩ := h.events
  rw [hn] at hev hl
  have HN1 : Hid (n + 1 ≤ 1000000) := by show _ ≤ _; omega
  have HN2 : Hid ((n + 1) * 24 ≤ 140737488355328) := by show _ ≤ _; omega
  have hcc : w.cell? ⟨kc, 17, none⟩ = some (.slice A n cap) := by rw [← hkc, ← hev]; exact h.cell 17 _ rfl
  have HKE : Hid (∀ {W : World}, DM w0 W K → RowE 119 3 (.slice A n cap) n (rwsL K.s.es) K.eo) := fun h => by have := h.ke; rw [hn, hev] at this; exact this
  have HE3 : Hid (K.E[6]? = some ((Value.slice A n cap).ownBlock, K.eo)) := by show _ = _; rw [← hev]; rfl
  have HEB : Hid (K.ev.ownBlock = (Value.slice A n cap).ownBlock) := by show _ = _; rw [hev]
  have HNC : Hid (some kc ≠ (Value.slice A n cap).ownBlock) := fun e => by
    have h1 : K.E[6]? = some (some K.c, K.eo) := by rw [HE3.out, ← e, hkc]
    have := h.bu.inj 0 6 K.c _ _ rfl h1
    omega
  have HR7 : Hid (∀ (v : Value) (o : Obj), RowE 119 3 v (n + 1) (rwsL K.s.es ++ [.int .i64 k, .int .i64 p, .int .i64 f]) o → RowE 119 3 v (K.s.es.length + 1) (rwsL K.s.es ++ rwL e) o) := fun v o R => by rw [hn, he]; exact R
  have BA := Lib.hid ((Below.refl w.heap.size w).alloc (Nat.le_refl _) (Obj.cells #[.int .i64 k, .int .i64 p, .int .i64 f] 119))
  have H3 := Lib.hid (h.belows BA.out)
  have HS6 : Hid ((w.alloc (Obj.cells #[.int .i64 k, .int .i64 p, .int .i64 f] 119)).cell? ⟨kc, 17, none⟩ = some (.slice A n cap) ∧ (w.alloc (Obj.cells #[.int .i64 k, .int .i64 p, .int .i64 f] 119)).frozen? ⟨kc, 17, none⟩ = false) := ⟨by have := H3.out.cell 17 _ rfl; rw [hkc, hev] at this; exact this, by rw [← hkc]; exact H3.out.fz 17⟩
  clear h hn hev hkc he
  go_enter Tryz.func75, Tryz.ntmps75
  go_wp2_with (first
    | (refine wpList_append_bu2 (w0 := w0) (E := K.E) (t := 119) (size := 3) (n := n) (v := .slice A n cap) (xs := rwsL K.s.es) (o := K.eo) rfl (.tmp 12) (.tmp 17) 52 rfl (.agg #[.int .i64 0, .int .i64 0, .int .i64 0]) 24 Tryz.underlying52 raw_info3 rfl (by decide) H3.out.bu (HKE.out H3.out) 6 HE3.out rfl _ 1 1 [.int .i64 k, .int .i64 p, .int .i64 f] rfl rfl (raw_new _ _ _ _) (by simp [Value.oneCell']) HN1.out HN2.out (by decide) ?_; intro v7 w7 o7 k7 R7 hk7 B7 g7 n7; obtain ⟨A7, c7, rfl, -, -⟩ := R7.val; have hg7 := H3.out.push_event _ o7 e k7 hk7 (HR7.out _ _ R7) B7 (by rw [HEB.out]; exact g7) (by rw [HEB.out]; exact n7); rw [HKC.out] at hg7; have G7 := Lib.hid (goesd_then (Lv.of_below BA.out) (fun k hk => .inl hk) rfl rfl hg7); have q7 := gr_cell1 g7 HS6.out.1 HNC.out; have f7 := gr_fz1 g7 HS6.out.1 HS6.out.2 HNC.out; clear R7 hk7 B7 g7 n7 hg7))
  go_end0
  exact ⟨rfl, G7.out⟩
abbrev wdV (f u : Int) : Value := .agg #[.int .i64 f, .int .u32 u]
abbrev wdO (f u : Int) : Obj := .cells #[.int .i64 f, .int .u32 u] 137 (0, 0)
theorem wd_size : (Tryz.prog.info? 137).map (·.size) = some 2 := by kernel_rfl
theorem run_load_wd (w : World) (b o : Nat) (f u : Int) (h0 : w.cell? ⟨b, o, none⟩ = some (.int .i64 f)) (h1 : w.cell? ⟨b, o + 1, none⟩ = some (.int .u32 u)) : (loadVar 137 ⟨b, o, none⟩).run Tryz.prog w = .ok (wdV f u) w := by
  have hl : (loadCells ⟨b, o, none⟩ 2).run Tryz.prog w = .ok [Value.int .i64 f, .int .u32 u].toArray w :=
    run_loadCells_list (P := Tryz.prog) w ⟨b, o, none⟩ [Value.int .i64 f, .int .u32 u] (fun j v hv => by
      rw [Addr.add_lit]
      match j, hv with
      | 0, hv => cases hv; exact h0
      | 1, hv => cases hv; exact h1
      | n + 2, hv => simp at hv)
  have hq := wd_size
  cases hi : Tryz.prog.info? 137 with
  | none => rw [hi] at hq; simp at hq
  | some i =>
    have hs : i.size = 2 := by rw [hi] at hq; simpa using hq
    have hagg : (isAgg 137).run Tryz.prog w = .ok true w := by
      unfold isAgg
      rw [Sem.run_bind, run_underlying Tryz.underlying137 w]
      rfl
    simp [loadVar, Sem.run_bind, hagg, sizeOf, typeInfo, hi, hs, hl]
theorem wpList_load_wd {w : World} {ops : Array Oper} {rest : List Oper} {o : Oper} {a : Act} {Q : Exit → Act → World → Prop} (hgd : o.guard = none) (x : Operand) (ho : o.op = .load 137 x)
    (b j : Nat) (hx : a.eval x = .pointer (some ⟨b, j, none⟩)) (f u : Int) (h0 : w.cell? ⟨b, j, none⟩ = some (.int .i64 f)) (h1 : w.cell? ⟨b, j + 1, none⟩ = some (.int .u32 u))
    (hk : wpList Tryz.prog ops Q rest (a.put o.dst (wdV f u)) w) : wpList Tryz.prog ops Q (o :: rest) a w := by
  refine wpList_plain hgd fun K hK => ?_
  have hrun := run_load_wd w b j f u h0 h1
  unfold Oper.wp execOp
  simp only [ho, hx, Instr.loadAt, Instr.sureAddr, Sem.run_bind, Sem.run_pure, Result.andThen_ok, hrun]
  exact hK _ _ hk
theorem wpList_store_wd {w : World} {ops : Array Oper} {rest : List Oper} {o : Oper} {a : Act} {Q : Exit → Act → World → Prop} (hgd : o.guard = none) (x y : Operand) (ho : o.op = .store 137 x y)
    (b : Nat) (hx : a.eval x = .pointer (some ⟨b, 0, none⟩)) (f0 u0 : Int) (h : w.heap[b]? = some (wdO f0 u0)) (f u : Int) (hy : a.eval y = wdV f u)
    (hk : ∀ w', w'.heap[b]? = some (wdO f u) → w.grownBy w' (some b) → wpList Tryz.prog ops Q rest (a.put o.dst undef) w') : wpList Tryz.prog ops Q (o :: rest) a w := by
  refine wpList_plain hgd fun K hK => ?_
  have hrun := run_storeVar_row (P := Tryz.prog) w b 137 137 _ #[.int .i64 f, .int .u32 u] h (by rw [wd_size]; rfl) rfl (by simp [Value.oneCell'])
  unfold Oper.wp execOp
  simp only [ho, hx, hy, wdV, Instr.storeAt, Instr.sureAddr, Sem.run_bind, Sem.run_pure, Result.andThen_ok, hrun]
  exact hK _ _ (hk _ (setRow_heap w b _ _ _ _ h) ⟨rfl, rfl, rfl, by simp [World.setRow], fun k hk hne => setRow_other w b k _ (fun e => hne (by rw [e]))⟩)
theorem DM.hold {w0 w : World} {K : Dm} (h : DM w0 w K) {c n d p : Nat} (hc : K.c = c) (hn : K.C.n = n) (hd : K.d = d) (hp : K.p = p) (i : Nat) (x : Pr) (hx : K.s.ps[i]? = some x) :
    w.cell? ⟨c, 0, none⟩ = some (.int .i64 (n : Int)) ∧ w.cell? ⟨c, 14, none⟩ = some (.slice (some ⟨d, 0, none⟩) n n) ∧ w.cell? ⟨c, 15, none⟩ = some (.slice (some ⟨p, 0, none⟩) n n) ∧ w.cell? ⟨c, 16, none⟩ = some K.mv ∧ w.cell? ⟨d, i * 2, none⟩ = some (.int .i64 (x.fr : Int)) ∧ w.cell? ⟨d, i * 2 + 1, none⟩ = some (.int .u32 x.su) ∧ w.cell? ⟨p, i, none⟩ = some (.bool x.ap) ∧ w.frozen? ⟨p, i, none⟩ = false := by
  subst hc; subst hn; subst hd; subst hp
  obtain ⟨a0, a1, a2, a3, a4⟩ := h.peer i x hx
  exact ⟨h.cell 0 _ rfl, h.cell 14 _ rfl, h.cell 15 _ rfl, h.cell 16 _ rfl, a2, a3, a4, h.fzp i⟩
theorem event_goes {w0 w w1 : World} {K : Dm} {s : Pl} (g : GoesD w0 w K w1 s) (e : Ev) (k p f : Int) (he : rwL e = [.int .i64 k, .int .i64 p, .int .i64 f]) (hl : s.es.length ≤ 900000) {kc : Nat} (hkc : K.c = kc) :
    Calls Tryz.prog 75 #[pB kc, .int .i64 k, .int .i64 p, .int .i64 f] w1 fun en w' => en = .returned (.tuple #[]) ∧ GoesD w0 w K w' { s with es := s.es ++ [e] } :=
  g.step fun K1 e1 e2 e3 h => by
    subst e1
    exact doc_event w0 w1 K1 h e k p f he hl (e3.trans hkc)
set_option maxHeartbeats 8000000 in
theorem doc_held (w0 w : World) (K : Dm) (h : DM w0 w K) (N : Nat) (hN : K.C.n = N) (h8 : N ≤ 8) (h0N : 0 < N) (hp : K.s.ps.length = N) (hfr : ∀ x ∈ K.s.ps, x.fr ≤ 1000) (hms : K.s.ms.length ≤ 1000) (hes : K.s.es.length ≤ 800000) {kc : Nat} (hkc : K.c = kc) :
    Calls Tryz.prog 88 #[pB kc] w fun en w' => en = .returned (.tuple #[]) ∧ GoesD w0 w K w' (heldN K.s N) := by
  have HG0 := Lib.hid (h.goes (Below.refl _ _))
  have HN := Lib.hid hN; have HP := Lib.hid hp; have HFR := Lib.hid hfr; have HMS := Lib.hid hms; have HES := Lib.hid hes; have HKC := Lib.hid hkc
  clear h hN hp hfr hms hes hkc
  go_enter Tryz.func88, Tryz.ntmps88
  go_wp2_with fail
  go_loopw [2] (fun ii wr => ∃ k : Nat, ii = .int .i64 (k : Int) ∧ k ≤ N ∧ Hid (GoesD w0 w K wr (heldN K.s k))) (fun ii _ => N - (intOf ii).toNat)
  case atStart => exact ⟨0, rfl, by omega, HG0⟩
  case round =>
    obtain ⟨k, rfl, hk, HG⟩ := hrel
    clear HG0
    obtain ⟨K1, e1, e2, e3, H1, L1, N1⟩ := HG.out
    have HE1 := Lib.hid e1; have HE2 := Lib.hid e2; have HE3 := Lib.hid e3; have HL1 := Lib.hid L1; have HN1 := Lib.hid N1
    have HH1 := Lib.hid H1
    by_cases hlt : k < N
    · obtain ⟨m1, -, -, -, m5, m6, m7⟩ := heldN_ms K.s k
      obtain ⟨x, hx⟩ : ∃ x, K1.s.ps[k]? = some x := ⟨_, List.getElem?_eq_getElem (by rw [e1, m5, HP.out]; exact hlt)⟩
      have hxs : (heldN K.s k).ps[k]? = some x := by rw [← e1]; exact hx
      obtain ⟨p, hp⟩ : ∃ p, K1.p = p := ⟨_, rfl⟩
      obtain ⟨d, hd⟩ : ∃ d, K1.d = d := ⟨_, rfl⟩
      obtain ⟨fr, hfr⟩ : ∃ fr, x.fr = fr := ⟨_, rfl⟩
      obtain ⟨su, hsu⟩ : ∃ su, x.su = su := ⟨_, rfl⟩
      obtain ⟨ap, hap⟩ : ∃ ap, x.ap = ap := ⟨_, rfl⟩
      have HLD := Lib.hid (fun (W : World) (hW : DM w0 W K1) => hW.hold (e3.trans HKC.out) (by rw [e2, HN.out]) hd hp k x hx)
      rw [hfr, hsu, hap] at HLD
      obtain ⟨A, cap, hmv, -, -⟩ := H1.marks
      obtain ⟨M, hM⟩ : ∃ M, K.s.ms.length = M := ⟨_, rfl⟩
      have hML : K1.s.ms.length = M := by rw [e1, m1, hM]
      rw [hML] at hmv
      rw [hmv] at HLD
      have hM1 : M ≤ 1000 := by have := HMS.out; omega
      have hxf : x.fr ≤ 1000 := by
        obtain ⟨y, hy, -, -, q3, -⟩ := m7 x (List.mem_of_getElem? hxs)
        rw [q3]; exact HFR.out y hy
      rw [hfr] at hxf
      have HBAD : Hid (Bad (heldN K.s k) x ↔ (ap = false ∧ 1 ≤ fr ∧ fr ≤ M ∧ (heldN K.s k).ms[fr - 1]? ≠ some su)) := by
        show _ ↔ _
        unfold Bad
        rw [hap, hfr, hsu, m1, hM]
      have HX := Lib.hid hxs
      have HX1 := Lib.hid hx
      have HPP := Lib.hid hp
      have HMK : Hid (∀ (W : World), DM w0 W K1 → ∀ (j : Nat) (u : Int), (heldN K.s k).ms[j]? = some u → ∃ b, A = some ⟨b, 0, none⟩ ∧ W.cell? ⟨b, j, none⟩ = some (.int .u32 u)) := fun W hW j u hu => by
        obtain ⟨b, q1, -, q2⟩ := hW.mark (A := A) (c := cap) (by rw [hML]; exact hmv) j u (by rw [e1]; exact hu)
        exact ⟨b, q1, q2⟩
      have HML : Hid ((heldN K.s k).ms.length = M) := by show _ = _; rw [m1, hM]
      have HFX : Hid (x.fr = fr) := hfr
      have HES2 : Hid ((heldN K.s k).es.length ≤ 900000) := by show _ ≤ _; have := HES.out; omega
      have hkN : (k : Int) < (N : Int) := by omega
      have hk2 : Hid (k + 1 ≤ N) := hlt
      have hms : Hid (N - (k + 1) < N - k) := by show _ < _; omega
      obtain ⟨c0, c14, -, -, a2, a3, -, -⟩ := HLD.out _ H1
      clear H1 m1 m5 m6 m7 hx hxs hmv hM hML hp hd hfr hsu hap e1 e2 e3 HG L1 N1
      go_wp2_with (first
        | (refine wpList_load_wd rfl (.tmp 18) rfl d (k * 2) (by first | rfl | go_num) fr su a2 a3 ?_)
        | (refine wpList_store_wd rfl (.tmp 3) (.tmp 19) rfl wr.heap.size rfl 0 0 (heap_alloc_new wr _) fr su rfl ?_; intro w3 hw3 hg3; have HB3 := Lib.hid (((Below.refl wr.heap.size wr).alloc (Nat.le_refl _) (wdO 0 0)).grown hg3 (by simp) (by intro j hj; cases hj; exact Nat.le_refl _)); have HW3 := Lib.hid hw3; clear hg3 hw3))
      (try simp only [Act.put])
      have HH3 := Lib.hid (HH1.out.belows HB3.out)
      obtain ⟨B, hB⟩ : ∃ B, wr.heap.size = B := ⟨_, rfl⟩
      have l0 : w3.cell? ⟨B, 0, none⟩ = some (.int .i64 (fr : Int)) := by rw [← hB, cell_of_row _ _ 0 _ _ _ HW3.out]; rfl
      have l1 : w3.cell? ⟨B, 1, none⟩ = some (.int .u32 su) := by rw [← hB, cell_of_row _ _ 1 _ _ _ HW3.out]; rfl
      rw [hB]
      clear c0 c14 a2 a3
      obtain ⟨c0, c14, c15, c16, -, -, a4, f4⟩ := HLD.out _ HH3.out
      have HOFF : Hid (¬ Bad (heldN K.s k) x → GoesD w0 w K w3.drew (heldN K.s (k + 1))) := fun hb => by
        rw [heldN_succ, heldAt_off HX.out hb]
        have := (HH3.out.goes (Below.refl _ _)).drew
        rw [HE1.out] at this
        exact goesd_then (HL1.out.trans (Lv.of_below (B := noB) HB3.out) (fun k hk => hk.elim)) (fun k hk => HN1.out k hk) HE2.out HE3.out this
      have HSET : Hid (GoesD w0 w K (w3.setCell ⟨p, k, none⟩ (.bool true)).drew { heldN K.s k with ps := (heldN K.s k).ps.set k { x with ap := true } }) := by
        have := (HH3.out.set_ap k x HX1.out).drew
        rw [HPP.out, HE1.out] at this
        exact goesd_then (HL1.out.trans (Lv.of_below (B := noB) HB3.out) (fun k hk => hk.elim)) (fun k hk => HN1.out k hk) HE2.out HE3.out this
      have HBE := Lib.hid hB
      clear hB
      cases ap with
      | true =>
        have HG2 := Lib.hid (HOFF.out (fun hb => by have hb2 := HBAD.out.1 hb; cases hb2.1))
        clear HOFF HSET HMK HBAD f4
        go_big_region
        go_wp2_with fail
        go_roundw
        case rel => exact ⟨k + 1, by go_num, hk2.out, HG2⟩
        case measure => simp [intOf]; have := hms.out; omega
      | false =>
        by_cases h0 : fr = 0
        · subst h0
          have HG2 := Lib.hid (HOFF.out (fun hb => by have hb2 := HBAD.out.1 hb; omega))
          clear HOFF HSET HMK HBAD f4
          go_big_region
          go_wp2_with fail
          go_roundw
          case rel => exact ⟨k + 1, by go_num, hk2.out, HG2⟩
          case measure => simp [intOf]; have := hms.out; omega
        · have h0i : (1 : Int) ≤ (fr : Int) := by omega
          by_cases h1 : M < fr
          · have h1i : (M : Int) < (fr : Int) := by omega
            have h1d : ¬ (fr : Int) ≤ (M : Int) := by omega
            have h1e : decide (fr ≤ M) = false := by simp; omega
            have h1f : decide ((fr : Int) ≤ (M : Int)) = false := by simp; omega
            have HG2 := Lib.hid (HOFF.out (fun hb => by have hb2 := HBAD.out.1 hb; omega))
            clear HOFF HSET HMK HBAD f4
            go_big_region
            go_wp2_with fail
            go_roundw
            case rel => exact ⟨k + 1, by go_num, hk2.out, HG2⟩
            case measure => simp [intOf]; have := hms.out; omega
          · have h1i : (fr : Int) ≤ (M : Int) := by omega
            obtain ⟨u, hu⟩ : ∃ u, (heldN K.s k).ms[fr - 1]? = some u := ⟨_, List.getElem?_eq_getElem (by rw [HML.out]; omega)⟩
            obtain ⟨b, rfl, cm⟩ := HMK.out _ HH3.out (fr - 1) u hu
            obtain ⟨j, hj⟩ : ∃ j, fr - 1 = j := ⟨_, rfl⟩
            have hji : (fr : Int) - 1 = (j : Int) := by omega
            have hjM : (j : Int) < (M : Int) := by omega
            rw [hj] at cm
            by_cases hus : u = su
            · subst hus
              have HG2 := Lib.hid (HOFF.out (fun hb => by have hb2 := HBAD.out.1 hb; exact hb2.2.2.2 hu))
              clear HOFF HSET HMK HBAD f4
              go_big_region
              go_wp2_with fail
              go_roundw
              case rel => exact ⟨k + 1, by go_num, hk2.out, HG2⟩
              case measure => simp [intOf]; have := hms.out; omega
            · have husb : (u == su) = false := by simp; exact hus
              have hbad : Bad (heldN K.s k) x := HBAD.out.2 ⟨rfl, by omega, by omega, fun e => hus (Option.some.inj (hu.symm.trans e))⟩
              have HHP := Lib.hid (event_goes HSET.out (.a k fr) 3 k fr rfl HES2.out HKC.out)
              have HNX : Hid (heldN K.s (k + 1) = { heldN K.s k with ps := (heldN K.s k).ps.set k { x with ap := true }, es := (heldN K.s k).es ++ [.a k fr] }) := by show _ = _; rw [heldN_succ, heldAt_on HX.out hbad, HFX.out]
              have HBp : Hid (B ≠ p) := by show _ ≠ _; have := HBE.out; have := (HH1.out.get (k := p) (by rw [← HPP.out]; simp [DO, Dm.bl])).2; omega
              have hBp := HBp.out
              clear HOFF HSET HMK HBAD hbad
              go_big_region
              go_wp2_with (first | (go_at_call 75; (with_reducible refine (HHP.out).mono ?_); rintro en w1 ⟨rfl, hg⟩; have HG2 := Lib.hid hg; clear hg))
              go_roundw
              case rel => exact ⟨k + 1, by go_num, hk2.out, by show GoesD _ _ _ _ _; rw [HNX.out]; exact HG2.out⟩
              case measure => simp [intOf]; have := hms.out; omega
    · obtain rfl : N = k := by omega
      obtain ⟨c0, -⟩ : wr.cell? ⟨kc, 0, none⟩ = some (.int .i64 (N : Int)) ∧ True := ⟨by rw [← HKC.out, ← e3, ← HN.out, ← e2]; exact H1.cell 0 _ rfl, trivial⟩
      clear H1 L1 N1 e1 e2 e3
      go_wp2_with fail
      go_end0
      exact ⟨rfl, HG.out⟩
end Go.Proofs.YtpnobpligchpiaaGreatDoor
