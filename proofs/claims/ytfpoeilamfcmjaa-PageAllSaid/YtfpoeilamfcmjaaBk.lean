/- PageAll, begun: what its round keeps; laws for whole blocks. -/
import Derived.Test.YtfpoeilamfcmjaaBi
import Derived.Test.YtfpoeilamfcmjaaBj
namespace Go.Proofs.Ytfpoeilamfcmjaa
set_option maxRecDepth 100000
open Go.RowKit
set_option linter.unusedVariables false
set_option linter.unusedSimpArgs false

theorem shAt_cons (s : Sh) (l : List Sh) (c : Nat) : shAt (s :: l) (c + 1) = shAt l c := rfl
theorem set_cons (s x : Sh) (l : List Sh) (c : Nat) : (s :: l).set (c + 1) x = s :: l.set c x := rfl
/-- the room at P, A and the law's own list at L hold the same N pages, none held more often than m times -/
structure AllS (w wr : World) (P A L N m : Nat) (l : List Sh) : Prop where
  rm : RM wr P A l
  sr : SR wr L 31 (zS :: l)
  len : l.length = N
  bd : ∀ j, 0 ≤ (shAt l j).r ∧ (shAt l j).r ≤ m
  be : Below w.heap.size w wr
  hA : w.heap.size ≤ A
  hL : w.heap.size ≤ L
  nA : L ≠ A
  nP : L ≠ P
theorem AllS.belows {w wr w' : World} {P A L N m : Nat} {l : List Sh} (h : AllS w wr P A L N m l) (hb : Below wr.heap.size wr w') : AllS w w' P A L N m l :=
  ⟨h.rm.belows hb, h.sr.below hb h.sr.lt, h.len, h.bd, h.be.trans (hb.mono h.be.size), h.hA, h.hL, h.nA, h.nP⟩
theorem AllS.alloc {w wr : World} {P A L N m : Nat} {l : List Sh} (h : AllS w wr P A L N m l) (o : Obj) : AllS w (wr.alloc o) P A L N m l :=
  h.belows ((Below.refl _ _).alloc (Nat.le_refl _) o)
theorem AllS.drewN {w wr : World} {P A L N m : Nat} {l : List Sh} (h : AllS w wr P A L N m l) (n : Nat) : AllS w (wr.drewN n) P A L N m l :=
  ⟨h.rm.drewN n, h.sr, h.len, h.bd, below_drewN h.be n, h.hA, h.hL, h.nA, h.nP⟩
theorem AllS.more {w wr : World} {P A L N m m' : Nat} {l : List Sh} (h : AllS w wr P A L N m l) (hm : m ≤ m') : AllS w wr P A L N m' l :=
  ⟨h.rm, h.sr, h.len, fun j => ⟨(h.bd j).1, by have := (h.bd j).2; omega⟩, h.be, h.hA, h.hL, h.nA, h.nP⟩
theorem AllS.hpos {w wr : World} {P A L N m : Nat} {l : List Sh} (h : AllS w wr P A L N m l) : ∀ j, 0 ≤ (shAt (zS :: l) j).r := fun j => by
  cases j with
  | zero => exact Int.le_refl 0
  | succ j => exact (h.bd j).1
theorem bd_set {l : List Sh} {m : Nat} (h : ∀ j, 0 ≤ (shAt l j).r ∧ (shAt l j).r ≤ m) {c : Nat} (hc : c < l.length) (s : Sh) (h0 : 0 ≤ s.r) (h1 : s.r ≤ (m + 1 : Nat)) (j : Nat) : 0 ≤ (shAt (l.set c s) j).r ∧ (shAt (l.set c s) j).r ≤ (m + 1 : Nat) := by
  rw [shAt_set hc]
  split
  · exact ⟨h0, h1⟩
  · have := h j; omega
/-- the room has turned: what the law's list wants now -/
theorem AllS.upd {w wr w' : World} {P A L N m : Nat} {l l' : List Sh} (h : AllS w wr P A L N m l) (U : Upd wr w' P A l') : RM w' P A l' ∧ SR w' L 31 (zS :: l) ∧ Below w.heap.size w w' :=
  ⟨U.rm, h.sr.grown U.gr (fun e => h.nA (Option.some.inj e)), h.be.grown U.gr h.be.size (fun k e => by have := Option.some.inj e; have := h.hA; omega)⟩
/-- both have turned -/
theorem AllS.both {w wr w' w'' : World} {P A L N m : Nat} {l : List Sh} {c : Nat} {s : Sh} (h : AllS w wr P A L N m l) (hc : c < N) (R : RM w' P A (l.set c s)) (B : Below w.heap.size w w') (S : SR w'' L 31 ((zS :: l).set (c + 1) s))
    (g : w'.grownBy w'' (some L)) (h0 : 0 ≤ s.r) (h1 : s.r ≤ (m + 1 : Nat)) : AllS w w'' P A L N (m + 1) (l.set c s) :=
  ⟨R.grown g (fun e => h.nP (Option.some.inj e).symm) (fun e => h.nA (Option.some.inj e).symm), S, by rw [List.length_set]; exact h.len, bd_set h.bd (by rw [h.len]; exact hc) s h0 h1,
    B.grown g B.size (fun k e => by have := Option.some.inj e; have := h.hL; omega), h.hA, h.hL, h.nA, h.nP⟩

theorem wpList_load_blk {P : Program} {ops : Array Oper} {rest : List Oper} {op : Oper} {a : Act} {w : World} {Q : Exit → Act → World → Prop} (hgd : op.guard = none) (ty : TypeId) (x : Operand) (ho : op.op = .load ty x)
    (b : Nat) (hx : a.eval x = .pointer (some ⟨b, 0, none⟩)) (t : TypeId) (f : Nat → Int) (h : w.heap[b]? = some (.cells (onA f) t (0, 0))) {n : Nat} {e : TypeId} (hu : P.underlying ty = some (.array n e)) (hi : (P.info? ty).map (·.size) = some 8)
    (hk : wpList P ops Q rest (a.put op.dst (.agg (onA f))) w) : wpList P ops Q (op :: rest) a w :=
  wpList_load_mid hgd ty x ho b 0 hx (onL f) _ (fun j v hv => by rw [Nat.zero_add, cell_of_row _ _ _ _ _ _ h]; unfold onA; rw [List.getElem?_toArray]; exact hv) hu rfl (by rw [hi, onL_len]) hk
theorem built_law (x0 x1 x2 x3 x4 x5 x6 x7 : Int) : Try.prog.built 31 [(0, .int .i64 1), (1, .agg #[.int .i32 x0, .int .i32 x1, .int .i32 x2, .int .i32 x3, .int .i32 x4, .int .i32 x5, .int .i32 x6, .int .i32 x7])] = some #[.int .i64 1, .int .i32 x0, .int .i32 x1, .int .i32 x2, .int .i32 x3, .int .i32 x4, .int .i32 x5, .int .i32 x6, .int .i32 x7] := by kernel_rfl
theorem wpList_build_law {ops : Array Oper} {rest : List Oper} {o : Oper} {a : Act} {w : World} {Q : Exit → Act → World → Prop} (hgd : o.guard = none) (x : Operand) (ho : o.op = .build 31 #[(0, .const (.int .i64 1)), (1, x)])
    (f : Nat → Int) (hx : a.eval x = .agg (onA f)) (h : wpList Try.prog ops Q rest (a.put o.dst (.agg (shA ⟨1, f⟩))) w) : wpList Try.prog ops Q (o :: rest) a w := by
  have hb := built_law (f 0) (f 1) (f 2) (f 3) (f 4) (f 5) (f 6) (f 7)
  have hc : a.eval (.const (.int .i64 1)) = .int .i64 1 := rfl
  have he : (#[(0, Operand.const (.int .i64 1)), (1, x)].map fun (p : Nat × Operand) => (p.1, a.eval p.2)).toList = [(0, .int .i64 1), (1, .agg (onA f))] := by simp [hx, hc]
  refine wpList_build hgd 31 #[(0, .const (.int .i64 1)), (1, x)] ho ?_ ?_
  · show (Try.prog.built 31 (#[(0, Operand.const (.int .i64 1)), (1, x)].map fun (p : Nat × Operand) => (p.1, a.eval p.2)).toList).isSome = true
    rw [he]
    exact (congrArg Option.isSome hb).trans rfl
  · show wpList Try.prog ops Q rest (a.put o.dst (.agg ((Try.prog.built 31 (#[(0, Operand.const (.int .i64 1)), (1, x)].map fun (p : Nat × Operand) => (p.1, a.eval p.2)).toList).getD #[]))) w
    rw [he]
    have hb2 : Try.prog.built 31 [(0, .int .i64 1), (1, .agg (onA f))] = some (shA ⟨1, f⟩) := hb
    rw [hb2]; exact h
theorem lawsheet_info : (Try.prog.info? 31).map (fun i => (i.zero, i.size, i.bytes)) = some (some (.agg (shA zS)), 9, 40) := by kernel_rfl
theorem make_law (n : Nat) (hn : n ≤ 65536) (w : World) : (Instr.makeSlice 26 (.int .i64 (n : Int)) (.int .i64 (n : Int))).run Try.prog w = .ok (.slice (some ⟨w.heap.size, 0, none⟩) n n) (w.alloc (madeSh 31 n)) := by
  obtain ⟨i0, hi0, hz0, hz1, hz2⟩ := info_parts lawsheet_info
  have h := run_make_rowM (P := Try.prog) 26 31 i0 (.agg (shA zS)) Try.underlying26 hi0 hz0 .i64 .i64 n n (Nat.le_refl _) (by rw [hz2]; omega) (by omega) w
  rw [hz1] at h
  exact h
theorem infoArr : (Try.prog.info? 29).map (·.size) = some 8 := by kernel_rfl
theorem z8_size : (#[.int .i32 0, .int .i32 0, .int .i32 0, .int .i32 0, .int .i32 0, .int .i32 0, .int .i32 0, .int .i32 0] : Array Value).size = 8 := rfl
/-- the least page that is free, 0: none; as far as c -/
def FreeTo (l : List Sh) (N c f : Nat) : Prop := (∀ k, c < k → k ≤ N → (shAt (zS :: l) k).r = 0 → f ≤ k ∧ c < f) ∧ (f = 0 ∨ (c < f ∧ f ≤ N ∧ (shAt (zS :: l) f).r = 0))
theorem FreeTo.start (l : List Sh) (N : Nat) : FreeTo l N N 0 := ⟨fun k h1 h2 _ => by omega, .inl rfl⟩
theorem FreeTo.hit {l : List Sh} {N c f : Nat} (h : FreeTo l N (c + 1) f) (hc : c + 1 ≤ N) (h0 : (shAt (zS :: l) (c + 1)).r = 0) : FreeTo l N c (c + 1) :=
  ⟨fun k h1 h2 h3 => ⟨by omega, by omega⟩, .inr ⟨by omega, hc, h0⟩⟩
theorem FreeTo.miss {l : List Sh} {N c f : Nat} (h : FreeTo l N (c + 1) f) (h0 : (shAt (zS :: l) (c + 1)).r ≠ 0) : FreeTo l N c f :=
  ⟨fun k h1 h2 h3 => by
    by_cases e : k = c + 1
    · subst e; exact absurd h3 h0
    · have := h.1 k (by omega) h2 h3; omega, by rcases h.2 with h | h
                                                · exact .inl h
                                                · exact .inr (by omega)⟩
theorem FreeTo.none {l : List Sh} {N : Nat} (h : FreeTo l N 0 0) (hl : l.length = N) (j : Nat) (hj : j < l.length) : (shAt l j).r ≠ 0 := fun e => by
  have := h.1 (j + 1) (by omega) (by omega) e; omega
theorem FreeTo.some {l : List Sh} {N f : Nat} (h : FreeTo l N 0 f) (hf : f ≠ 0) : ∃ c, f = c + 1 ∧ c < N ∧ (shAt l c).r = 0 ∧ ∀ j, j < c → (shAt l j).r ≠ 0 := by
  rcases h.2 with h2 | ⟨h1, h2, h3⟩
  · exact absurd h2 hf
  · obtain ⟨c, rfl⟩ : ∃ c, f = c + 1 := ⟨f - 1, by omega⟩
    refine ⟨c, rfl, by omega, h3, fun j hj e => ?_⟩
    have := h.1 (j + 1) (by omega) (by omega) e; omega
end Go.Proofs.Ytfpoeilamfcmjaa
