/- THE FRAME of SnapAll: lists of the law's operations opened. -/
import Derived.Test.YtkmkjfbbpeocdaaKj
import Derived.Deep.Slices
import Derived.Deep.Fields
import Derived.ChangeSame
import Derived.Lib.SmallJoins
namespace Go.Proofs.Ytkmkjfbbpeocdaa
set_option maxRecDepth 100000
open Go.Joins Go.ChangeShapes Go.WideShapes Go.ChangeAt Go.RowKit Go.Deep
set_option linter.unusedVariables false

/-- an operation: its kind, its picture, its place, its number, its list -/
structure O5 where
  k : Int
  p : Int
  c : Int
  v : Int
  a : Option Addr
  ls : List Int
  cap : Nat
/-- A slice value at A reads as the operations qs, below block B. -/
def RO5 (w : World) (B : Nat) (A : Option Addr) (qs : List O5) : Prop :=
  0 < qs.length → ∃ b off, A = some ⟨b, off, none⟩ ∧ b < B ∧ ∀ j (h : j < qs.length), w.cell? ⟨b, off + j * 5, none⟩ = some (.int .i64 qs[j].k) ∧ w.cell? ⟨b, off + j * 5 + 1, none⟩ = some (.int .i64 qs[j].p) ∧ w.cell? ⟨b, off + j * 5 + 2, none⟩ = some (.int .i64 qs[j].c) ∧ w.cell? ⟨b, off + j * 5 + 3, none⟩ = some (.int .i32 qs[j].v) ∧ w.cell? ⟨b, off + j * 5 + 4, none⟩ = some (.slice qs[j].a qs[j].ls.length qs[j].cap)
theorem RO5.below {w w' : World} {B : Nat} {A : Option Addr} {qs : List O5} (h : RO5 w B A qs) (hb : Below B w w') : RO5 w' B A qs := fun h0 => by
  obtain ⟨b, off, e, hlt, hc⟩ := h h0
  refine ⟨b, off, e, hlt, fun j hj => ?_⟩
  obtain ⟨c0, c1, c2, c3, c4⟩ := hc j hj
  exact ⟨(hb.cell (p := ⟨b, _, none⟩) hlt).trans c0, (hb.cell (p := ⟨b, _, none⟩) hlt).trans c1, (hb.cell (p := ⟨b, _, none⟩) hlt).trans c2, (hb.cell (p := ⟨b, _, none⟩) hlt).trans c3, (hb.cell (p := ⟨b, _, none⟩) hlt).trans c4⟩
def pin64 (x : Int) : Prop := -9223372036854775808 ≤ x ∧ x ≤ 9223372036854775807
def inO5 (w : World) (o : O5) : Prop := pin64 o.k ∧ pin64 o.p ∧ pin64 o.c ∧ RG w w.heap.size o.a o.ls ∧ o.ls.length ≤ o.cap ∧ o.cap ≤ maxLen
section
variable {H : Type} {enc : TypeId × Value → H} {P : Program} {w : World} {base : Nat} {spare : Nat → Bool} {held : Bool}
theorem open_slice_fieldsS {t e : TypeId} {fs : Array Field} {fuel : Nat} {cs : List Value} {x : DataW H × List MemPlace} (ht : P.underlying t = some (.slice e)) (he : P.underlying e = some (.struct fs))
    (hone : oneCellFields P fs = true) (hC : P.cellsOf e = fs.size) (h : DataW.trod enc P w base spare held fuel t cs = some x) :
    (cs = [.slice none 0 0] ∧ x = (.nil, [])) ∨
    ∃ (a : Addr) (len cap m : Nat) (D : Nat → DataW H) (Pl : Nat → List MemPlace), cs = [.slice (some a) len cap] ∧ base ≤ a.block ∧ len ≤ cap ∧ cap ≤ maxLen ∧ m = (if spare a.block then cap else len) ∧
      x = (.slice ((List.range len).map D) ((List.range (m - len)).map fun j => D (len + j)), MemPlace.row a (m * fs.size) ++ (List.range m).flatMap Pl) ∧
      ∀ i, i < m → ∃ (ys : List (DataW H × List MemPlace)) (n : Nat), D i = .agg (ys.map (·.1)) ∧ Pl i = ys.flatMap (·.2) ∧ ys.length = fs.size ∧
        ∀ (j : Nat) (f : Field), fs[j]? = some f → ∃ (v : Value) (y : DataW H × List MemPlace), w.cell? (a.add (i * fs.size + j)) = some v ∧ ys[j]? = some y ∧ DataW.trod enc P w base spare held n f.type [v] = some y := by
  rcases open_slice ht h with h0 | ⟨a, len, cap, m, n, D, Pl, hcs, hb, hl, hm, hmm, hx, hi⟩
  · exact .inl h0
  · refine .inr ⟨a, len, cap, m, D, Pl, hcs, hb, hl, hm, hmm, by rw [hC] at hx; exact hx, fun i him => ?_⟩
    obtain ⟨cs', hc, ht'⟩ := hi i him
    rw [hC] at hc
    obtain ⟨ys, n', hn', hy, hlen, hyl, hf⟩ := DataW.trod_struct he ht'
    obtain ⟨_, hcl, hat⟩ := World.cells?_some hc
    simp only [Prod.mk.injEq] at hy
    refine ⟨ys, n', hy.1, hy.2, hyl, fun j f hj => ?_⟩
    obtain ⟨ho, hk⟩ := hone_of hone j f hj
    have hjl : j < fs.size := (Array.getElem?_eq_some_iff.1 hj).1
    have hcell := hat j hjl
    have hv : cs'[j]? = some (cs'[j]'(by omega)) := List.getElem?_eq_getElem (by omega)
    have h1 := hf j f hj
    rw [ho, hk] at h1
    have hone' : (cs'.drop j).take 1 = [cs'[j]'(by omega)] := by
      rw [List.drop_eq_getElem_cons (by omega)]
      rfl
    rw [hone'] at h1
    have hys : ys[j]? = some (ys[j]'(by omega)) := List.getElem?_eq_getElem (by omega)
    refine ⟨_, _, ?_, hys, h1.trans hys⟩
    rw [← Go.Deep.add_add, hcell, hv]
end
section
variable {H : Type} {enc : TypeId × Value → H}
theorem i32_of {W : World} {v : Value} {fuel : Nat} {y : DataW H × List MemPlace} (hf : DataW.trod enc Try.prog W 0 (fun _ => true) true fuel 31 [v] = some y) :
    ∃ A zs cap, v = .slice A (zs : List Int).length cap ∧ RG W W.heap.size A zs ∧ zs.length ≤ cap ∧ cap ≤ maxLen := by
  rcases open_ints Try.underlying31 Try.underlying21 kitCellsI32 hf with ⟨hcs, _⟩ | ⟨a, len, cap, zs, hcs, _, hl, hm, hz, _, hcell, hwz⟩
  · simp only [List.cons.injEq, and_true] at hcs
    subst hcs
    exact ⟨none, [], 0, rfl, fun h => absurd h (by simp), by simp, by unfold maxLen; omega⟩
  · simp only [List.cons.injEq, and_true] at hcs
    subst hcs
    simp only [if_true] at hz
    have hll : (zs.take len).length = len := by simp; omega
    refine ⟨some a, zs.take len, cap, by rw [hll], fun h0 => ?_, by omega, hm⟩
    rw [hll] at h0
    obtain ⟨b, off, spot⟩ := a
    have hspot : spot = none := by simpa [Addr.add] using World.cell?_spot (hcell 0 (by omega))
    subst hspot
    have hc0 := hcell 0 (by omega)
    rw [Addr.add_lit] at hc0
    refine ⟨b, off, rfl, cell_lt hc0, fun j hj => ?_⟩
    rw [hll] at hj
    have hc := hcell j (by omega)
    rw [Addr.add_lit] at hc
    rw [hc, List.getElem_take]
    simp [List.getD, show j < zs.length by omega]
theorem open_o5list {W : World} {base : Nat} {v : Value} {d : DataW H} {p : List MemPlace} (hval : Value.okWide Try.prog W .any base 22 v) (h : DataW.Trod enc Try.prog W 0 (fun _ => true) true 22 v d p) :
    ∃ A qs cap, v = .slice A (qs : List O5).length cap ∧ RO5 W W.heap.size A qs ∧ qs.length ≤ cap ∧ cap ≤ maxLen ∧ ∀ o ∈ qs, inO5 W o := by
  obtain ⟨a1, len1, cap1, rfl⟩ := okWide_slice Try.underlying22 hval
  obtain ⟨fuel, h⟩ := h
  rcases open_slice_fieldsS Try.underlying22 Try.underlying33 (by kernel_rfl) (by kernel_rfl) h with ⟨hcs, _⟩ | ⟨a, len, cap, m, D, Pl, hcs, _, hl, hm, hmm, _, hi⟩
  · simp [Value.cells] at hcs
    obtain ⟨rfl, rfl, rfl⟩ := hcs
    exact ⟨none, [], 0, rfl, fun h => absurd h (by simp), by simp, by unfold maxLen; omega, fun o ho => by cases ho⟩
  · simp [Value.cells] at hcs
    obtain ⟨rfl, rfl, rfl⟩ := hcs
    simp only [if_true] at hmm
    have hu := Try.underlying3
    have hu2 := Try.underlying21
    have hx : ∀ i, i < len1 → ∃ o : O5, (W.cell? (a.add (i * 5)) = some (.int .i64 o.k) ∧ W.cell? (a.add (i * 5 + 1)) = some (.int .i64 o.p) ∧ W.cell? (a.add (i * 5 + 2)) = some (.int .i64 o.c) ∧ W.cell? (a.add (i * 5 + 3)) = some (.int .i32 o.v) ∧ W.cell? (a.add (i * 5 + 4)) = some (.slice o.a o.ls.length o.cap)) ∧ inO5 W o := fun i hil => by
      obtain ⟨ys, n', _, _, _, hf⟩ := hi i (by omega)
      obtain ⟨v0, y0, c0, _, t0⟩ := hf 0 _ rfl
      obtain ⟨v1, y1, c1, _, t1⟩ := hf 1 _ rfl
      obtain ⟨v2, y2, c2, _, t2⟩ := hf 2 _ rfl
      obtain ⟨v3, y3, c3, _, t3⟩ := hf 3 _ rfl
      obtain ⟨v4, y4, c4, _, t4⟩ := hf 4 _ rfl
      obtain ⟨n0, e0, _, w0⟩ := DataW.trod_int hu t0
      obtain ⟨n1, e1, _, w1⟩ := DataW.trod_int hu t1
      obtain ⟨n2, e2, _, w2⟩ := DataW.trod_int hu t2
      obtain ⟨n3, e3, _, w3⟩ := DataW.trod_int hu2 t3
      obtain ⟨A4, zs, cap4, rfl, hr4, hc4, hm4⟩ := i32_of t4
      simp only [List.cons.injEq, and_true] at e0 e1 e2 e3
      subst e0 e1 e2 e3
      exact ⟨⟨n0, n1, n2, n3, A4, zs, cap4⟩, ⟨c0, c1, c2, c3, c4⟩, bounds_i64 w0, bounds_i64 w1, bounds_i64 w2, hr4, hc4, hm4⟩
    obtain ⟨f, hf⟩ : ∃ f : Nat → O5, ∀ i, i < len1 → (W.cell? (a.add (i * 5)) = some (.int .i64 (f i).k) ∧ W.cell? (a.add (i * 5 + 1)) = some (.int .i64 (f i).p) ∧ W.cell? (a.add (i * 5 + 2)) = some (.int .i64 (f i).c) ∧ W.cell? (a.add (i * 5 + 3)) = some (.int .i32 (f i).v) ∧ W.cell? (a.add (i * 5 + 4)) = some (.slice (f i).a (f i).ls.length (f i).cap)) ∧ inO5 W (f i) :=
      ⟨fun i => if h : i < len1 then Classical.choose (hx i h) else ⟨0, 0, 0, 0, none, [], 0⟩, fun i h => by simp only [dif_pos h]; exact Classical.choose_spec (hx i h)⟩
    refine ⟨some a, (List.range len1).map f, cap1, by simp, fun h0 => ?_, by simpa using hl, hm, fun o ho => ?_⟩
    · simp only [List.length_map, List.length_range] at h0
      obtain ⟨b, off, spot⟩ := a
      have hspot : spot = none := by simpa [Addr.add] using World.cell?_spot (hf 0 (by omega)).1.1
      subst hspot
      have hc0 := (hf 0 (by omega)).1.1
      rw [Addr.add_lit] at hc0
      refine ⟨b, off, rfl, cell_lt hc0, fun j hj => ?_⟩
      simp only [List.length_map, List.length_range] at hj
      have hc := (hf j hj).1
      simp only [Addr.add_lit, ← Nat.add_assoc] at hc
      rw [List.getElem_map, List.getElem_range]
      exact hc
    · obtain ⟨i, hi, rfl⟩ := List.mem_map.1 ho
      exact (hf i (List.mem_range.1 hi)).2
end
end Go.Proofs.Ytkmkjfbbpeocdaa
