/- THE FRAME of NetAll: lists of the law's operations opened. -/
import Derived.Test.YtolnafpicfemnaaKi
import Derived.Deep.Slices
import Derived.Deep.Fields
import Derived.ChangeSame
import Derived.Lib.SmallJoins
namespace Go.Proofs.Ytolnafpicfemnaa
set_option maxRecDepth 100000
open Go.Joins Go.ChangeShapes Go.WideShapes Go.ChangeAt Go.RowKit Go.Deep
set_option linter.unusedVariables false

/-- an operation: its kind, its place, its byte's place, its byte, its mail -/
structure O7 where
  k : Int
  i : Int
  p : Int
  x : Int
  f : Int
  t : Int
  a : Option Addr
  l : List UInt8
  cap : Nat
abbrev at7 (w : World) (b off : Nat) (o : O7) : Prop := w.cell? ⟨b, off, none⟩ = some (.int .i64 o.k) ∧ w.cell? ⟨b, off + 1, none⟩ = some (.int .i64 o.i) ∧ w.cell? ⟨b, off + 2, none⟩ = some (.int .i64 o.p) ∧ w.cell? ⟨b, off + 3, none⟩ = some (.int .u8 o.x) ∧ w.cell? ⟨b, off + 4, none⟩ = some (.int .i64 o.f) ∧ w.cell? ⟨b, off + 5, none⟩ = some (.int .i64 o.t) ∧ w.cell? ⟨b, off + 6, none⟩ = some (.slice o.a o.l.length o.cap)
/-- A slice value at A reads as the operations qs, below block B. -/
def RO7 (w : World) (B : Nat) (A : Option Addr) (qs : List O7) : Prop :=
  0 < qs.length → ∃ b off, A = some ⟨b, off, none⟩ ∧ b < B ∧ ∀ j (h : j < qs.length), at7 w b (off + j * 7) qs[j]
theorem RO7.below {w w' : World} {B : Nat} {A : Option Addr} {qs : List O7} (h : RO7 w B A qs) (hb : Below B w w') : RO7 w' B A qs := fun h0 => by
  obtain ⟨b, off, e, hlt, hc⟩ := h h0
  refine ⟨b, off, e, hlt, fun j hj => ?_⟩
  obtain ⟨c0, c1, c2, c3, c4, c5, c6⟩ := hc j hj
  exact ⟨(hb.cell (p := ⟨b, _, none⟩) hlt).trans c0, (hb.cell (p := ⟨b, _, none⟩) hlt).trans c1, (hb.cell (p := ⟨b, _, none⟩) hlt).trans c2, (hb.cell (p := ⟨b, _, none⟩) hlt).trans c3, (hb.cell (p := ⟨b, _, none⟩) hlt).trans c4, (hb.cell (p := ⟨b, _, none⟩) hlt).trans c5, (hb.cell (p := ⟨b, _, none⟩) hlt).trans c6⟩
def pin64 (x : Int) : Prop := -9223372036854775808 ≤ x ∧ x ≤ 9223372036854775807
structure InO7 (w : World) (o : O7) : Prop where
  i : pin64 o.i
  p : pin64 o.p
  x : 0 ≤ o.x ∧ o.x ≤ 255
  rb : RB w w.heap.size o.a o.l
  le : o.l.length ≤ o.cap
  cm : o.cap ≤ maxLen
theorem list7 {cs : List Value} (h : cs.length = 7) : ∃ a b c d e f g, cs = [a, b, c, d, e, f, g] := by
  match cs, h with
  | [a, b, c, d, e, f, g], _ => exact ⟨a, b, c, d, e, f, g, rfl⟩
section
variable {H : Type} {enc : TypeId × Value → H}
theorem bytes_of {W : World} {v : Value} {fuel : Nat} {y : DataW H × List MemPlace} (hf : DataW.trod enc Try.prog W 0 (fun _ => true) true fuel 27 [v] = some y) :
    ∃ (A : Option Addr) (l : List UInt8) (cap : Nat), v = .slice A l.length cap ∧ RB W W.heap.size A l ∧ l.length ≤ cap ∧ cap ≤ maxLen := by
  rcases open_ints Try.underlying27 Try.underlying5 kitCellsByte hf with ⟨hcs, _⟩ | ⟨a, len, cap, zs, hcs, _, hl, hm, hz, _, hcell, hwz⟩
  · simp only [List.cons.injEq, and_true] at hcs
    subst hcs
    exact ⟨none, [], 0, rfl, RB.nil _ _ _, by simp, by unfold maxLen; omega⟩
  · simp only [List.cons.injEq, and_true] at hcs
    subst hcs
    simp only [if_true] at hz
    have hll : ((zs.take len).map fun n => UInt8.ofNat n.toNat).length = len := by simp; omega
    refine ⟨some a, (zs.take len).map fun n => UInt8.ofNat n.toNat, cap, by rw [hll], fun h0 => ?_, by omega, hm⟩
    rw [hll] at h0
    obtain ⟨b, off, spot⟩ := a
    have hspot : spot = none := by simpa [Addr.add] using World.cell?_spot (hcell 0 (by omega))
    subst hspot
    have hc0 := hcell 0 (by omega)
    rw [Addr.add_lit] at hc0
    refine ⟨b, off, rfl, cell_lt hc0, fun j hj => ?_⟩
    rw [hll] at hj
    have hc := hcell j (by omega)
    rw [Addr.add_lit] at hc
    rw [hc, List.getElem_map, List.getElem_take, vb, byte_back (hwz _ (List.getElem_mem _))]
    simp [List.getD, show j < zs.length by omega]
theorem get_y {ys : List (DataW H × List MemPlace)} {n : Nat} (h : ys.length = n) (j : Nat) (hj : j < n) : ∃ y, ys[j]? = some y := ⟨_, List.getElem?_eq_getElem (by omega)⟩
theorem op7_cells : Try.prog.cellsOf 31 = 7 := by kernel_rfl
theorem mail_cells : Try.prog.cellsOf 29 = 3 := by kernel_rfl
theorem sl_cells : Try.prog.cellsOf 27 = 1 := by kernel_rfl
/-- one operation out of its cells -/
theorem open_o7 {W : World} {a : Addr} {fuel : Nat} {cs : List Value} {x : DataW H × List MemPlace} (hcl : cs.length = 7) (hat : ∀ i, i < 7 → W.cell? (a.add i) = cs[i]?) (ht : DataW.trod enc Try.prog W 0 (fun _ => true) true fuel 31 cs = some x) :
    ∃ o : O7, (W.cell? (a.add 0) = some (.int .i64 o.k) ∧ W.cell? (a.add 1) = some (.int .i64 o.i) ∧ W.cell? (a.add 2) = some (.int .i64 o.p) ∧ W.cell? (a.add 3) = some (.int .u8 o.x) ∧ W.cell? (a.add 4) = some (.int .i64 o.f) ∧ W.cell? (a.add 5) = some (.int .i64 o.t) ∧ W.cell? (a.add 6) = some (.slice o.a o.l.length o.cap)) ∧ InO7 W o := by
  obtain ⟨c0, c1, c2, c3, c4, c5, c6, rfl⟩ := list7 hcl
  obtain ⟨ys, n', _, _, _, hyl, hf⟩ := DataW.trod_struct Try.underlying31 ht
  have hyl : ys.length = 5 := hyl
  obtain ⟨y0, e0⟩ := get_y hyl 0 (by omega)
  obtain ⟨y1, e1⟩ := get_y hyl 1 (by omega)
  obtain ⟨y2, e2⟩ := get_y hyl 2 (by omega)
  obtain ⟨y3, e3⟩ := get_y hyl 3 (by omega)
  obtain ⟨y4, e4⟩ := get_y hyl 4 (by omega)
  have t0 : DataW.trod enc Try.prog W 0 (fun _ => true) true n' 3 ((([c0, c1, c2, c3, c4, c5, c6] : List Value).drop 0).take (Try.prog.cellsOf 3)) = ys[0]? := hf 0 _ rfl
  have t1 : DataW.trod enc Try.prog W 0 (fun _ => true) true n' 3 ((([c0, c1, c2, c3, c4, c5, c6] : List Value).drop 1).take (Try.prog.cellsOf 3)) = ys[1]? := hf 1 _ rfl
  have t2 : DataW.trod enc Try.prog W 0 (fun _ => true) true n' 3 ((([c0, c1, c2, c3, c4, c5, c6] : List Value).drop 2).take (Try.prog.cellsOf 3)) = ys[2]? := hf 2 _ rfl
  have t3 : DataW.trod enc Try.prog W 0 (fun _ => true) true n' 5 ((([c0, c1, c2, c3, c4, c5, c6] : List Value).drop 3).take (Try.prog.cellsOf 5)) = ys[3]? := hf 3 _ rfl
  have t4 : DataW.trod enc Try.prog W 0 (fun _ => true) true n' 29 ((([c0, c1, c2, c3, c4, c5, c6] : List Value).drop 4).take (Try.prog.cellsOf 29)) = ys[4]? := hf 4 _ rfl
  rw [kitCellsInt, e0] at t0
  rw [kitCellsInt, e1] at t1
  rw [kitCellsInt, e2] at t2
  rw [kitCellsByte, e3] at t3
  rw [mail_cells, e4] at t4
  obtain ⟨zs, n2, _, _, _, hzl, hg⟩ := DataW.trod_struct Try.underlying29 t4
  have hzl : zs.length = 3 := hzl
  obtain ⟨z0, f0⟩ := get_y hzl 0 (by omega)
  obtain ⟨z1, f1⟩ := get_y hzl 1 (by omega)
  obtain ⟨z2, f2⟩ := get_y hzl 2 (by omega)
  have t5 : DataW.trod enc Try.prog W 0 (fun _ => true) true n2 3 ((([c4, c5, c6] : List Value).drop 0).take (Try.prog.cellsOf 3)) = zs[0]? := hg 0 _ rfl
  have t6 : DataW.trod enc Try.prog W 0 (fun _ => true) true n2 3 ((([c4, c5, c6] : List Value).drop 1).take (Try.prog.cellsOf 3)) = zs[1]? := hg 1 _ rfl
  have t7 : DataW.trod enc Try.prog W 0 (fun _ => true) true n2 27 ((([c4, c5, c6] : List Value).drop 2).take (Try.prog.cellsOf 27)) = zs[2]? := hg 2 _ rfl
  rw [kitCellsInt, f0] at t5
  rw [kitCellsInt, f1] at t6
  rw [sl_cells, f2] at t7
  have hu := Try.underlying3
  have hb := Try.underlying5
  obtain ⟨k, g0, _, _⟩ := DataW.trod_int hu t0
  obtain ⟨i, g1, _, w1⟩ := DataW.trod_int hu t1
  obtain ⟨p, g2, _, w2⟩ := DataW.trod_int hu t2
  obtain ⟨x, g3, _, w3⟩ := DataW.trod_int hb t3
  obtain ⟨f, g4, _, _⟩ := DataW.trod_int hu t5
  obtain ⟨t, g5, _, _⟩ := DataW.trod_int hu t6
  obtain ⟨A, l, cap, g6, hr, hc, hm⟩ := bytes_of (v := c6) t7
  obtain rfl : c0 = _ := by simpa using g0
  obtain rfl : c1 = _ := by simpa using g1
  obtain rfl : c2 = _ := by simpa using g2
  obtain rfl : c3 = _ := by simpa using g3
  obtain rfl : c4 = _ := by simpa using g4
  obtain rfl : c5 = _ := by simpa using g5
  subst g6
  exact ⟨⟨k, i, p, x, f, t, A, l, cap⟩, ⟨hat 0 (by omega), hat 1 (by omega), hat 2 (by omega), hat 3 (by omega), hat 4 (by omega), hat 5 (by omega), hat 6 (by omega)⟩, ⟨bounds_i64 w1, bounds_i64 w2, ⟨(bounds_u8 w3).1, (bounds_u8 w3).2⟩, hr, hc, hm⟩⟩
theorem open_o7list {W : World} {base : Nat} {v : Value} {d : DataW H} {p : List MemPlace} (hval : Value.okWide Try.prog W .any base 22 v) (h : DataW.Trod enc Try.prog W 0 (fun _ => true) true 22 v d p) :
    ∃ A qs cap, v = .slice A (qs : List O7).length cap ∧ RO7 W W.heap.size A qs ∧ qs.length ≤ cap ∧ cap ≤ maxLen ∧ ∀ o ∈ qs, InO7 W o := by
  obtain ⟨a1, len1, cap1, rfl⟩ := okWide_slice Try.underlying22 hval
  obtain ⟨fuel, h⟩ := h
  rcases open_slice Try.underlying22 h with ⟨hcs, _⟩ | ⟨a, len, cap, m, n, D, Pl, hcs, _, hl, hm, hmm, _, hi⟩
  · simp [Value.cells] at hcs
    obtain ⟨rfl, rfl, rfl⟩ := hcs
    exact ⟨none, [], 0, rfl, fun h => absurd h (by simp), by simp, by unfold maxLen; omega, fun o ho => by cases ho⟩
  · simp [Value.cells] at hcs
    obtain ⟨rfl, rfl, rfl⟩ := hcs
    simp only [if_true] at hmm
    rw [op7_cells] at hi
    have hx : ∀ i, i < len1 → ∃ o : O7, (W.cell? ((a.add (i * 7)).add 0) = some (.int .i64 o.k) ∧ W.cell? ((a.add (i * 7)).add 1) = some (.int .i64 o.i) ∧ W.cell? ((a.add (i * 7)).add 2) = some (.int .i64 o.p) ∧ W.cell? ((a.add (i * 7)).add 3) = some (.int .u8 o.x) ∧ W.cell? ((a.add (i * 7)).add 4) = some (.int .i64 o.f) ∧ W.cell? ((a.add (i * 7)).add 5) = some (.int .i64 o.t) ∧ W.cell? ((a.add (i * 7)).add 6) = some (.slice o.a o.l.length o.cap)) ∧ InO7 W o := fun i hil => by
      obtain ⟨cs', hc, ht'⟩ := hi i (by omega)
      obtain ⟨_, hcl, hat⟩ := World.cells?_some hc
      exact open_o7 hcl hat ht'
    obtain ⟨f, hf⟩ : ∃ f : Nat → O7, ∀ i, i < len1 → (W.cell? ((a.add (i * 7)).add 0) = some (.int .i64 (f i).k) ∧ W.cell? ((a.add (i * 7)).add 1) = some (.int .i64 (f i).i) ∧ W.cell? ((a.add (i * 7)).add 2) = some (.int .i64 (f i).p) ∧ W.cell? ((a.add (i * 7)).add 3) = some (.int .u8 (f i).x) ∧ W.cell? ((a.add (i * 7)).add 4) = some (.int .i64 (f i).f) ∧ W.cell? ((a.add (i * 7)).add 5) = some (.int .i64 (f i).t) ∧ W.cell? ((a.add (i * 7)).add 6) = some (.slice (f i).a (f i).l.length (f i).cap)) ∧ InO7 W (f i) :=
      ⟨fun i => if h : i < len1 then Classical.choose (hx i h) else ⟨0, 0, 0, 0, 0, 0, none, [], 0⟩, fun i h => by simp only [dif_pos h]; exact Classical.choose_spec (hx i h)⟩
    refine ⟨some a, (List.range len1).map f, cap1, by simp, fun h0 => ?_, by simpa using hl, hm, fun o ho => ?_⟩
    · simp only [List.length_map, List.length_range] at h0
      obtain ⟨b, off, spot⟩ := a
      have hspot : spot = none := by
        have h1 := World.cell?_spot (hf 0 h0).1.1
        simpa [Addr.add] using h1
      subst hspot
      have hc0 := (hf 0 h0).1.1
      rw [Addr.add_lit, Addr.add_lit] at hc0
      refine ⟨b, off, rfl, cell_lt hc0, fun j hj => ?_⟩
      simp only [List.length_map, List.length_range] at hj
      have hc := (hf j hj).1
      simp only [Addr.add_lit, Nat.add_zero] at hc
      rw [List.getElem_map, List.getElem_range]
      exact hc
    · obtain ⟨i, hi, rfl⟩ := List.mem_map.1 ho
      exact (hf i (List.mem_range.1 hi)).2
end
end Go.Proofs.Ytolnafpicfemnaa
