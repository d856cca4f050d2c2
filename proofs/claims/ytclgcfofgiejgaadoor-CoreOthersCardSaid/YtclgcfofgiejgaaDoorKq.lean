/- THE FRAME of a law: packets opened. Of every seat that has api.Packet. -/
import Derived.Test.YtclgcfofgiejgaaDoorKb
import Derived.Test.YtclgcfofgiejgaaDoorQb
import Derived.Deep.Slices
import Derived.Deep.Fields
import Derived.ChangeSame
import Derived.Lib.SmallJoins
namespace Go.Proofs.YtclgcfofgiejgaaDoor
set_option maxRecDepth 100000
open Go.Joins Go.ChangeShapes Go.WideShapes Go.ChangeAt Go.RowKit Go.Deep
set_option linter.unusedVariables false

section
variable {H : Type} {enc : TypeId × Value → H} {P : Program} {w : World} {base : Nat} {spare : Nat → Bool} {held : Bool}
/-- a struct of one-cell fields, by value -/
theorem open_struct_val {r : Reach} {b0 : Nat} {t : TypeId} {fs : Array Field} {v : Value} {d : DataW H} {p : List MemPlace} (hs : P.underlying t = some (.struct fs)) (hone : oneCellFields P fs = true) (hC : P.cellsOf t = fs.size)
    (hv : Value.okWide P w r b0 t v) (h : DataW.Trod enc P w base spare held t v d p) :
    ∃ cs : Array Value, v = .agg cs ∧ cs.size = fs.size ∧ ∀ (j : Nat) (f : Field), fs[j]? = some f → ∃ (u : Value) (y : DataW H × List MemPlace) (n : Nat), cs[j]? = some u ∧ DataW.trod enc P w base spare held n f.type [u] = some y := by
  obtain ⟨cs, rfl, hsz⟩ := okWide_struct hs hv
  obtain ⟨fuel, hf⟩ := h
  obtain ⟨ys, n', hn', hy, hlen, hyl, hf⟩ := DataW.trod_struct hs hf
  refine ⟨cs, rfl, hsz.trans hC, fun j f hj => ?_⟩
  obtain ⟨ho, hk⟩ := hone_of hone j f hj
  have hjl : j < fs.size := (Array.getElem?_eq_some_iff.1 hj).1
  have hcj : j < cs.size := by rw [hsz, hC]; exact hjl
  have h1 := hf j f hj
  rw [ho, hk] at h1
  have hone' : ((Value.agg cs).cells.toList.drop j).take 1 = [cs[j]] := by
    have e : (Value.agg cs).cells.toList = cs.toList := rfl
    rw [e, List.drop_eq_getElem_cons (by simpa using hcj)]
    simp
  rw [hone'] at h1
  have hys : ys[j]? = some (ys[j]'(by omega)) := List.getElem?_eq_getElem (by omega)
  exact ⟨cs[j], _, _, by simp [hcj], h1.trans hys⟩
end
theorem array9 {cs : Array Value} (h : cs.size = 9) : ∃ a b c d e f g i j, cs = #[a, b, c, d, e, f, g, i, j] := by
  obtain ⟨l⟩ := cs
  match l, h with
  | [a, b, c, d, e, f, g, i, j], _ => exact ⟨a, b, c, d, e, f, g, i, j, rfl⟩
section
variable {H : Type} {enc : TypeId × Value → H}
theorem open_packet {W : World} {base : Nat} {v : Value} {d : DataW H} {p : List MemPlace} (hval : Value.okWide Tryd.prog W .any base 33 v) (h : DataW.Trod enc Tryd.prog W 0 (fun _ => true) true 33 v d p) :
    ∃ (k f t id fi : Int) (A : Option Addr) (l : List UInt8) (cap : Nat) (ac fr su : Int), v = pkV k f t id fi A l.length cap ac fr su ∧ RB W W.heap.size A l ∧ l.length ≤ cap ∧ cap ≤ maxLen ∧ (in64 fi ∧ in64 ac) ∧ 0 ≤ su ∧ su ≤ 4294967295 := by
  obtain ⟨cs, rfl, hsz, hf⟩ := open_struct_val Tryd.underlying33 (by kernel_rfl) (by kernel_rfl) hval h
  obtain ⟨v0, v1, v2, v3, v4, v5, v6, v7, v8, rfl⟩ := array9 hsz
  obtain ⟨u0, y0, n0, e0, t0⟩ := hf 0 _ rfl
  obtain ⟨u1, y1, n1, e1, t1⟩ := hf 1 _ rfl
  obtain ⟨u2, y2, n2, e2, t2⟩ := hf 2 _ rfl
  obtain ⟨u3, y3, n3, e3, t3⟩ := hf 3 _ rfl
  obtain ⟨u4, y4, n4, e4, t4⟩ := hf 4 _ rfl
  obtain ⟨u5, y5, n5, e5, t5⟩ := hf 5 _ rfl
  obtain ⟨u6, y6, n6, e6, t6⟩ := hf 6 _ rfl
  obtain ⟨u7, y7, n7, e7, t7⟩ := hf 7 _ rfl
  obtain ⟨u8, y8, n8, e8, t8⟩ := hf 8 _ rfl
  obtain rfl : v0 = u0 := Option.some.inj e0
  obtain rfl : v1 = u1 := Option.some.inj e1
  obtain rfl : v2 = u2 := Option.some.inj e2
  obtain rfl : v3 = u3 := Option.some.inj e3
  obtain rfl : v4 = u4 := Option.some.inj e4
  obtain rfl : v5 = u5 := Option.some.inj e5
  obtain rfl : v6 = u6 := Option.some.inj e6
  obtain rfl : v7 = u7 := Option.some.inj e7
  obtain rfl : v8 = u8 := Option.some.inj e8
  have hu := Tryd.underlying3
  have h64 := Tryd.underlying2
  have h32 := Tryd.underlying31
  obtain ⟨k, g0, _, _⟩ := DataW.trod_int hu t0
  obtain ⟨f, g1, _, _⟩ := DataW.trod_int hu t1
  obtain ⟨t, g2, _, _⟩ := DataW.trod_int hu t2
  obtain ⟨id, g3, _, _⟩ := DataW.trod_int h64 t3
  obtain ⟨fi, g4, _, w4⟩ := DataW.trod_int hu t4
  obtain ⟨ac, g6, _, w6⟩ := DataW.trod_int hu t6
  obtain ⟨fr, g7, _, _⟩ := DataW.trod_int hu t7
  obtain ⟨su, g8, _, w8⟩ := DataW.trod_int h32 t8
  simp only [List.cons.injEq, and_true] at g0 g1 g2 g3 g4 g6 g7 g8
  subst g0 g1 g2 g3 g4 g6 g7 g8
  have hs := bounds_u32 w8
  have h5 : ∃ (A : Option Addr) (l : List UInt8) (cap : Nat), v5 = .slice A l.length cap ∧ RB W W.heap.size A l ∧ l.length ≤ cap ∧ cap ≤ maxLen := by
    rcases open_ints Tryd.underlying29 Tryd.underlying5 kitCellsByte t5 with ⟨hcs, _⟩ | ⟨a, len, cap, zs, hcs, _, hl, hm, hz, _, hcell, hwz⟩
    · simp only [List.cons.injEq, and_true] at hcs
      subst hcs
      exact ⟨none, [], 0, rfl, RB.nil _ _ _, by simp, by unfold maxLen; omega⟩
    · simp only [List.cons.injEq, and_true] at hcs
      subst hcs
      simp only [if_true] at hz
      have hll : ((zs.take len).map fun n => UInt8.ofNat n.toNat).length = len := by simp; omega
      refine ⟨some a, (zs.take len).map fun n => UInt8.ofNat n.toNat, cap, by rw [hll], fun h0 => ?_, by omega, hm⟩
      rw [hll] at h0
      obtain ⟨b, off, spot⟩ := a
      have hspot : spot = none := by simpa [Addr.add] using World.cell?_spot (hcell 0 (by omega))
      subst hspot
      have hc0 := hcell 0 (by omega)
      rw [Addr.add_lit] at hc0
      refine ⟨b, off, rfl, cell_lt hc0, fun j hj => ?_⟩
      rw [hll] at hj
      have hc := hcell j (by omega)
      rw [Addr.add_lit] at hc
      rw [hc, List.getElem_map, List.getElem_take, vb, byte_back (hwz _ (List.getElem_mem _))]
      simp [List.getD, show j < zs.length by omega]
  obtain ⟨A, l, cap, rfl, hr, hc, hm⟩ := h5
  exact ⟨k, f, t, id, fi, A, l, cap, ac, fr, su, rfl, hr, hc, hm, ⟨bounds_i64 w4, bounds_i64 w6⟩, hs.1, by have := hs.2; omega⟩
end
end Go.Proofs.YtclgcfofgiejgaaDoor
