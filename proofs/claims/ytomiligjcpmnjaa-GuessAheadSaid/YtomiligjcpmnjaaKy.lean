/- THE FRAME of a law: kinds of guess opened (two numbers, bytes). Of every seat that has quintainref12.By. -/
import Derived.Test.YtomiligjcpmnjaaKb
import Derived.Deep.Slices
import Derived.Deep.Fields
import Derived.ChangeSame
import Derived.Lib.SmallJoins
namespace Go.Proofs.Ytomiligjcpmnjaa
set_option maxRecDepth 100000
open Go.Joins Go.ChangeShapes Go.WideShapes Go.ChangeAt Go.RowKit Go.Deep
set_option linter.unusedVariables false

section
variable {H : Type} {enc : TypeId × Value → H} {P : Program} {w : World} {base : Nat} {spare : Nat → Bool} {held : Bool}
/-- a struct of one-cell fields, by value -/
theorem open_struct_val {r : Reach} {b0 : Nat} {t : TypeId} {fs : Array Field} {v : Value} {d : DataW H} {p : List MemPlace} (hs : P.underlying t = some (.struct fs)) (hone : oneCellFields P fs = true) (hC : P.cellsOf t = fs.size)
    (hv : Value.okWide P w r b0 t v) (h : DataW.Trod enc P w base spare held t v d p) :
    ∃ cs : Array Value, v = .agg cs ∧ cs.size = fs.size ∧ ∀ (j : Nat) (f : Field), fs[j]? = some f → ∃ (u : Value) (y : DataW H × List MemPlace) (n : Nat), cs[j]? = some u ∧ DataW.trod enc P w base spare held n f.type [u] = some y := by
  obtain ⟨cs, rfl, hsz⟩ := okWide_struct hs hv
  obtain ⟨fuel, hf⟩ := h
  obtain ⟨ys, n', hn', hy, hlen, hyl, hf⟩ := DataW.trod_struct hs hf
  refine ⟨cs, rfl, hsz.trans hC, fun j f hj => ?_⟩
  obtain ⟨ho, hk⟩ := hone_of hone j f hj
  have hjl : j < fs.size := (Array.getElem?_eq_some_iff.1 hj).1
  have hcj : j < cs.size := by rw [hsz, hC]; exact hjl
  have h1 := hf j f hj
  rw [ho, hk] at h1
  have hone' : ((Value.agg cs).cells.toList.drop j).take 1 = [cs[j]] := by
    have e : (Value.agg cs).cells.toList = cs.toList := rfl
    rw [e, List.drop_eq_getElem_cons (by simpa using hcj)]
    simp
  rw [hone'] at h1
  have hys : ys[j]? = some (ys[j]'(by omega)) := List.getElem?_eq_getElem (by omega)
  exact ⟨cs[j], _, _, by simp [hcj], h1.trans hys⟩
end
theorem array3 {cs : Array Value} (h : cs.size = 3) : ∃ a b c, cs = #[a, b, c] := by
  obtain ⟨l⟩ := cs
  match l, h with
  | [a, b, c], _ => exact ⟨a, b, c, rfl⟩
section
variable {H : Type} {enc : TypeId × Value → H}
theorem open_by {W : World} {base : Nat} {v : Value} {d : DataW H} {p : List MemPlace} (hval : Value.okWide Try.prog W .any base 25 v) (h : DataW.Trod enc Try.prog W 0 (fun _ => true) true 25 v d p) :
    ∃ (z o : Int) (A : Option Addr) (l : List UInt8) (cap : Nat), v = .agg #[.int .i64 z, .int .i64 o, .slice A l.length cap] ∧ RB W W.heap.size A l ∧ l.length ≤ cap ∧ cap ≤ maxLen ∧ (-9223372036854775808 ≤ z ∧ z ≤ 9223372036854775807) ∧ (-9223372036854775808 ≤ o ∧ o ≤ 9223372036854775807) := by
  obtain ⟨cs, rfl, hsz, hf⟩ := open_struct_val Try.underlying25 (by kernel_rfl) (by kernel_rfl) hval h
  obtain ⟨v0, v1, v5, rfl⟩ := array3 hsz
  obtain ⟨u0, y0, n0, e0, t0⟩ := hf 0 _ rfl
  obtain ⟨u1, y1, n1, e1, t1⟩ := hf 1 _ rfl
  obtain ⟨u5, y5, n5, e5, t5⟩ := hf 2 _ rfl
  obtain rfl : v0 = u0 := Option.some.inj e0
  obtain rfl : v1 = u1 := Option.some.inj e1
  obtain rfl : v5 = u5 := Option.some.inj e5
  have hu := Try.underlying3
  obtain ⟨z, g0, _, w0⟩ := DataW.trod_int hu t0
  obtain ⟨o, g1, _, w1⟩ := DataW.trod_int hu t1
  simp only [List.cons.injEq, and_true] at g0 g1
  subst g0 g1
  have h5 : ∃ (A : Option Addr) (l : List UInt8) (cap : Nat), v5 = .slice A l.length cap ∧ RB W W.heap.size A l ∧ l.length ≤ cap ∧ cap ≤ maxLen := by
    rcases open_ints Try.underlying23 Try.underlying5 kitCellsByte t5 with ⟨hcs, _⟩ | ⟨a, len, cap, zs, hcs, _, hl, hm, hz, _, hcell, hwz⟩
    · simp only [List.cons.injEq, and_true] at hcs
      subst hcs
      exact ⟨none, [], 0, rfl, RB.nil _ _ _, by simp, by unfold maxLen; omega⟩
    · simp only [List.cons.injEq, and_true] at hcs
      subst hcs
      simp only [if_true] at hz
      have hll : ((zs.take len).map fun n => UInt8.ofNat n.toNat).length = len := by simp; omega
      refine ⟨some a, (zs.take len).map fun n => UInt8.ofNat n.toNat, cap, by rw [hll], fun h0 => ?_, by omega, hm⟩
      rw [hll] at h0
      obtain ⟨b, off, spot⟩ := a
      have hspot : spot = none := by simpa [Addr.add] using World.cell?_spot (hcell 0 (by omega))
      subst hspot
      have hc0 := hcell 0 (by omega)
      rw [Addr.add_lit] at hc0
      refine ⟨b, off, rfl, cell_lt hc0, fun j hj => ?_⟩
      rw [hll] at hj
      have hc := hcell j (by omega)
      rw [Addr.add_lit] at hc
      rw [hc, List.getElem_map, List.getElem_take, vb, byte_back (hwz _ (List.getElem_mem _))]
      simp [List.getD, show j < zs.length by omega]
  obtain ⟨A, l, cap, rfl, hr, hc, hm⟩ := h5
  exact ⟨z, o, A, l, cap, rfl, hr, hc, hm, bounds_i64 w0, bounds_i64 w1⟩
end
end Go.Proofs.Ytomiligjcpmnjaa
