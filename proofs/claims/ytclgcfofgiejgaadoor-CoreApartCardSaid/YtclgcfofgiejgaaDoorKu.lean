/- THE FRAME of a law: lists of numbers of 32 bits without sign opened. Of every seat that has []uint32. -/
import Derived.Test.YtclgcfofgiejgaaDoorKb
namespace Go.Proofs.YtclgcfofgiejgaaDoor
set_option maxRecDepth 100000
open Go.ChangeShapes Go.WideShapes Go.ChangeAt Go.RowKit
set_option linter.unusedVariables false

/-- a slice reads as these numbers of 32 bits without sign, in blocks below n -/
def RU (w : World) (n : Nat) (A : Option Addr) (l : List Int) : Prop := 0 < l.length → ∃ b off, A = some ⟨b, off, none⟩ ∧ b < n ∧ ∀ (j : Nat) (hj : j < l.length), w.cell? ⟨b, off + j, none⟩ = some (.int .u32 (l[j]'hj))
theorem RU.take {w : World} {n : Nat} {A : Option Addr} {l : List Int} (h : RU w n A l) (k : Nat) : RU w n A (l.take k) := fun h0 => by
  rw [List.length_take] at h0
  obtain ⟨b, off, h1, h2, h3⟩ := h (by omega)
  refine ⟨b, off, h1, h2, fun j hj => ?_⟩
  rw [List.length_take] at hj
  rw [List.getElem_take]
  exact h3 j (by omega)
theorem kitCellsU32 : Tryd.prog.cellsOf 31 = 1 := by kernel_rfl
section
variable {H : Type} {enc : TypeId × Value → H}
theorem open_u32list {W : World} {base : Nat} {v : Value} {d : DataW H} {p : List MemPlace} (hval : Value.okWide Tryd.prog W .any base 59 v) (h : DataW.Trod enc Tryd.prog W 0 (fun _ => true) true 59 v d p) :
    ∃ A zs cap, v = .slice A (zs : List Int).length cap ∧ RU W W.heap.size A zs ∧ zs.length ≤ cap ∧ cap ≤ maxLen ∧ ∀ z ∈ zs, 0 ≤ z ∧ z ≤ 4294967295 := by
  obtain ⟨a1, len, cap, rfl⟩ := okWide_slice Tryd.underlying59 hval
  obtain ⟨fuel, hf⟩ := h
  rcases open_ints Tryd.underlying59 Tryd.underlying31 kitCellsU32 hf with ⟨hcs, _⟩ | ⟨a, len', cap', zs, hcs, _, hl, hm, hz, _, hcell, hwz⟩
  · simp [Value.cells] at hcs
    obtain ⟨rfl, rfl, rfl⟩ := hcs
    exact ⟨none, [], 0, rfl, fun h => absurd h (by simp), by simp, by unfold maxLen; omega, fun z hz => by cases hz⟩
  · simp [Value.cells] at hcs
    obtain ⟨rfl, rfl, rfl⟩ := hcs
    simp only [if_true] at hz
    have hll : (zs.take len).length = len := by simp; omega
    refine ⟨some a, zs.take len, cap, by rw [hll], fun h0 => ?_, by omega, hm, fun z hz => bounds_u32 (hwz z (List.mem_of_mem_take hz))⟩
    rw [hll] at h0
    obtain ⟨b, off, spot⟩ := a
    have hspot : spot = none := by simpa [Addr.add] using World.cell?_spot (hcell 0 (by omega))
    subst hspot
    have hc0 := hcell 0 (by omega)
    rw [Addr.add_lit] at hc0
    refine ⟨b, off, rfl, cell_lt hc0, fun j hj => ?_⟩
    rw [hll] at hj
    have hc := hcell j (by omega)
    rw [Addr.add_lit] at hc
    rw [hc, List.getElem_take]
    simp [List.getD, show j < zs.length by omega]
end
end Go.Proofs.YtclgcfofgiejgaaDoor
