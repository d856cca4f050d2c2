/- MEMORY AND FRAME: slices of slices of bytes: read, cut, opened as an argument. Of every seat that has [][]uint8. -/
import Derived.Test.YtbmhdinaofepdaaKb
import Derived.Deep.Slices
import Derived.ChangeSame
import Derived.Lib.SmallJoins
namespace Go.Proofs.Ytbmhdinaofepdaa
set_option maxRecDepth 100000
open Go.Joins Go.ChangeShapes Go.WideShapes Go.ChangeAt Go.RowKit Go.Deep
set_option linter.unusedVariables false
set_option linter.unusedSimpArgs false

/-- one of the rows: what lies in its cell -/
structure PressAt (w : World) (B : Nat) (p : Addr) (l : List UInt8) (a : Option Addr) (c : Nat) : Prop where
  cell : w.cell? p = some (.slice a l.length c)
  rb : RB w B a l
  le : l.length ≤ c
  cm : c ≤ maxLen
/-- a slice value at A reads as the rows ps, all below block B -/
def RP (w : World) (B : Nat) (A : Option Addr) (ps : List (List UInt8)) : Prop :=
  0 < ps.length → ∃ g off, A = some ⟨g, off, none⟩ ∧ g < B ∧ ∀ j l, ps[j]? = some l → ∃ a c, PressAt w B ⟨g, off + j, none⟩ l a c
theorem RP.nil (w : World) (B : Nat) (A : Option Addr) : RP w B A [] := fun h => absurd h (by simp)
theorem PressAt.below {w w' : World} {B : Nat} {p : Addr} {l : List UInt8} {a : Option Addr} {c : Nat} (h : PressAt w B p l a c) (hb : Below B w w') (hp : p.block < B) : PressAt w' B p l a c :=
  ⟨(hb.cell hp).trans h.cell, h.rb.below hb, h.le, h.cm⟩
theorem RP.below {w w' : World} {B : Nat} {A : Option Addr} {ps : List (List UInt8)} (h : RP w B A ps) (hb : Below B w w') : RP w' B A ps := fun h0 => by
  obtain ⟨g, off, e, hlt, hc⟩ := h h0
  refine ⟨g, off, e, hlt, fun j l hj => ?_⟩
  obtain ⟨a, c, q⟩ := hc j l hj
  exact ⟨a, c, q.below hb hlt⟩
theorem RP.more {w : World} {B B' : Nat} {A : Option Addr} {ps : List (List UInt8)} (h : RP w B A ps) (hB : B ≤ B') : RP w B' A ps := fun h0 => by
  obtain ⟨g, off, e, hlt, hc⟩ := h h0
  refine ⟨g, off, e, by omega, fun j l hj => ?_⟩
  obtain ⟨a, c, q⟩ := hc j l hj
  exact ⟨a, c, q.cell, q.rb.more hB, q.le, q.cm⟩
theorem RP.then_ {w w' : World} {B : Nat} {A : Option Addr} {ps : List (List UInt8)} (h : RP w B A ps) (hB : B ≤ w.heap.size) (hb : Below w.heap.size w w') : RP w' w'.heap.size A ps := (h.below (hb.mono hB)).more (Nat.le_trans hB hb.size)
theorem RP.take {w : World} {B : Nat} {A : Option Addr} {ps : List (List UInt8)} (h : RP w B A ps) (k : Nat) : RP w B A (ps.take k) := fun h0 => by
  rw [List.length_take] at h0
  obtain ⟨g, off, e, hlt, hc⟩ := h (by omega)
  refine ⟨g, off, e, hlt, fun j l hj => hc j l ?_⟩
  rw [List.getElem?_take] at hj
  split at hj
  · exact hj
  · cases hj
theorem RP.cut {w : World} {B : Nat} {A : Option Addr} {ps : List (List UInt8)} (h : RP w B A ps) (k cap : Nat) (hk : k ≤ ps.length) (hc : ps.length ≤ cap) : RP w B (if cap = k then A else A.map (·.add k)) (ps.drop k) := fun h0 => by
  rw [List.length_drop] at h0
  obtain ⟨g, off, rfl, hlt, hcell⟩ := h (by omega)
  rw [if_neg (by omega)]
  refine ⟨g, off + k, by simp [Addr.add_lit], hlt, fun j l hj => ?_⟩
  rw [List.getElem?_drop] at hj
  rw [Nat.add_assoc]
  exact hcell (k + j) l hj
/-- a row looked at -/
theorem RP.at {w : World} {B : Nat} {A : Option Addr} {ps : List (List UInt8)} (h : RP w B A ps) (j : Nat) (l : List UInt8) (hj : ps[j]? = some l) : ∃ g off a c, A = some ⟨g, off, none⟩ ∧ g < B ∧ PressAt w B ⟨g, off + j, none⟩ l a c := by
  have h0 := (List.getElem?_eq_some_iff.1 hj).1
  obtain ⟨g, off, e, hlt, hc⟩ := h (by omega)
  obtain ⟨a, c, q⟩ := hc j l hj
  exact ⟨g, off, a, c, e, hlt, q⟩
section
variable {H : Type} {enc : TypeId × Value → H}
theorem bytes_at {W : World} {v : Value} {fuel : Nat} {y : DataW H × List MemPlace} (hf : DataW.trod enc Try.prog W 0 (fun _ => true) true fuel 43 [v] = some y) :
    ∃ (A : Option Addr) (l : List UInt8) (cap : Nat), v = .slice A l.length cap ∧ RB W W.heap.size A l ∧ l.length ≤ cap ∧ cap ≤ maxLen := by
  rcases open_ints Try.underlying43 Try.underlying5 kitCellsByte hf with ⟨hcs, _⟩ | ⟨a, len, cap, zs, hcs, _, hl, hm, hz, _, hcell, hwz⟩
  · simp only [List.cons.injEq, and_true] at hcs
    subst hcs
    exact ⟨none, [], 0, rfl, RB.nil _ _ _, by simp, by unfold maxLen; omega⟩
  · simp only [List.cons.injEq, and_true] at hcs
    subst hcs
    simp only [if_true] at hz
    have hll : ((zs.take len).map fun n => UInt8.ofNat n.toNat).length = len := by simp; omega
    refine ⟨some a, (zs.take len).map fun n => UInt8.ofNat n.toNat, cap, by rw [hll], fun h0 => ?_, by omega, hm⟩
    rw [hll] at h0
    obtain ⟨b, off, spot⟩ := a
    have hspot : spot = none := by simpa [Addr.add] using World.cell?_spot (hcell 0 (by omega))
    subst hspot
    have hc0 := hcell 0 (by omega)
    rw [Addr.add_lit] at hc0
    refine ⟨b, off, rfl, cell_lt hc0, fun j hj => ?_⟩
    rw [hll] at hj
    have hc := hcell j (by omega)
    rw [Addr.add_lit] at hc
    rw [hc, List.getElem_map, List.getElem_take, vb, byte_back (hwz _ (List.getElem_mem _))]
    simp [List.getD, show j < zs.length by omega]
theorem open_rows {W : World} {base : Nat} {v : Value} {d : DataW H} {p : List MemPlace} (hval : Value.okWide Try.prog W .any base 26 v) (h : DataW.Trod enc Try.prog W 0 (fun _ => true) true 26 v d p) :
    ∃ A ps cap, v = .slice A (ps : List (List UInt8)).length cap ∧ RP W W.heap.size A ps ∧ ps.length ≤ cap ∧ cap ≤ maxLen := by
  obtain ⟨a1, len1, cap1, rfl⟩ := okWide_slice Try.underlying26 hval
  obtain ⟨fuel, h⟩ := h
  rcases open_slice1 Try.underlying26 (by kernel_rfl) h with ⟨hcs, _⟩ | ⟨a, len, cap, m, n, V, D, Pl, hcs, _, hl, hm, hmm, _, hi⟩
  · simp [Value.cells] at hcs
    obtain ⟨rfl, rfl, rfl⟩ := hcs
    exact ⟨none, [], 0, rfl, RP.nil _ _ _, by simp, by unfold maxLen; omega⟩
  · simp [Value.cells] at hcs
    obtain ⟨rfl, rfl, rfl⟩ := hcs
    simp only [if_true] at hmm
    have hx : ∀ i, i < len1 → ∃ l : List UInt8, ∃ A c, W.cell? (a.add i) = some (.slice A l.length c) ∧ RB W W.heap.size A l ∧ l.length ≤ c ∧ c ≤ maxLen := fun i hil => by
      obtain ⟨c0, t0⟩ := hi i (by omega)
      obtain ⟨A, l, c, e, r, h1, h2⟩ := bytes_at t0
      exact ⟨l, A, c, by rw [c0, e], r, h1, h2⟩
    obtain ⟨f, hf⟩ : ∃ f : Nat → List UInt8, ∀ i, i < len1 → ∃ A c, W.cell? (a.add i) = some (.slice A (f i).length c) ∧ RB W W.heap.size A (f i) ∧ (f i).length ≤ c ∧ c ≤ maxLen :=
      ⟨fun i => if h : i < len1 then Classical.choose (hx i h) else [], fun i h => by simp only [dif_pos h]; exact Classical.choose_spec (hx i h)⟩
    refine ⟨some a, (List.range len1).map f, cap1, by simp, fun h0 => ?_, by simpa using hl, hm⟩
    simp only [List.length_map, List.length_range] at h0
    obtain ⟨b, off, spot⟩ := a
    have hspot : spot = none := by
      obtain ⟨A, c, h1, -⟩ := hf 0 (by omega)
      simpa [Addr.add] using World.cell?_spot h1
    subst hspot
    have hlt : b < W.heap.size := by
      obtain ⟨A, c, h1, -⟩ := hf 0 (by omega)
      rw [Addr.add_lit] at h1
      exact cell_lt h1
    refine ⟨b, off, rfl, hlt, fun j l hj => ?_⟩
    rw [List.getElem?_map] at hj
    have hj1 : j < len1 := by
      rcases Nat.lt_or_ge j len1 with c | c
      · exact c
      · rw [List.getElem?_eq_none (by simp; omega)] at hj; cases hj
    rw [List.getElem?_range hj1] at hj
    obtain rfl := Option.some.inj hj
    obtain ⟨A, c, h1, h2, h3, h4⟩ := hf j hj1
    rw [Addr.add_lit] at h1
    exact ⟨A, c, h1, h2, h3, h4⟩
end
end Go.Proofs.Ytbmhdinaofepdaa
