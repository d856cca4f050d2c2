/- WALK of the law VmCells. -/
import Derived.Test.YtkfbepkejdmaeaaMr
import Derived.Test.YtkfbepkejdmaeaaMo
namespace Go.Proofs.Ytkfbepkejdmaeaa
set_option maxRecDepth 100000
open Go.RowKit
set_option linter.unusedVariables false

/-- a program of some operations, just made -/
theorem progs_new (w : World) (os : List O4) (n : Nat) (t : ByteArray) (O : Obj) (hO : O = .cells (opsL os).toArray 44) (W : World) (h : W = (w.alloc O).alloc (.cells #[.string t, .slice (some ⟨w.heap.size, 0, none⟩) n n] 24)) :
    RO W W.heap.size (some ⟨w.heap.size, 0, none⟩) os ∧ W.cell? ⟨w.heap.size + 1, 0, none⟩ = some (.string t) ∧ W.cell? ⟨w.heap.size + 1, 1, none⟩ = some (.slice (some ⟨w.heap.size, 0, none⟩) n n) ∧ Below w.heap.size w W ∧ W.heap.size = w.heap.size + 1 + 1 := by
  obtain ⟨o2, ho2⟩ : ∃ o : Obj, o = .cells #[.string t, .slice (some ⟨w.heap.size, 0, none⟩) n n] 24 := ⟨_, rfl⟩
  rw [← ho2] at h
  obtain ⟨W1, h1⟩ : ∃ x, x = w.alloc O := ⟨_, rfl⟩
  rw [← h1] at h
  have s1 : W1.heap.size = w.heap.size + 1 := by rw [h1, World.size_alloc]
  have s2 : W.heap.size = w.heap.size + 1 + 1 := by rw [h, World.size_alloc, s1]
  have b1 : Below w.heap.size w W1 := by rw [h1]; exact (Below.refl _ _).alloc (Nat.le_refl _) _
  have b2 : Below W1.heap.size W1 W := by rw [h]; exact (Below.refl _ _).alloc (Nat.le_refl _) _
  have r1 : RO W1 W1.heap.size (some ⟨w.heap.size, 0, none⟩) os := by rw [s1, h1, hO]; exact ops_new w os
  have c2 := two_cells (w := W1) (w1 := W) (u := .string t) (v := .slice (some ⟨w.heap.size, 0, none⟩) n n) (T := 24) (B := W.heap.size) (by rw [← ho2, ← h]; exact Below.refl _ _) (by omega)
  rw [s1] at c2
  exact ⟨(r1.below b2).more (by omega), c2.1, c2.2.1, b1.trans (b2.mono (by omega)), s2⟩

def cOps : List O4 := [⟨13, 0, 1, 0⟩, ⟨12, 2, 0, 0⟩]
def cG (x y : Int) : List Int := (frameN ⟨⟨#[99, 101, 108, 108, 115]⟩, 0, []⟩ cOps (gTwo x y)).1
theorem cG_eq (x y : Int) : cG x y = ((gTwo x y).set (md x 32).toNat y).set 2 (cel ((gTwo x y).set (md x 32).toNat y) (md (cel ((gTwo x y).set (md x 32).toNat y) 0) 32)) := by
  have hf : faultN (titB (Env.t ⟨⟨#[99, 101, 108, 108, 115]⟩, 0, []⟩)) cOps = -1 := by decide +kernel
  unfold cG frameN
  rw [if_pos hf, goN_step _ cOps 199 0 _ (by decide)]
  have e1 : gmN ⟨⟨#[99, 101, 108, 108, 115]⟩, 0, []⟩ (gTwo x y) cOps[0] = (gTwo x y).set (md x 32).toNat y := by
    show (gTwo x y).set (md (cel (gTwo x y) 0) 32).toNat (cel (gTwo x y) 1) = _
    rw [gTwo_cel]; rfl
  rw [e1]
  show (goN ⟨⟨#[99, 101, 108, 108, 115]⟩, 0, []⟩ cOps 199 1 _).1 = _
  rw [goN_step _ cOps 198 1 _ (by decide)]
  show (goN ⟨⟨#[99, 101, 108, 108, 115]⟩, 0, []⟩ cOps 198 2 _).1 = _
  rw [goN_end _ cOps 198 2 _ (.inr (by decide))]
  rfl
theorem cG_gam (x y : Int) (hx : in32 x) (hy : in32 y) : gam (cG x y) := frameN_gam _ _ (gTwo_gam x y hx hy)
theorem cG_far (x y : Int) (h0 : md x 32 ≠ 0) (h1 : md x 32 ≠ 1) (h2 : md x 32 ≠ 2) : (cG x y)[(md x 32).toNat]? = some y ∧ (cG x y)[2]? = some y ∧ (cG x y)[0]? = some x ∧ (cG x y)[1]? = some y := by
  obtain ⟨m0, m1⟩ := md32 x
  have hl : (gTwo x y).length = 32 := by unfold gTwo; simp [zG_length]
  obtain ⟨k, hk⟩ := Int.eq_ofNat_of_zero_le m0
  have hc0 : cel ((gTwo x y).set (md x 32).toNat y) 0 = x := by
    unfold cel
    rw [List.getElem?_set_ne (by omega)]
    exact gTwo_cel x y
  have hck : cel ((gTwo x y).set (md x 32).toNat y) (md x 32) = y := by
    unfold cel
    rw [List.getElem?_set_self (by omega)]; rfl
  rw [cG_eq, hc0, hck]
  refine ⟨?_, ?_, ?_, ?_⟩
  · rw [List.getElem?_set_ne (by omega), List.getElem?_set_self (by omega)]
  · rw [List.getElem?_set_self (by rw [List.length_set]; omega)]
  · rw [List.getElem?_set_ne (by omega), List.getElem?_set_ne (by omega)]; rfl
  · rw [List.getElem?_set_ne (by omega), List.getElem?_set_ne (by omega)]; rfl
end Go.Proofs.Ytkfbepkejdmaeaa
