/- WALK: the begun of the laws of layer 9. -/
import Derived.Test.YtbmhdinaofepdaaMl
namespace Go.Proofs.Ytbmhdinaofepdaa
set_option maxRecDepth 100000
open Go.RowKit
set_option linter.unusedVariables false

def bOps : List O4 := [⟨1, 1, 1, 0⟩, ⟨11, 2, 1, 0⟩, ⟨14, 3, 1, 0⟩, ⟨15, 4, 0, 0⟩, ⟨0, 0, 0, 0⟩, ⟨1, 2, 9, 0⟩]
def bG1 : List Int := (frameN ⟨⟨#[97, 98]⟩, 7, [5, 6]⟩ bOps (zG 32)).1
def bG2 : List Int := (frameN ⟨⟨#[97, 98]⟩, 7, []⟩ bOps (zG 32)).1
theorem k_b1 : bG1 = [0, 1, 6, 98, 7] ++ List.replicate 27 0 := by decide +kernel
theorem k_b2 : bG2 = [0, 1, 0, 98, 7] ++ List.replicate 27 0 := by decide +kernel
theorem k_bn : (frameN ⟨⟨#[97, 98]⟩, 7, []⟩ bOps (zG 32)).2 = 5 := by decide +kernel

/-- a slice of operations, just made -/
theorem ops_new (w : World) (os : List O4) : RO (w.alloc (.cells (opsL os).toArray 46)) (w.heap.size + 1) (some ⟨w.heap.size, 0, none⟩) os := fun h0 => by
  refine ⟨_, _, rfl, Nat.lt_succ_self _, fun j hj => ?_⟩
  have e : ∀ c, c < 4 → (w.alloc (.cells (opsL os).toArray 46)).cell? ⟨w.heap.size, 0 + j * 4 + c, none⟩ = some (opF os[j] c) := fun c hc => by
    rw [cell_of_row _ _ _ _ _ _ (heap_alloc_new w _), Nat.zero_add]
    have := opsL_at os j c hj hc
    simpa using this
  exact ⟨e 0 (by omega), e 1 (by omega), e 2 (by omega), e 3 (by omega)⟩
theorem bytes_new (w : World) (l : List UInt8) : RB (w.alloc (.cells (l.map vb).toArray 5)) (w.heap.size + 1) (some ⟨w.heap.size, 0, none⟩) l := fun h0 => by
  refine ⟨_, _, rfl, Nat.lt_succ_self _, fun j hj => ?_⟩
  rw [cell_of_row _ _ _ _ _ _ (heap_alloc_new w _), Nat.zero_add]
  simp [hj]
/-- a memory's cells -/
def gM (g : List Int) (rs : List Value) : Array Value := (g.map vi ++ rs).toArray
theorem GH.new_m (w : World) (t : TypeId) (g : List Int) (rs : List Value) : GH (w.alloc (.cells (gM g rs) t)) w.heap.size t g rs := GH.new w t g rs

theorem GA.cell_of {w : World} {b : Nat} {t : TypeId} {g : List Int} (h : GA w b t g) {k : Nat} {x : Int} (hx : g[k]? = some x) : w.cell? ⟨b, k, none⟩ = some (.int .i32 x) := by
  obtain ⟨hk, rfl⟩ := List.getElem?_eq_some_iff.1 hx
  exact h.cell k hk
theorem GH.cell_of {w : World} {b : Nat} {t : TypeId} {g : List Int} {rs : List Value} (h : GH w b t g rs) {k : Nat} {x : Int} (hx : g[k]? = some x) : w.cell? ⟨b, k, none⟩ = some (.int .i32 x) := by
  obtain ⟨hk, rfl⟩ := List.getElem?_eq_some_iff.1 hx
  exact h.cell k hk
theorem GH.bad_of {w : World} {b : Nat} {t : TypeId} {g : List Int} {v : Value} (h : GH w b t g [v]) (hg : g.length = 32) : w.cell? ⟨b, 32, none⟩ = some v := by
  have := h.rest 0 (by simp)
  rw [hg] at this
  exact this

def begunV (w : World) : World := ((w.alloc (.cells #[.int .i64 1, .int .i64 1, .int .i64 1, .int .i64 0, .int .i64 11, .int .i64 2, .int .i64 1, .int .i64 0, .int .i64 14, .int .i64 3, .int .i64 1, .int .i64 0, .int .i64 15, .int .i64 4, .int .i64 0, .int .i64 0, .int .i64 0, .int .i64 0, .int .i64 0, .int .i64 0, .int .i64 1, .int .i64 2, .int .i64 9, .int .i64 0] 46)).alloc (.cells #[.string ⟨#[97, 98]⟩, .slice (some ⟨w.heap.size, 0, none⟩) 6 6] 24)).alloc (.cells #[.int .u8 5, .int .u8 6] 5)
theorem begunV_facts (w W : World) (h : W = begunV w) : RO W W.heap.size (some ⟨w.heap.size, 0, none⟩) bOps ∧ RB W W.heap.size (some ⟨w.heap.size + 1 + 1, 0, none⟩) [5, 6] ∧
    W.cell? ⟨w.heap.size + 1, 0, none⟩ = some (.string ⟨#[97, 98]⟩) ∧ W.cell? ⟨w.heap.size + 1, 1, none⟩ = some (.slice (some ⟨w.heap.size, 0, none⟩) 6 6) ∧ Below w.heap.size w W ∧ W.heap.size = w.heap.size + 1 + 1 + 1 := by
  unfold begunV at h
  obtain ⟨o1, ho1⟩ : ∃ o : Obj, o = (.cells #[.int .i64 1, .int .i64 1, .int .i64 1, .int .i64 0, .int .i64 11, .int .i64 2, .int .i64 1, .int .i64 0, .int .i64 14, .int .i64 3, .int .i64 1, .int .i64 0, .int .i64 15, .int .i64 4, .int .i64 0, .int .i64 0, .int .i64 0, .int .i64 0, .int .i64 0, .int .i64 0, .int .i64 1, .int .i64 2, .int .i64 9, .int .i64 0] 46) := ⟨_, rfl⟩
  obtain ⟨o2, ho2⟩ : ∃ o : Obj, o = .cells #[.string ⟨#[97, 98]⟩, .slice (some ⟨w.heap.size, 0, none⟩) 6 6] 24 := ⟨_, rfl⟩
  obtain ⟨o3, ho3⟩ : ∃ o : Obj, o = .cells #[.int .u8 5, .int .u8 6] 5 := ⟨_, rfl⟩
  rw [← ho1, ← ho2, ← ho3] at h
  obtain ⟨W1, h1⟩ : ∃ x, x = w.alloc o1 := ⟨_, rfl⟩
  rw [← h1] at h
  obtain ⟨W2, h2⟩ : ∃ x, x = W1.alloc o2 := ⟨_, rfl⟩
  rw [← h2] at h
  have s1 : W1.heap.size = w.heap.size + 1 := by rw [h1, World.size_alloc]
  have s2 : W2.heap.size = w.heap.size + 1 + 1 := by rw [h2, World.size_alloc, s1]
  have s3 : W.heap.size = w.heap.size + 1 + 1 + 1 := by rw [h, World.size_alloc, s2]
  have b1 : Below w.heap.size w W1 := by rw [h1]; exact (Below.refl _ _).alloc (Nat.le_refl _) _
  have b2 : Below W1.heap.size W1 W2 := by rw [h2]; exact (Below.refl _ _).alloc (Nat.le_refl _) _
  have b3 : Below W2.heap.size W2 W := by rw [h]; exact (Below.refl _ _).alloc (Nat.le_refl _) _
  have b13 : Below W1.heap.size W1 W := b2.trans (b3.mono (by omega))
  have r1 : RO W1 W1.heap.size (some ⟨w.heap.size, 0, none⟩) bOps := by rw [s1, h1, ho1]; exact ops_new w bOps
  have r3 : RB W W.heap.size (some ⟨w.heap.size + 1 + 1, 0, none⟩) [5, 6] := by rw [s3, ← s2, h, ho3]; exact bytes_new W2 [5, 6]
  have c2 := two_cells (w := W1) (w1 := W) (u := .string ⟨#[97, 98]⟩) (v := .slice (some ⟨w.heap.size, 0, none⟩) 6 6) (T := 24) (B := W2.heap.size) (by rw [← ho2, ← h2]; exact b3) (by omega)
  rw [s1] at c2
  exact ⟨(r1.below b13).more (by omega), r3, c2.1, c2.2.1, b1.trans (b13.mono (by omega)), s3⟩

end Go.Proofs.Ytbmhdinaofepdaa
