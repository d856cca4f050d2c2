/- WALK: the begun of the laws of layer 9. -/
import Derived.Test.YtkfbepkejdmaeaaMl
namespace Go.Proofs.Ytkfbepkejdmaeaa
set_option maxRecDepth 100000
open Go.RowKit
set_option linter.unusedVariables false

def bOps : List O4 := [⟨1, 1, 1, 0⟩, ⟨11, 2, 1, 0⟩, ⟨14, 3, 1, 0⟩, ⟨15, 4, 0, 0⟩, ⟨0, 0, 0, 0⟩, ⟨1, 2, 9, 0⟩]
def bG1 : List Int := (frameN ⟨⟨#[97, 98]⟩, 7, [5, 6]⟩ bOps (zG 32)).1
def bG2 : List Int := (frameN ⟨⟨#[97, 98]⟩, 7, []⟩ bOps (zG 32)).1
theorem k_b1 : bG1 = [0, 1, 6, 98, 7] ++ List.replicate 27 0 := by decide +kernel
theorem k_b2 : bG2 = [0, 1, 0, 98, 7] ++ List.replicate 27 0 := by decide +kernel
theorem k_bn : (frameN ⟨⟨#[97, 98]⟩, 7, []⟩ bOps (zG 32)).2 = 5 := by decide +kernel

/-- a slice of operations, just made -/
theorem ops_new (w : World) (os : List O4) : RO (w.alloc (.cells (opsL os).toArray 44)) (w.heap.size + 1) (some ⟨w.heap.size, 0, none⟩) os := fun h0 => by
  refine ⟨_, _, rfl, Nat.lt_succ_self _, fun j hj => ?_⟩
  have e : ∀ c, c < 4 → (w.alloc (.cells (opsL os).toArray 44)).cell? ⟨w.heap.size, 0 + j * 4 + c, none⟩ = some (opF os[j] c) := fun c hc => by
    rw [cell_of_row _ _ _ _ _ _ (heap_alloc_new w _), Nat.zero_add]
    have := opsL_at os j c hj hc
    simpa using this
  exact ⟨e 0 (by omega), e 1 (by omega), e 2 (by omega), e 3 (by omega)⟩
theorem bytes_new (w : World) (l : List UInt8) : RB (w.alloc (.cells (l.map vb).toArray 5)) (w.heap.size + 1) (some ⟨w.heap.size, 0, none⟩) l := fun h0 => by
  refine ⟨_, _, rfl, Nat.lt_succ_self _, fun j hj => ?_⟩
  rw [cell_of_row _ _ _ _ _ _ (heap_alloc_new w _), Nat.zero_add]
  simp [hj]
/-- a memory's cells -/
def gM (g : List Int) (rs : List Value) : Array Value := (g.map vi ++ rs).toArray
theorem infoMem : (Try.prog.info? 39).map (·.size) = some 33 := by kernel_rfl
theorem zeroMem (w : World) : (zeroValue 39).run Try.prog w = .ok (.agg (gM (zG 32) [.bool false])) w :=
  (zero_of_info (P := Try.prog) (t := 39) (v := .agg (gM (zG 32) [.bool false])) (n := 33) (by kernel_rfl)).1 w
theorem GH.new_m (w : World) (t : TypeId) (g : List Int) (rs : List Value) : GH (w.alloc (.cells (gM g rs) t)) w.heap.size t g rs := GH.new w t g rs

theorem GA.cell_of {w : World} {b : Nat} {t : TypeId} {g : List Int} (h : GA w b t g) {k : Nat} {x : Int} (hx : g[k]? = some x) : w.cell? ⟨b, k, none⟩ = some (.int .i32 x) := by
  obtain ⟨hk, rfl⟩ := List.getElem?_eq_some_iff.1 hx
  exact h.cell k hk
theorem GH.cell_of {w : World} {b : Nat} {t : TypeId} {g : List Int} {rs : List Value} (h : GH w b t g rs) {k : Nat} {x : Int} (hx : g[k]? = some x) : w.cell? ⟨b, k, none⟩ = some (.int .i32 x) := by
  obtain ⟨hk, rfl⟩ := List.getElem?_eq_some_iff.1 hx
  exact h.cell k hk
theorem GH.bad_of {w : World} {b : Nat} {t : TypeId} {g : List Int} {v : Value} (h : GH w b t g [v]) (hg : g.length = 32) : w.cell? ⟨b, 32, none⟩ = some v := by
  have := h.rest 0 (by simp)
  rw [hg] at this
  exact this

def begunV (w : World) : World := ((w.alloc (.cells #[.int .i64 1, .int .i64 1, .int .i64 1, .int .i64 0, .int .i64 11, .int .i64 2, .int .i64 1, .int .i64 0, .int .i64 14, .int .i64 3, .int .i64 1, .int .i64 0, .int .i64 15, .int .i64 4, .int .i64 0, .int .i64 0, .int .i64 0, .int .i64 0, .int .i64 0, .int .i64 0, .int .i64 1, .int .i64 2, .int .i64 9, .int .i64 0] 44)).alloc (.cells #[.string ⟨#[97, 98]⟩, .slice (some ⟨w.heap.size, 0, none⟩) 6 6] 24)).alloc (.cells #[.int .u8 5, .int .u8 6] 5)
theorem begunV_facts (w W : World) (h : W = begunV w) : RO W W.heap.size (some ⟨w.heap.size, 0, none⟩) bOps ∧ RB W W.heap.size (some ⟨w.heap.size + 1 + 1, 0, none⟩) [5, 6] ∧
    W.cell? ⟨w.heap.size + 1, 0, none⟩ = some (.string ⟨#[97, 98]⟩) ∧ W.cell? ⟨w.heap.size + 1, 1, none⟩ = some (.slice (some ⟨w.heap.size, 0, none⟩) 6 6) ∧ Below w.heap.size w W ∧ W.heap.size = w.heap.size + 1 + 1 + 1 := by
  unfold begunV at h
  obtain ⟨o1, ho1⟩ : ∃ o : Obj, o = (.cells #[.int .i64 1, .int .i64 1, .int .i64 1, .int .i64 0, .int .i64 11, .int .i64 2, .int .i64 1, .int .i64 0, .int .i64 14, .int .i64 3, .int .i64 1, .int .i64 0, .int .i64 15, .int .i64 4, .int .i64 0, .int .i64 0, .int .i64 0, .int .i64 0, .int .i64 0, .int .i64 0, .int .i64 1, .int .i64 2, .int .i64 9, .int .i64 0] 44) := ⟨_, rfl⟩
  obtain ⟨o2, ho2⟩ : ∃ o : Obj, o = .cells #[.string ⟨#[97, 98]⟩, .slice (some ⟨w.heap.size, 0, none⟩) 6 6] 24 := ⟨_, rfl⟩
  obtain ⟨o3, ho3⟩ : ∃ o : Obj, o = .cells #[.int .u8 5, .int .u8 6] 5 := ⟨_, rfl⟩
  rw [← ho1, ← ho2, ← ho3] at h
  obtain ⟨W1, h1⟩ : ∃ x, x = w.alloc o1 := ⟨_, rfl⟩
  rw [← h1] at h
  obtain ⟨W2, h2⟩ : ∃ x, x = W1.alloc o2 := ⟨_, rfl⟩
  rw [← h2] at h
  have s1 : W1.heap.size = w.heap.size + 1 := by rw [h1, World.size_alloc]
  have s2 : W2.heap.size = w.heap.size + 1 + 1 := by rw [h2, World.size_alloc, s1]
  have s3 : W.heap.size = w.heap.size + 1 + 1 + 1 := by rw [h, World.size_alloc, s2]
  have b1 : Below w.heap.size w W1 := by rw [h1]; exact (Below.refl _ _).alloc (Nat.le_refl _) _
  have b2 : Below W1.heap.size W1 W2 := by rw [h2]; exact (Below.refl _ _).alloc (Nat.le_refl _) _
  have b3 : Below W2.heap.size W2 W := by rw [h]; exact (Below.refl _ _).alloc (Nat.le_refl _) _
  have b13 : Below W1.heap.size W1 W := b2.trans (b3.mono (by omega))
  have r1 : RO W1 W1.heap.size (some ⟨w.heap.size, 0, none⟩) bOps := by rw [s1, h1, ho1]; exact ops_new w bOps
  have r3 : RB W W.heap.size (some ⟨w.heap.size + 1 + 1, 0, none⟩) [5, 6] := by rw [s3, ← s2, h, ho3]; exact bytes_new W2 [5, 6]
  have c2 := two_cells (w := W1) (w1 := W) (u := .string ⟨#[97, 98]⟩) (v := .slice (some ⟨w.heap.size, 0, none⟩) 6 6) (T := 24) (B := W2.heap.size) (by rw [← ho2, ← h2]; exact b3) (by omega)
  rw [s1] at c2
  exact ⟨(r1.below b13).more (by omega), r3, c2.1, c2.2.1, b1.trans (b13.mono (by omega)), s3⟩

set_option maxHeartbeats 4000000 in
theorem begun9_any (w : World) : Calls Try.prog 13 #[] w fun e w' => e = .returned (.bool true) ∧ Below w.heap.size w w' := by
  have hz := zeroState
  have hzm := zeroMem
  obtain ⟨W, hW⟩ : ∃ W, W = begunV w := ⟨_, rfl⟩
  obtain ⟨ro, rb, c0, c1, bW, hs⟩ := begunV_facts w W hW
  unfold begunV at hW
  have hB1 := k_b1; have hB2 := k_b2
  have hl1 : bG1.length = 32 := by rw [hB1]; rfl
  have hl2 : bG2.length = 32 := by rw [hB2]; rfl
  have HZ1 := Lib.hid (show bG1.length = (zG 32).length by rw [hl1, zG_length])
  have HL1 := Lib.hid hl1
  have HW := Lib.hid hW; have RO' := Lib.hid ro; have RB' := Lib.hid rb; have C0 := Lib.hid c0; have C1 := Lib.hid c1
  have HS : Hid (Calls Try.prog 18 #[progV ⟨#[97, 98]⟩ (some ⟨w.heap.size, 0, none⟩) 6 6, .agg (gC (zG 32)), .int .i64 7, .slice (some ⟨w.heap.size + 1 + 1, 0, none⟩) 2 2] W fun e w' => e = .returned (.agg (gC bG1)) ∧ Below W.heap.size W w') := (step_any W (zG 32) ⟨⟨#[97, 98]⟩, 7, [5, 6]⟩ (some ⟨w.heap.size, 0, none⟩) bOps 6 W.heap.size (some ⟨w.heap.size + 1 + 1, 0, none⟩) 2 ro (Nat.le_refl _) (by decide) (by unfold maxLen; omega) (by decide) gam.zero rb (by decide) (by unfold maxLen; omega))
  have X2 : Hid (bG1[2]? = some 6) := by unfold Hid; rw [hB1]; rfl
  have X3 : Hid (bG1[3]? = some 98) := by unfold Hid; rw [hB1]; rfl
  have X4 : Hid (bG1[4]? = some 7) := by unfold Hid; rw [hB1]; rfl
  have Y2 : Hid (bG2[2]? = some 0) := by unfold Hid; rw [hB2]; rfl
  clear hW ro rb c0 c1 hl1 hB1 hB2
  go_enter Try.func13, Try.ntmps13
  go_wp2_with fail
  rw [← HW.out]
  refine HS.out.mono ?_
  rintro e w1 ⟨rfl, b1⟩
  have G2 := Lib.hid (GA.new w1 31 (zG 32))
  have bw1 := bW.trans (b1.mono bW.size)
  have hs1 := b1.size
  go_wp2_with (first
    | (with_reducible refine wpList_store_g rfl 31 (.tmp 2) (.tmp 15) rfl w1.heap.size (by with_unfolding_all rfl) 31 (zG 32) bG1 G2.out (by with_unfolding_all rfl) HZ1.out (by rw [HL1.out]; exact infoState) ?_; intro w2 G3 S3 R3; have H3 := Lib.hid G3; have SS := Lib.hid S3; have RR := Lib.hid R3; clear G3 S3 R3; have HA := Lib.hid (H3.out.alloc (.cells (gM (zG 32) [.bool false]) 39)); have c2 := HA.out.cell_of X2.out; have c3 := HA.out.cell_of X3.out; have c4 := HA.out.cell_of X4.out; have hb2 := Lib.hid ((bw1.alloc (by omega) _).grown RR.out (by simp; omega) (by simp; omega)); have p0 := (hb2.out.trans (((Below.refl w2.heap.size w2).alloc (Nat.le_refl _) (.cells (gM (zG 32) [.bool false]) 39)).mono hb2.out.size)); have k0 := (b1.cell (p := ⟨w.heap.size + 1, 0, none⟩) (show w.heap.size + 1 < W.heap.size by omega)).trans C0.out; have k1 := (b1.cell (p := ⟨w.heap.size + 1, 1, none⟩) (show w.heap.size + 1 < W.heap.size by omega)).trans C1.out; have K0 := Lib.hid (grown_cell RR.out (((Below.refl w1.heap.size w1).alloc (Nat.le_refl _) (.cells (gC (zG 32)) 31)).cell (p := ⟨w.heap.size + 1, 0, none⟩) (cell_lt k0) |>.trans k0) (by simp; omega)); have K1 := Lib.hid (grown_cell RR.out (((Below.refl w1.heap.size w1).alloc (Nat.le_refl _) (.cells (gC (zG 32)) 31)).cell (p := ⟨w.heap.size + 1, 1, none⟩) (cell_lt k1) |>.trans k1) (by simp; omega)); clear k0 k1; have m0 := ((Below.refl w2.heap.size w2).alloc (Nat.le_refl _) (.cells (gM (zG 32) [.bool false]) 39)).cell (p := ⟨w.heap.size + 1, 0, none⟩) (cell_lt K0.out) |>.trans K0.out; have m1 := ((Below.refl w2.heap.size w2).alloc (Nat.le_refl _) (.cells (gM (zG 32) [.bool false]) 39)).cell (p := ⟨w.heap.size + 1, 1, none⟩) (cell_lt K1.out) |>.trans K1.out))
  have hbW : Below W.heap.size W (w2.alloc (.cells (gM (zG 32) [.bool false]) 39)) := (((b1.alloc (by omega) _).grown RR.out (by simp; omega) (by simp; omega)).alloc (by have := SS.out; simp at this; omega) _)
  have HRn : Hid (Calls Try.prog 19 #[.agg #[.string ⟨#[97, 98]⟩, .slice (some ⟨w.heap.size, 0, none⟩) 6 6], .iface 37 (.pointer (some ⟨w2.heap.size, 0, none⟩)), .int .i64 7, .slice none 0 0] (w2.alloc (.cells (gM (zG 32) [.bool false]) 39)) fun e w' => e = .returned (.int .i64 5) ∧ GH w' w2.heap.size 39 bG2 [.bool false] ∧ (w2.alloc (.cells (gM (zG 32) [.bool false]) 39)).grownBy w' (some w2.heap.size)) := by
    have h := run_m (w2.alloc (.cells (gM (zG 32) [.bool false]) 39)) w2.heap.size (zG 32) ⟨⟨#[97, 98]⟩, 7, []⟩ (some ⟨w.heap.size, 0, none⟩) bOps 6 W.heap.size none 0 (RO'.out.below hbW) hbW.size (by decide) (by unfold maxLen; omega) (by decide) (GH.new_m w2 _ _ _) gam.zero (RB.nil _ _ _) (by decide) (by unfold maxLen; omega)
    rw [k_bn] at h
    exact h
  refine HRn.out.mono ?_
  rintro e w4 ⟨rfl, h4, r4⟩
  have d2 := h4.cell_of Y2.out
  have d32 := h4.bad_of hl2
  have n0 := grown_cell r4 m0 (by simp; have := SS.out; simp at this; omega)
  have n1 := grown_cell r4 m1 (by simp; have := SS.out; simp at this; omega)
  have hb4 := Lib.hid (p0.grown r4 (by simp; have := hb2.out.size; omega) (by simp; exact hb2.out.size))
  clear h4 r4 m0 m1 c2 c3 c4 p0 hbW HRn b1 bw1
  go_wp2_with (go_at_call 19; refine (run_nil _ _ _ _ _ _ _).mono ?_; rintro e w5 ⟨rfl, b5⟩)
  go_ret
  exact ⟨rfl, hb4.out.trans (b5.mono hb4.out.size)⟩
end Go.Proofs.Ytkfbepkejdmaeaa
