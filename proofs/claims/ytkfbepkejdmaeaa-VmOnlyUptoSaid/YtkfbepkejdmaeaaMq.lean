/- WALKS of the laws VmTime, VmReckon. -/
import Derived.Test.YtkfbepkejdmaeaaMp
namespace Go.Proofs.Ytkfbepkejdmaeaa
set_option maxRecDepth 100000
open Go.RowKit
set_option linter.unusedVariables false

/-- a program of one operation -/
theorem frame_one (E : Env) (o : O4) (g : List Int) (hf : faultN (titB E.t) [o] = -1) (hn : 1 ≤ nxtN 1 g 0 o) : (frameN E [o] g).1 = gmN E g o := by
  unfold frameN
  rw [if_pos hf, goN_step E [o] 199 0 g (by simp)]
  show (goN E [o] 199 (nxtN 1 g 0 o) (gmN E g o)).1 = _
  rw [goN_end E [o] 199 _ _ (.inr hn)]
theorem stepz_any (w : World) (g : List Int) (t : ByteArray) (fr : Int) (A : Option Addr) (os : List O4) (cap B : Nat) (hr : RO w B A os) (hB : B ≤ w.heap.size) (hc : os.length ≤ cap) (hm : cap ≤ maxLen) (ht : t.size ≤ 549755813888) (hg : gam g) :
    Calls Try.prog 18 #[.agg #[.string t, .slice A os.length cap], .agg (gC g), .int .i64 fr, .slice none 0 0] w fun e w' => e = .returned (.agg (gC (frameN ⟨t, fr, []⟩ os g).1)) ∧ Below w.heap.size w w' :=
  step_any w g ⟨t, fr, []⟩ A os cap B none 0 hr hB hc hm ht hg (RB.nil _ _ _) (Nat.le_refl _) (by unfold maxLen; omega)
/-- a program of one operation, just made -/
theorem one_new (w : World) (k a b c : Int) (t : ByteArray) (W : World) (h : W = (w.alloc (.cells #[.int .i64 k, .int .i64 a, .int .i64 b, .int .i64 c] 44)).alloc (.cells #[.string t, .slice (some ⟨w.heap.size, 0, none⟩) 1 1] 24)) :
    RO W W.heap.size (some ⟨w.heap.size, 0, none⟩) [⟨k, a, b, c⟩] ∧ W.cell? ⟨w.heap.size + 1, 0, none⟩ = some (.string t) ∧ W.cell? ⟨w.heap.size + 1, 1, none⟩ = some (.slice (some ⟨w.heap.size, 0, none⟩) 1 1) ∧ Below w.heap.size w W ∧ W.heap.size = w.heap.size + 1 + 1 := by
  obtain ⟨o1, ho1⟩ : ∃ o : Obj, o = .cells #[.int .i64 k, .int .i64 a, .int .i64 b, .int .i64 c] 44 := ⟨_, rfl⟩
  obtain ⟨o2, ho2⟩ : ∃ o : Obj, o = .cells #[.string t, .slice (some ⟨w.heap.size, 0, none⟩) 1 1] 24 := ⟨_, rfl⟩
  rw [← ho1, ← ho2] at h
  obtain ⟨W1, h1⟩ : ∃ x, x = w.alloc o1 := ⟨_, rfl⟩
  rw [← h1] at h
  have s1 : W1.heap.size = w.heap.size + 1 := by rw [h1, World.size_alloc]
  have s2 : W.heap.size = w.heap.size + 1 + 1 := by rw [h, World.size_alloc, s1]
  have b1 : Below w.heap.size w W1 := by rw [h1]; exact (Below.refl _ _).alloc (Nat.le_refl _) _
  have b2 : Below W1.heap.size W1 W := by rw [h]; exact (Below.refl _ _).alloc (Nat.le_refl _) _
  have r1 : RO W1 W1.heap.size (some ⟨w.heap.size, 0, none⟩) [⟨k, a, b, c⟩] := by rw [s1, h1, ho1]; exact ops_new w [⟨k, a, b, c⟩]
  have c2 := two_cells (w := W1) (w1 := W) (u := .string t) (v := .slice (some ⟨w.heap.size, 0, none⟩) 1 1) (T := 24) (B := W.heap.size) (by rw [← ho2, ← h]; exact Below.refl _ _) (by omega)
  rw [s1] at c2
  exact ⟨(r1.below b2).more (by omega), c2.1, c2.2.1, b1.trans (b2.mono (by omega)), s2⟩

set_option maxHeartbeats 1000000 in
theorem time_law (fr : Int) (w : World) : Calls Try.prog 12 #[.int .i64 fr] w fun e w' => e = .returned (.bool true) ∧ Below w.heap.size w w' := by
  have hz := zeroState
  have HB := Lib.hid (begun9_any w)
  have hg' : (frameN ⟨⟨#[116, 105, 109, 101]⟩, fr, []⟩ [⟨15, 4, 0, 0⟩] (zG 32)).1 = (zG 32).set 4 (rd fr) := frame_one ⟨⟨#[116, 105, 109, 101]⟩, fr, []⟩ ⟨15, 4, 0, 0⟩ (zG 32) (show faultN (titB ⟨#[116, 105, 109, 101]⟩) [⟨15, 4, 0, 0⟩] = -1 by decide +kernel) (Nat.le_refl _)
  obtain ⟨g', hgg⟩ : ∃ g', g' = (zG 32).set 4 (rd fr) := ⟨_, rfl⟩
  have HG' := Lib.hid (hg'.trans hgg.symm)
  have HL1 : Hid (g'.length = 32) := by unfold Hid; rw [hgg]; simp [zG_length]
  have HZ1 : Hid (g'.length = (zG 32).length) := by unfold Hid; rw [hgg]; simp
  have X4 : Hid (g'[4]? = some (rd fr)) := by unfold Hid; rw [hgg]; simp [zG_length]
  clear hg' hgg
  go_enter Try.func12, Try.ntmps12
  go_wp2_with (go_at_call 13; refine HB.out.mono ?_; rintro e w1 ⟨rfl, b1⟩)
  obtain ⟨W, hW⟩ : ∃ W, W = (w1.alloc (.cells #[.int .i64 15, .int .i64 4, .int .i64 0, .int .i64 0] 44)).alloc (.cells #[.string ⟨#[116, 105, 109, 101]⟩, .slice (some ⟨w1.heap.size, 0, none⟩) 1 1] 24) := ⟨_, rfl⟩
  rw [← hW]
  obtain ⟨ro, -, -, bW, hs⟩ := one_new w1 15 4 0 0 _ W hW
  have HS := stepz_any W (zG 32) ⟨#[116, 105, 109, 101]⟩ fr (some ⟨w1.heap.size, 0, none⟩) [⟨15, 4, 0, 0⟩] 1 W.heap.size ro (Nat.le_refl _) (Nat.le_refl _) (by unfold maxLen; omega) (by decide) gam.zero
  rw [HG'.out] at HS
  refine HS.mono ?_
  rintro e w2 ⟨rfl, b2⟩
  have bw2 := b1.trans ((bW.trans (b2.mono (by omega))).mono b1.size)
  have hs1 := b1.size; have hs2 := b2.size
  clear HS ro hW b1 b2 bW
  have G2 := Lib.hid (GA.new w2 31 (zG 32))
  go_wp2_with (first
    | (with_reducible refine wpList_store_g rfl 31 (.tmp 5) (.tmp 15) rfl w2.heap.size (by with_unfolding_all rfl) 31 (zG 32) g' G2.out (by with_unfolding_all rfl) HZ1.out (by rw [HL1.out]; exact infoState) ?_; intro w3 G3 S3 R3; have H3 := Lib.hid G3; have SS := Lib.hid S3; have RR := Lib.hid R3; clear G3 S3 R3; have c4 := H3.out.cell_of X4.out))
  have HRD := Lib.hid (fun m => round_any fr (w3.drewN m))
  go_quiet (with_reducible exact same_left (HRD.out _))
  go_wp2
  go_ret
  exact ⟨rfl, below_drewN ((bw2.alloc (by omega) _).grown RR.out (by simp; omega) (by simp; omega)) _⟩
end Go.Proofs.Ytkfbepkejdmaeaa
