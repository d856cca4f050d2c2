/- WALKS over package quintainref1: Step whole. -/
import Derived.Test.YtbmhdinaofepdaaMn
namespace Go.Proofs.Ytbmhdinaofepdaa
set_option maxRecDepth 100000
open Go.RowKit
set_option linter.unusedVariables false

theorem refstep_not (w : World) (g : List Int) (E : Env) (A : Option Addr) (os : List O4) (cap : Nat) (PV : Value) (hr : RO w w.heap.size A os) (hc : os.length ≤ cap) (hm : cap ≤ maxLen) (ht : E.t.size ≤ 1000000)
    (hg : gam g) (hf : (faultN (titB E.t) os != -1) = true) :
    Calls Try.prog 15 #[progV E.t A os.length cap, .agg (gC g), .int .i64 E.fr, PV] w fun e w' => e = .returned (.tuple #[.agg (gC g), .int .i64 0]) ∧ Below w.heap.size w w' := by
  have hz := zeroGame
  obtain ⟨W0, hW0⟩ : ∃ W0, W0 = (((w.alloc (.cells #[.string E.t, .slice A os.length cap] 24)).alloc (.cells (gC g) 33)).alloc (.cells (gC (zG 32)) 33)) := ⟨_, rfl⟩
  have bw : Below w.heap.size w W0 := by rw [hW0]; exact (((Below.refl _ _).alloc (Nat.le_refl _) _).alloc (by simp) _).alloc (by simp; omega) _
  have G5 : GA W0 (w.heap.size + 1) 33 g := by rw [hW0]; have := (GA.new (w.alloc (.cells #[.string E.t, .slice A os.length cap] 24)) 33 g).alloc (.cells (gC (zG 32)) 33); simpa only [World.size_alloc] using this
  have G8 : GA W0 (w.heap.size + 1 + 1) 33 (zG 32) := by rw [hW0]; have := GA.new ((w.alloc (.cells #[.string E.t, .slice A os.length cap] 24)).alloc (.cells (gC g) 33)) 33 (zG 32); simpa only [World.size_alloc] using this
  have hs0 : W0.heap.size = w.heap.size + 1 + 1 + 1 := by rw [hW0]; simp
  have HFt := Lib.hid (reffault_any E.t A os cap w.heap.size W0 (hr.below bw) bw.size hc hm (by omega))
  unfold progV at HFt ⊢
  generalize faultN (titB E.t) os = z at *
  have HW0 := Lib.hid hW0
  have HG5 := Lib.hid G5; have HG8 := Lib.hid G8
  have HL0 := Lib.hid (gam_len hg)
  have HL1 := Lib.hid hg.1
  clear hr hg G5 G8 hW0
  go_enter Try.func15, Try.ntmps15
  go_wp2_with fail
  rw [← HW0.out]
  clear hz
  refine HFt.out.mono ?_
  rintro e w1 ⟨rfl, hb1⟩
  have g5 := Lib.hid (HG5.out.below hb1 (by omega))
  have g8 := Lib.hid (HG8.out.below hb1 (by omega))
  have bw1 := bw.trans (hb1.mono bw.size)
  have hs1 := hb1.size
  clear hb1 HFt HG5 HG8 bw
  go_wp2_with (first
    | (with_reducible refine wpList_load_g rfl 33 (.tmp 5) rfl (w.heap.size + 1) (by with_unfolding_all rfl) 33 g g5.out Try.underlying33 (by rw [HL1.out]; exact infoGame) ?_)
    | (with_reducible refine wpList_store_g rfl 33 (.tmp 8) (.tmp 19) rfl (w.heap.size + 1 + 1) (by with_unfolding_all rfl) 33 (zG 32) g g8.out (by with_unfolding_all rfl) HL0.out (by rw [HL1.out]; exact infoGame) ?_; intro w7 G7 S7 R7))
  exact bodyPost_ret (results_g2 rfl G7 rfl (v := .int .i64 0) rfl Try.underlying33 (by rw [HL1.out]; exact infoGame)) rfl ⟨rfl, bw1.grown R7 (by omega) (by simp; omega)⟩
theorem refstep_any (w : World) (g : List Int) (E : Env) (A : Option Addr) (os : List O4) (cap : Nat) (PA : Option Addr) (pc : Nat) (hr : RO w w.heap.size A os) (hc : os.length ≤ cap) (hm : cap ≤ maxLen) (ht : E.t.size ≤ 1000000)
    (hg : gam g) (hl : RB w w.heap.size PA E.l) (hpl : E.l.length ≤ pc) (hpm : pc ≤ maxLen) :
    Calls Try.prog 15 #[progV E.t A os.length cap, .agg (gC g), .int .i64 E.fr, .slice PA E.l.length pc] w fun e w' => e = .returned (.tuple #[.agg (gC (frameN E os g).1), .int .i64 ((frameN E os g).2 : Nat)]) ∧ Below w.heap.size w w' := by
  by_cases hf : faultN (titB E.t) os = -1
  · have e : frameN E os g = goN E os 200 0 g := by unfold frameN; rw [if_pos hf]
    rw [e]
    exact refstep_may w g E A os cap 0 PA pc hr hc hm ht hg hl hpl hpm hf
  · have e : frameN E os g = (g, 0) := by unfold frameN; rw [if_neg hf]
    rw [e]
    exact refstep_not w g E A os cap _ hr hc hm ht hg (by simpa using hf)
end Go.Proofs.Ytbmhdinaofepdaa
