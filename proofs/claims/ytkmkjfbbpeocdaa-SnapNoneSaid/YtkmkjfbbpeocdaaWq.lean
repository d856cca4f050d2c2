/- WALK: SnapNone. -/
import Derived.Test.YtkmkjfbbpeocdaaWp
namespace Go.Proofs.Ytkmkjfbbpeocdaa
set_option maxRecDepth 100000
open Go.RowKit Go.Maps
set_option linter.unusedVariables false
set_option linter.unusedSimpArgs false

theorem made_b {w W w3 : World} {o : Obj} (h : Below w.heap.size w W) (R : (W.alloc o).grownBy w3 (some W.heap.size)) : Below w.heap.size w w3 :=
  (h.alloc h.size o).grown R (by have := h.size; simp; omega) (fun k e => by have := Option.some.inj e; have := h.size; omega)
set_option maxHeartbeats 4000000 in
theorem none_law (w : World) : Calls Try.prog 5 #[] w fun e w' => e = .returned (.bool true) ∧ Below w.heap.size w w' := by
  have hz := zeroState
  have hbd := buildState
  have z32 := Lib.hid (zG_length 32)
  have HB : Hid (Below w.heap.size w w) := Below.refl _ _
  have HMk := Lib.hid make_nil
  have HFk := Lib.hid fork_nil
  have HGt := Lib.hid sget_nil
  have HSt := Lib.hid sstate_nil
  have HBg := Lib.hid begun11_any
  have HHd := Lib.hid shold_nil
  have HDr := Lib.hid sdrop_nil
  have HSe := Lib.hid sset_nil
  have HLi := Lib.hid live_nil
  have HRf := Lib.hid srefs_nil
  have HPg := Lib.hid spages_nil
  have HHa := Lib.hid has_nil
  go_enter Try.func5, Try.ntmps5
  go_wp2_with (first
    | (go_at_call 16; with_reducible refine (HMk.out (zG 32) _).mono ?_; rintro e w1 ⟨rfl, hb⟩; replace HB := Lib.hid (HB.out.trans (hb.mono HB.out.size)); clear hb)
    | (go_at_call 17; with_reducible refine (HFk.out _ _).mono ?_; rintro e w1' ⟨rfl, rfl⟩)
    | (go_at_call 23; with_reducible refine (HGt.out _ _ _).mono ?_; rintro e w1' ⟨rfl, rfl⟩)
    | (go_at_call 19; with_reducible refine (HSt.out _ _).mono ?_; rintro e w2 ⟨rfl, hb⟩; replace HB := Lib.hid (HB.out.trans (hb.mono HB.out.size)); clear hb)
    | (with_reducible refine wpList_store_g rfl 38 (.tmp 8) (.tmp 29) rfl _ (by with_unfolding_all rfl) 38 (zG 32) (zG 32) (GA.new _ _ _) (by with_unfolding_all rfl) rfl (by rw [z32.out]; exact infoState) ?_; intro w7 G7 S7 R7; replace HB := Lib.hid (made_b HB.out R7); clear G7 S7 R7)
    | (go_at_call 11; with_reducible refine (HBg.out _).mono ?_; rintro e w3 ⟨rfl, hb⟩; replace HB := Lib.hid (HB.out.trans (hb.mono HB.out.size)); clear hb)
    | (go_at_call 24; with_reducible refine (HHd.out _ _).mono ?_; rintro e w1' ⟨rfl, rfl⟩)
    | (go_at_call 20; with_reducible refine (HDr.out _ _).mono ?_; rintro e w1' ⟨rfl, rfl⟩)
    | (go_at_call 18; with_reducible refine (HSe.out _ _ _ _).mono ?_; rintro e w1' ⟨rfl, rfl⟩)
    | (go_at_call 25; with_reducible refine (HLi.out _).mono ?_; rintro e w1' ⟨rfl, rfl⟩)
    | (go_at_call 26; with_reducible refine (HRf.out _ _).mono ?_; rintro e w1' ⟨rfl, rfl⟩)
    | (go_at_call 27; with_reducible refine (HPg.out _ _).mono ?_; rintro e w1' ⟨rfl, rfl⟩)
    | (go_at_call 28; with_reducible refine (HHa.out _ _).mono ?_; rintro e w4 ⟨rfl, hb⟩; replace HB := Lib.hid (HB.out.trans (hb.mono HB.out.size)); clear hb))
  go_ret
  exact ⟨rfl, HB.out⟩
end Go.Proofs.Ytkmkjfbbpeocdaa
