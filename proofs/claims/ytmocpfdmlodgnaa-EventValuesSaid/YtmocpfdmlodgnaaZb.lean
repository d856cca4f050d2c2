/- EVENTS: texts of small numbers; must; begun. -/
import Derived.Test.YtmocpfdmlodgnaaZa
import Derived.BigQuiet
import Derived.Deep.RegionHeld3
namespace Go.Proofs.Ytmocpfdmlodgnaa
set_option maxRecDepth 100000
open Go.RowKit
set_option linter.unusedVariables false
set_option linter.unusedSimpArgs false

theorem itoa3 (w : World) : Calls Try.prog 36 #[.int .i64 3] w fun e w' => e = .returned (.string ⟨#[51]⟩) ∧ w = w' := by
  go_enter Try.func36, Try.ntmps36
  go_wp2
  go_ret
  exact ⟨by kernel_rfl, rfl⟩
theorem itoa17 (w : World) : Calls Try.prog 36 #[.int .i64 17] w fun e w' => e = .returned (.string ⟨#[49, 55]⟩) ∧ w = w' := by
  go_enter Try.func36, Try.ntmps36
  go_wp2
  go_ret
  exact ⟨by kernel_rfl, rfl⟩
theorem text_none (w : World) : Calls Try.prog 10 #[evN] w fun e w' => e = .returned (.string ⟨#[]⟩) ∧ Below w.heap.size w w' := by
  have he := eqN
  unfold evN
  go_enter Try.func10, Try.ntmps10
  go_wp2_with fail
  go_ret
  exact ⟨rfl, (Below.refl _ _).alloc (Nat.le_refl _) _⟩

/-! ### must -/
theorem catch_panicking (n b : Addr) (x : Int) (y : Bool) (u : TypeId) (pv : Value) (older : List PanicEntry) (w : World) (hc : w.cell? n = some (.int .i64 x)) (hz : w.frozen? n = false) (hd0 : w.cell? b = some (.bool y)) (hy : w.frozen? b = false) (hne : n.block ≠ b.block) :
    CallsD Try.prog 18 #[.pointer (some n), .pointer (some b)] (.panicking ({ v := .iface u pv, recovered := false } :: older)) w fun e u' w' =>
      e = .returned (.tuple #[]) ∧ u' = .panicking ({ v := .iface u pv, recovered := true } :: older) ∧ w' = (w.setCell n (.int .i64 0)).setCell b (.bool false) := by
  have hd : (w.setCell n (.int .i64 0)).cell? b = some (.bool y) := (World.cell?_setCell_far w n b _ hne).trans hd0
  refine callsD_of_wpS Try.func18 rfl fun c₀ cs hu => ?_
  apply wpS_seq
  apply wpS_region
  simp [wpOpsS, go_sem, recoverD, hu, Try.ntmps18, Exit.thenS]
  refine wpS_cond (t := true) (by simp [Act.eval, Array.replicate]) ?_
  simp only [if_true]
  apply wpS_region
  simp [wpOpsS, go_sem, hc, hz, hd, hy, bodyPostS, results, Try.results18]
theorem catch_idle (n b : Addr) (w : World) :
    CallsD Try.prog 18 #[.pointer (some n), .pointer (some b)] .returning w fun e u' w' => e = .returned (.tuple #[]) ∧ u' = .returning ∧ w' = w := by
  refine callsD_of_wpS Try.func18 rfl fun c₀ cs hu => ?_
  apply wpS_seq
  apply wpS_region
  simp [wpOpsS, go_sem, recoverD, hu, Try.ntmps18, Exit.thenS]
  refine wpS_cond (t := false) (by simp [Act.eval, Array.replicate]) ?_
  simp only [Bool.false_eq_true, if_false]
  refine wpS_of_wp (wp_skip ?_)
  cases c₀
  simp_all [bodyPostS, results, Try.results18]
theorem mustL_none (w : World) : Calls Try.prog 15 #[evN] w fun e w' => e = .returned (.tuple #[.int .i64 0, .bool false]) ∧ Below w.heap.size w w' := by
  have hmf : ∀ (fn : Fn) (first cap : Array Value) (w : World), (Instr.makeFunc fn first cap).run Try.prog w = .ok (.func fn first cap) w := fun _ _ _ _ => rfl
  have HM := Lib.hid (must_none )
  unfold evN at HM ⊢
  go_enter_defers Try.func15, Try.ntmps15
  go_wp2_with (go_at_call 17; with_reducible refine (HM.out _).mono ?_; rintro e w1 ⟨⟨v, rfl⟩, B⟩)
  have c0 := (B.cell (p := ⟨w.heap.size + 1, 0, none⟩) (by simp)).trans (show _ = some (Value.int .i64 0) by simp [go_sem])
  have c1 := (B.cell (p := ⟨w.heap.size + 1 + 1, 0, none⟩) (by simp)).trans (show _ = some (Value.bool false) by simp [go_sem])
  have f0 := (B.frozen (p := ⟨w.heap.size + 1, 0, none⟩) (by simp)).trans (show _ = false by simp [go_sem])
  have f1 := (B.frozen (p := ⟨w.heap.size + 1 + 1, 0, none⟩) (by simp)).trans (show _ = false by simp [go_sem])
  have hs := B.size
  simp only [World.size_alloc] at hs
  refine leaves_cons (f := 18) (args := #[.pointer (some ⟨w.heap.size + 1, 0, none⟩), .pointer (some ⟨w.heap.size + 1 + 1, 0, none⟩)]) (by simp) (by simp [go_sem]) ?_
  refine (catch_panicking ⟨w.heap.size + 1, 0, none⟩ ⟨w.heap.size + 1 + 1, 0, none⟩ 0 false _ v [] w1 c0 f0 c1 f1 (by simp)).mono ?_
  rintro e u' w'' ⟨rfl, rfl, rfl⟩
  have q0 : ((w1.setCell ⟨w.heap.size + 1, 0, none⟩ (.int .i64 0)).setCell ⟨w.heap.size + 1 + 1, 0, none⟩ (.bool false)).cell? ⟨w.heap.size + 1, 0, none⟩ = some (.int .i64 0) :=
    (World.cell?_setCell_far _ ⟨w.heap.size + 1 + 1, 0, none⟩ ⟨w.heap.size + 1, 0, none⟩ _ (show w.heap.size + 1 + 1 ≠ w.heap.size + 1 by omega)).trans (World.cell?_setCell_same _ _ _ c0)
  have q1 : ((w1.setCell ⟨w.heap.size + 1, 0, none⟩ (.int .i64 0)).setCell ⟨w.heap.size + 1 + 1, 0, none⟩ (.bool false)).cell? ⟨w.heap.size + 1 + 1, 0, none⟩ = some (.bool false) :=
    World.cell?_setCell_same _ _ _ ((World.cell?_setCell_far _ ⟨w.heap.size + 1, 0, none⟩ ⟨w.heap.size + 1 + 1, 0, none⟩ _ (show w.heap.size + 1 ≠ w.heap.size + 1 + 1 by omega)).trans c1)
  refine ⟨_, by simp [results, Try.results15, go_sem, q0, q1], rfl, ?_⟩
  exact ((((((Below.refl _ _).alloc (Nat.le_refl _) _).alloc (by simp) _).alloc (by simp; omega) _).trans (B.mono (by simp; omega))).setCell (by simp) _).setCell (by simp; omega) _
theorem mustL_quit (p : Int) (w : World) : Calls Try.prog 15 #[evQ p] w fun e w' => e = .returned (.tuple #[.int .i64 0, .bool false]) ∧ Below w.heap.size w w' := by
  have hmf : ∀ (fn : Fn) (first cap : Array Value) (w : World), (Instr.makeFunc fn first cap).run Try.prog w = .ok (.func fn first cap) w := fun _ _ _ _ => rfl
  have HM := Lib.hid (must_quit p)
  unfold evQ at HM ⊢
  go_enter_defers Try.func15, Try.ntmps15
  go_wp2_with (go_at_call 17; with_reducible refine (HM.out _).mono ?_; rintro e w1 ⟨⟨v, rfl⟩, B⟩)
  have c0 := (B.cell (p := ⟨w.heap.size + 1, 0, none⟩) (by simp)).trans (show _ = some (Value.int .i64 0) by simp [go_sem])
  have c1 := (B.cell (p := ⟨w.heap.size + 1 + 1, 0, none⟩) (by simp)).trans (show _ = some (Value.bool false) by simp [go_sem])
  have f0 := (B.frozen (p := ⟨w.heap.size + 1, 0, none⟩) (by simp)).trans (show _ = false by simp [go_sem])
  have f1 := (B.frozen (p := ⟨w.heap.size + 1 + 1, 0, none⟩) (by simp)).trans (show _ = false by simp [go_sem])
  have hs := B.size
  simp only [World.size_alloc] at hs
  refine leaves_cons (f := 18) (args := #[.pointer (some ⟨w.heap.size + 1, 0, none⟩), .pointer (some ⟨w.heap.size + 1 + 1, 0, none⟩)]) (by simp) (by simp [go_sem]) ?_
  refine (catch_panicking ⟨w.heap.size + 1, 0, none⟩ ⟨w.heap.size + 1 + 1, 0, none⟩ 0 false _ v [] w1 c0 f0 c1 f1 (by simp)).mono ?_
  rintro e u' w'' ⟨rfl, rfl, rfl⟩
  have q0 : ((w1.setCell ⟨w.heap.size + 1, 0, none⟩ (.int .i64 0)).setCell ⟨w.heap.size + 1 + 1, 0, none⟩ (.bool false)).cell? ⟨w.heap.size + 1, 0, none⟩ = some (.int .i64 0) :=
    (World.cell?_setCell_far _ ⟨w.heap.size + 1 + 1, 0, none⟩ ⟨w.heap.size + 1, 0, none⟩ _ (show w.heap.size + 1 + 1 ≠ w.heap.size + 1 by omega)).trans (World.cell?_setCell_same _ _ _ c0)
  have q1 : ((w1.setCell ⟨w.heap.size + 1, 0, none⟩ (.int .i64 0)).setCell ⟨w.heap.size + 1 + 1, 0, none⟩ (.bool false)).cell? ⟨w.heap.size + 1 + 1, 0, none⟩ = some (.bool false) :=
    World.cell?_setCell_same _ _ _ ((World.cell?_setCell_far _ ⟨w.heap.size + 1, 0, none⟩ ⟨w.heap.size + 1 + 1, 0, none⟩ _ (show w.heap.size + 1 ≠ w.heap.size + 1 + 1 by omega)).trans c1)
  refine ⟨_, by simp [results, Try.results15, go_sem, q0, q1], rfl, ?_⟩
  exact ((((((Below.refl _ _).alloc (Nat.le_refl _) _).alloc (by simp) _).alloc (by simp; omega) _).trans (B.mono (by simp; omega))).setCell (by simp) _).setCell (by simp; omega) _
theorem mustL_late (p : Int) (w : World) : Calls Try.prog 15 #[evL p] w fun e w' => e = .returned (.tuple #[.int .i64 0, .bool false]) ∧ Below w.heap.size w w' := by
  have hmf : ∀ (fn : Fn) (first cap : Array Value) (w : World), (Instr.makeFunc fn first cap).run Try.prog w = .ok (.func fn first cap) w := fun _ _ _ _ => rfl
  have HM := Lib.hid (must_late p)
  unfold evL at HM ⊢
  go_enter_defers Try.func15, Try.ntmps15
  go_wp2_with (go_at_call 17; with_reducible refine (HM.out _).mono ?_; rintro e w1 ⟨⟨v, rfl⟩, B⟩)
  have c0 := (B.cell (p := ⟨w.heap.size + 1, 0, none⟩) (by simp)).trans (show _ = some (Value.int .i64 0) by simp [go_sem])
  have c1 := (B.cell (p := ⟨w.heap.size + 1 + 1, 0, none⟩) (by simp)).trans (show _ = some (Value.bool false) by simp [go_sem])
  have f0 := (B.frozen (p := ⟨w.heap.size + 1, 0, none⟩) (by simp)).trans (show _ = false by simp [go_sem])
  have f1 := (B.frozen (p := ⟨w.heap.size + 1 + 1, 0, none⟩) (by simp)).trans (show _ = false by simp [go_sem])
  have hs := B.size
  simp only [World.size_alloc] at hs
  refine leaves_cons (f := 18) (args := #[.pointer (some ⟨w.heap.size + 1, 0, none⟩), .pointer (some ⟨w.heap.size + 1 + 1, 0, none⟩)]) (by simp) (by simp [go_sem]) ?_
  refine (catch_panicking ⟨w.heap.size + 1, 0, none⟩ ⟨w.heap.size + 1 + 1, 0, none⟩ 0 false _ v [] w1 c0 f0 c1 f1 (by simp)).mono ?_
  rintro e u' w'' ⟨rfl, rfl, rfl⟩
  have q0 : ((w1.setCell ⟨w.heap.size + 1, 0, none⟩ (.int .i64 0)).setCell ⟨w.heap.size + 1 + 1, 0, none⟩ (.bool false)).cell? ⟨w.heap.size + 1, 0, none⟩ = some (.int .i64 0) :=
    (World.cell?_setCell_far _ ⟨w.heap.size + 1 + 1, 0, none⟩ ⟨w.heap.size + 1, 0, none⟩ _ (show w.heap.size + 1 + 1 ≠ w.heap.size + 1 by omega)).trans (World.cell?_setCell_same _ _ _ c0)
  have q1 : ((w1.setCell ⟨w.heap.size + 1, 0, none⟩ (.int .i64 0)).setCell ⟨w.heap.size + 1 + 1, 0, none⟩ (.bool false)).cell? ⟨w.heap.size + 1 + 1, 0, none⟩ = some (.bool false) :=
    World.cell?_setCell_same _ _ _ ((World.cell?_setCell_far _ ⟨w.heap.size + 1, 0, none⟩ ⟨w.heap.size + 1 + 1, 0, none⟩ _ (show w.heap.size + 1 ≠ w.heap.size + 1 + 1 by omega)).trans c1)
  refine ⟨_, by simp [results, Try.results15, go_sem, q0, q1], rfl, ?_⟩
  exact ((((((Below.refl _ _).alloc (Nat.le_refl _) _).alloc (by simp) _).alloc (by simp; omega) _).trans (B.mono (by simp; omega))).setCell (by simp) _).setCell (by simp; omega) _
theorem mustL_apart (p f : Int) (w : World) : Calls Try.prog 15 #[evA p f] w fun e w' => e = .returned (.tuple #[.int .i64 f, .bool true]) ∧ Below w.heap.size w w' := by
  have hmf : ∀ (fn : Fn) (first cap : Array Value) (w : World), (Instr.makeFunc fn first cap).run Try.prog w = .ok (.func fn first cap) w := fun _ _ _ _ => rfl
  have HM := Lib.hid (must_apart p f)
  unfold evA at HM ⊢
  go_enter_defers Try.func15, Try.ntmps15
  go_wp2_with (go_at_call 17; with_reducible refine (HM.out _).mono ?_; rintro e w1 ⟨rfl, B⟩; have c0 := (B.cell (p := ⟨w.heap.size + 1, 0, none⟩) (by simp)).trans (show _ = some (Value.int .i64 0) by simp [go_sem]); have c1 := (B.cell (p := ⟨w.heap.size + 1 + 1, 0, none⟩) (by simp)).trans (show _ = some (Value.bool false) by simp [go_sem]); have f0 := (B.frozen (p := ⟨w.heap.size + 1, 0, none⟩) (by simp)).trans (show _ = false by simp [go_sem]); have f1 := (B.frozen (p := ⟨w.heap.size + 1 + 1, 0, none⟩) (by simp)).trans (show _ = false by simp [go_sem]))
  have hs := B.size
  simp only [World.size_alloc] at hs
  refine leaves_cons (f := 18) (args := #[.pointer (some ⟨w.heap.size + 1, 0, none⟩), .pointer (some ⟨w.heap.size + 1 + 1, 0, none⟩)]) (by simp) (by simp [go_sem]) ?_
  refine (catch_idle ⟨w.heap.size + 1, 0, none⟩ ⟨w.heap.size + 1 + 1, 0, none⟩ _).mono ?_
  rintro e u' w'' ⟨rfl, rfl, rfl⟩
  have q0 : ((w1.setCell ⟨w.heap.size + 1, 0, none⟩ (.int .i64 f)).setCell ⟨w.heap.size + 1 + 1, 0, none⟩ (.bool true)).cell? ⟨w.heap.size + 1, 0, none⟩ = some (.int .i64 f) :=
    (World.cell?_setCell_far _ ⟨w.heap.size + 1 + 1, 0, none⟩ ⟨w.heap.size + 1, 0, none⟩ _ (show w.heap.size + 1 + 1 ≠ w.heap.size + 1 by omega)).trans (World.cell?_setCell_same _ _ _ c0)
  have q1 : ((w1.setCell ⟨w.heap.size + 1, 0, none⟩ (.int .i64 f)).setCell ⟨w.heap.size + 1 + 1, 0, none⟩ (.bool true)).cell? ⟨w.heap.size + 1 + 1, 0, none⟩ = some (.bool true) :=
    World.cell?_setCell_same _ _ _ ((World.cell?_setCell_far _ ⟨w.heap.size + 1, 0, none⟩ ⟨w.heap.size + 1 + 1, 0, none⟩ _ (show w.heap.size + 1 ≠ w.heap.size + 1 + 1 by omega)).trans c1)
  refine ⟨_, by simp [results, Try.results15, go_sem, q0, q1], rfl, ?_⟩
  exact ((((((Below.refl _ _).alloc (Nat.le_refl _) _).alloc (by simp) _).alloc (by simp; omega) _).trans (B.mono (by simp; omega))).setCell (by simp) _).setCell (by simp; omega) _

/-! ### begun -/
theorem itoa1 (w : World) : Calls Try.prog 36 #[.int .i64 1] w fun e w' => e = .returned (.string ⟨#[49]⟩) ∧ w = w' := by
  go_enter Try.func36, Try.ntmps36
  go_wp2
  go_ret
  exact ⟨by kernel_rfl, rfl⟩
theorem textown_quit (w : World) : Calls Try.prog 35 #[.agg #[.int .i64 1]] w fun e w' => e = .returned (.string ⟨#[113, 117, 105, 116, 32, 49]⟩) ∧ Below w.heap.size w w' := by
  have HI := Lib.hid itoa1
  go_enter Try.func35, Try.ntmps35
  go_wp2_with (go_at_call 36; with_reducible refine (HI.out _).mono ?_; rintro e w1 ⟨rfl, rfl⟩)
  go_ret
  exact ⟨by kernel_rfl, (Below.refl _ _).alloc (Nat.le_refl _) _⟩
theorem text_quit1 (w : World) : Calls Try.prog 10 #[evQ 1] w fun e w' => e = .returned (.string ⟨#[113, 117, 105, 116, 32, 49]⟩) ∧ Below w.heap.size w w' := by
  have he := eqT
  have hm := textQ
  have HI := Lib.hid textown_quit
  unfold evQ
  go_enter Try.func10, Try.ntmps10
  go_wp2_with (go_at_call 35; with_reducible refine (HI.out _).mono ?_; rintro e w1 ⟨rfl, B⟩)
  go_ret
  exact ⟨rfl, ((Below.refl _ _).alloc (Nat.le_refl _) _).trans (B.mono (by simp))⟩
theorem textown_apart (w : World) : Calls Try.prog 53 #[.agg #[.int .i64 3, .int .i64 17]] w fun e w' => e = .returned (.string ⟨#[97, 112, 97, 114, 116, 32, 51, 32, 49, 55]⟩) ∧ Below w.heap.size w w' := by
  have HI := Lib.hid itoa3
  have HJ := Lib.hid itoa17
  have b0w : Below w.heap.size w (w.alloc (.cells #[.int .i64 3, .int .i64 17] 47)) := (Below.refl _ _).alloc (Nat.le_refl _) _
  go_enter Try.func53, Try.ntmps53
  go_wp2_with fail
  go_quiet ((go_at_call 36; first | with_reducible exact same_left (HI.out _) | with_reducible exact same_left (HJ.out _)))
  go_wp2_with fail
  go_ret
  exact ⟨by kernel_rfl, below_drewN b0w _⟩
theorem text_apart (w : World) : Calls Try.prog 10 #[evA 3 17] w fun e w' => e = .returned (.string ⟨#[97, 112, 97, 114, 116, 32, 51, 32, 49, 55]⟩) ∧ Below w.heap.size w w' := by
  have he := eqT
  have hm := textA
  have HI := Lib.hid textown_apart
  unfold evA
  go_enter Try.func10, Try.ntmps10
  go_wp2_with (go_at_call 53; with_reducible refine (HI.out _).mono ?_; rintro e w1 ⟨rfl, B⟩)
  go_ret
  exact ⟨rfl, ((Below.refl _ _).alloc (Nat.le_refl _) _).trans (B.mono (by simp))⟩
end Go.Proofs.Ytmocpfdmlodgnaa
