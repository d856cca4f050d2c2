/- WALK of layer 21: the sentence CoreNone. -/
import Derived.Test.YtclgcfofgiejgaaDoorCot
namespace Go.Proofs.YtclgcfofgiejgaaDoor
set_option maxRecDepth 100000
open Go.RowKit
set_option linter.unusedVariables false
set_option linter.unusedSimpArgs false

theorem core_press_nil (w : World) (b : Int) : Calls Tryd.prog 21 #[.pointer none, .int .u8 b] w fun e w' => e = .returned (.int .i64 6) ∧ w = w' := by
  have HC := Lib.hid (core_closed_nil w)
  go_enter Tryd.func21, Tryd.ntmps21
  go_wp2_with (go_at_call 20; (refine HC.out.mono ?_); rintro en w1 ⟨rfl, rfl⟩)
  go_ret
  exact ⟨rfl, rfl⟩
theorem core_recv_nil (w : World) : Calls Tryd.prog 16 #[.pointer none, .slice none 0 0] w fun e w' => e = .returned (.int .i64 6) ∧ w = w' := by
  have HC := Lib.hid (core_closed_nil w)
  go_enter Tryd.func16, Tryd.ntmps16
  go_wp2_with (go_at_call 20; (refine HC.out.mono ?_); rintro en w1 ⟨rfl, rfl⟩)
  go_ret
  exact ⟨rfl, rfl⟩
theorem none21_law (w : World) (hT : TabW w) : Calls Tryd.prog 5 #[] w fun e w' => e = .returned (.bool true) ∧ Below w.heap.size w w' := by
  have HB := Lib.hid (begun21_any w hT)
  have H1 := Lib.hid core_mark_nil; have H2 := Lib.hid core_press_nil; have H3 := Lib.hid core_recv_nil; have H4 := Lib.hid core_tick_nil; have H5 := Lib.hid core_quit_nil
  have H6 := Lib.hid core_events_nil; have H7 := Lib.hid core_closed_nil; have H8 := Lib.hid core_head_nil; have H9 := Lib.hid core_marks_nil; have H10 := Lib.hid core_queue_nil
  clear hT
  go_enter Tryd.func5, Tryd.ntmps5
  go_wp2_with (first
    | (go_at_call 25; (refine (H1.out _ _).mono ?_); rintro en w1 ⟨rfl, rfl⟩)
    | (go_at_call 12; (refine HB.out.mono ?_); rintro en w1 ⟨rfl, hb⟩; have HB1 := Lib.hid hb; clear hb)
    | (go_at_call 21; (refine (H2.out _ _).mono ?_); rintro en w2 ⟨rfl, rfl⟩)
    | (go_at_call 16; (refine (H3.out _).mono ?_); rintro en w2 ⟨rfl, rfl⟩)
    | (go_at_call 17; (refine (H4.out _).mono ?_); rintro en w2 ⟨rfl, rfl⟩)
    | (go_at_call 26; (refine (H5.out _).mono ?_); rintro en w2 ⟨rfl, rfl⟩)
    | (go_at_call 19; (refine (H6.out _).mono ?_); rintro en w2 ⟨rfl, rfl⟩)
    | (go_at_call 20; (refine (H7.out _).mono ?_); rintro en w2 ⟨rfl, rfl⟩)
    | (go_at_call 22; (refine (H8.out _).mono ?_); rintro en w3 ⟨rfl, hb⟩; have HB3 := Lib.hid (HB1.out.trans (hb.mono HB1.out.size)); clear hb)
    | (go_at_call 27; (refine (H9.out _).mono ?_); rintro en w4 ⟨rfl, rfl⟩)
    | (go_at_call 23; (refine (H10.out _).mono ?_); rintro en w4 ⟨rfl, rfl⟩))
  go_ret
  exact ⟨rfl, HB3.out⟩
end Go.Proofs.YtclgcfofgiejgaaDoor
