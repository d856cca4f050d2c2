/- WALKS: begun of the laws of layer 12; EventNone. -/
import Derived.Test.YtmocpfdmlodgnaaZb
namespace Go.Proofs.Ytmocpfdmlodgnaa
set_option maxRecDepth 100000
open Go.RowKit
set_option linter.unusedVariables false
set_option linter.unusedSimpArgs false

theorem cell_keeps {w w' : World} (B : Below w.heap.size w w') {p : Addr} {v : Value} (h : w.cell? p = some v) : w'.cell? p = some v := (B.cell (World.block_lt_of_cell? w p h)).trans h
theorem cell_alloc {w : World} (o : Obj) {p : Addr} {v : Value} (h : w.cell? p = some v) : (w.alloc o).cell? p = some v := cell_keeps ((Below.refl _ _).alloc (Nat.le_refl _) o) h
theorem cell_made (w : World) (v : Value) (t : TypeId) : (w.alloc (.cells #[v] t)).cell? ⟨w.heap.size, 0, none⟩ = some v := by simp [go_sem]
theorem below_then {w w1 w2 : World} (h : Below w.heap.size w w1) (h2 : Below w1.heap.size w1 w2) : Below w.heap.size w w2 := h.trans (h2.mono h.size)
theorem below_alloc {w w1 : World} (h : Below w.heap.size w w1) (o : Obj) : Below w.heap.size w (w1.alloc o) := h.alloc h.size o

set_option maxHeartbeats 4000000 in
theorem begun12_any (w : World) : Calls Try.prog 7 #[] w fun e w' => e = .returned (.bool true) ∧ Below w.heap.size w w' := by
  have HO1 := Lib.hid (of_apart 3 17 (by omega) (by omega) (by omega) (by omega))
  have HO2 := Lib.hid (of_quit 1 (by omega) (by omega))
  have HF1 := Lib.hid (frame_apart 3 17)
  have HF2 := Lib.hid (frame_quit 1)
  have HP1 := Lib.hid (player_apart 3 17)
  have HP2 := Lib.hid (player_quit 1)
  have HM := Lib.hid (must_apart 3 17)
  have HT1 := Lib.hid text_apart
  have HT2 := Lib.hid text_quit1
  unfold rawV at HO1 HO2
  unfold evA at HO1 HF1 HP1 HM HT1
  unfold evQ at HO2 HF2 HP2 HT2
  go_enter Try.func7, Try.ntmps7
  go_wp2_with (first
    | (go_at_call 8; with_reducible refine (HO1.out _).mono ?_; rintro e w1 ⟨rfl, B1⟩)
    | (go_at_call 8; with_reducible refine (HO2.out _).mono ?_; rintro e w2 ⟨rfl, B2⟩; have c1 := cell_alloc (.cells #[.iface 44 (.agg #[.int .i64 1])] 28) (cell_keeps B2 (cell_made w1 _ _)); have c2 := cell_made w2 (.iface 44 (.agg #[.int .i64 1])) 28; have BB := Lib.hid (below_alloc (below_then (below_alloc B1 (.cells #[.iface 47 (.agg #[.int .i64 3, .int .i64 17])] 28)) B2) (.cells #[.iface 44 (.agg #[.int .i64 1])] 28)); clear B1 B2)
    | (go_at_call 14; with_reducible refine (HF1.out _).mono ?_; rintro e w3 ⟨rfl, B⟩; replace c1 := cell_keeps B c1; replace c2 := cell_keeps B c2; replace BB := Lib.hid (below_then BB.out B); clear B)
    | (go_at_call 14; with_reducible refine (HF2.out _).mono ?_; rintro e w3 ⟨rfl, B⟩; replace c1 := cell_keeps B c1; replace c2 := cell_keeps B c2; replace BB := Lib.hid (below_then BB.out B); clear B)
    | (go_at_call 12; with_reducible refine (HP1.out _).mono ?_; rintro e w3 ⟨rfl, B⟩; replace c1 := cell_keeps B c1; replace c2 := cell_keeps B c2; replace BB := Lib.hid (below_then BB.out B); clear B)
    | (go_at_call 12; with_reducible refine (HP2.out _).mono ?_; rintro e w3 ⟨rfl, B⟩; replace c1 := cell_keeps B c1; replace c2 := cell_keeps B c2; replace BB := Lib.hid (below_then BB.out B); clear B)
    | (go_at_call 17; with_reducible refine (HM.out _).mono ?_; rintro e w3 ⟨rfl, B⟩; replace c1 := cell_keeps B c1; replace c2 := cell_keeps B c2; replace BB := Lib.hid (below_then BB.out B); clear B)
    | (go_at_call 10; with_reducible refine (HT1.out _).mono ?_; rintro e w3 ⟨rfl, B⟩; replace c1 := cell_keeps B c1; replace c2 := cell_keeps B c2; replace BB := Lib.hid (below_then BB.out B); clear B)
    | (go_at_call 10; with_reducible refine (HT2.out _).mono ?_; rintro e w3 ⟨rfl, B⟩; replace c1 := cell_keeps B c1; replace c2 := cell_keeps B c2; replace BB := Lib.hid (below_then BB.out B); clear B))
  go_ret
  exact ⟨rfl, BB.out⟩
set_option maxHeartbeats 4000000 in
theorem none_law (w : World) : Calls Try.prog 4 #[] w fun e w' => e = .returned (.bool true) ∧ Below w.heap.size w w' := by
  have HF := Lib.hid frame_none
  have HM := Lib.hid mustL_none
  have HB := Lib.hid begun12_any
  have HT := Lib.hid text_none
  have HR := Lib.hid raw_none
  have HP := Lib.hid player_none
  have hf := fldR0
  unfold evN at HF HM HT HR HP
  unfold rawV at HR
  have c1 := cell_made w .nilIface 28
  have BB := Lib.hid ((Below.refl w.heap.size w).alloc (Nat.le_refl _) (.cells #[.nilIface] 28))
  go_enter Try.func4, Try.ntmps4
  go_wp2_with (first
    | (go_at_call 14; with_reducible refine (HF.out _).mono ?_; rintro e w3 ⟨rfl, B⟩; replace c1 := cell_keeps B c1; replace BB := Lib.hid (below_then BB.out B); clear B)
    | (go_at_call 15; with_reducible refine (HM.out _).mono ?_; rintro e w3 ⟨rfl, B⟩; replace c1 := cell_keeps B c1; replace BB := Lib.hid (below_then BB.out B); clear B)
    | (go_at_call 7; with_reducible refine (HB.out _).mono ?_; rintro e w3 ⟨rfl, B⟩; replace c1 := cell_keeps B c1; replace BB := Lib.hid (below_then BB.out B); clear B)
    | (go_at_call 10; with_reducible refine (HT.out _).mono ?_; rintro e w3 ⟨rfl, B⟩; replace c1 := cell_keeps B c1; replace BB := Lib.hid (below_then BB.out B); clear B)
    | (go_at_call 11; with_reducible refine (HR.out _).mono ?_; rintro e w3 ⟨rfl, B⟩; replace c1 := cell_keeps B c1; replace BB := Lib.hid (below_then BB.out B); clear B)
    | (go_at_call 12; with_reducible refine (HP.out _).mono ?_; rintro e w3 ⟨rfl, B⟩; replace c1 := cell_keeps B c1; replace BB := Lib.hid (below_then BB.out B); clear B))
  go_ret
  exact ⟨rfl, BB.out⟩
end Go.Proofs.Ytmocpfdmlodgnaa
