/- WALKS over package input: All, Add. -/
import Derived.Test.YtbcnaklbbaoihaaId
namespace Go.Proofs.Ytbcnaklbbaoihaa
set_option maxRecDepth 100000
open Go.RowKit
set_option linter.unusedVariables false
set_option linter.unusedSimpArgs false

/-- one byte in a block of its own -/
theorem rb_made (w : World) (y : UInt8) (t : TypeId) (B : Nat) (hB : w.heap.size < B) : RB (w.alloc (.cells #[.int .u8 y.toNat] t)) B (some ⟨w.heap.size, 0, none⟩) [y] := fun _ =>
  ⟨w.heap.size, 0, rfl, hB, fun j hj => by
    obtain rfl : j = 0 := by simp at hj; omega
    simp [go_sem, vb]⟩
theorem add_nil (w : World) (y : UInt8) : Calls Try.prog 20 #[.pointer none, vb y] w fun e w' => e = .returned (.int .i64 7) ∧ Below w.heap.size w w' := by
  have HL := Lib.hid len_nil
  have HP := Lib.hid put_nil
  unfold vb
  go_enter Try.func20, Try.ntmps20
  go_wp2_with (first
    | (go_at_call 23; with_reducible refine (HL.out _).mono ?_; rintro e w1 ⟨rfl, rfl⟩)
    | (go_at_call 18; with_reducible refine (HP.out _ _ _).mono ?_; rintro e w1 ⟨rfl, rfl⟩))
  go_ret
  exact ⟨rfl, (Below.refl _ _).alloc (Nat.le_refl _) _⟩
theorem add_ok (w : World) (b L : Nat) (l : List UInt8) (h : LM w b L l) (hL : l.length = L) (hl : L < 1000) (y : UInt8) : Calls Try.prog 20 #[pB b, vb y] w fun e w' => e = .returned (.int .i64 0) ∧ LM w' b (L + 1 : Nat) (l ++ [y]) ∧ w.grownBy w' (some b) := by
  have HL := Lib.hid (len_any w b L l h)
  have hp := put_in (w.alloc (.cells #[.int .u8 y.toNat] 5)) b l [y] (some ⟨w.heap.size, 0, none⟩) 1 (w.heap.size + 1) L 0 L 1 hL rfl (h.alloc _) (by omega) (rb_made w y _ _ (by omega)) (Nat.le_refl _) (by unfold maxLen; omega) (Nat.le_refl _) (by omega) 1 rfl 1 (by omega)
  have HP : Hid (Calls Try.prog 18 #[pB b, .int .i64 L, .slice (some ⟨w.heap.size, 0, none⟩) 1 1] (w.alloc (.cells #[.int .u8 y.toNat] 5)) fun e w' => e = .returned (.tuple #[.int .i64 1, .int .i64 0]) ∧ LM w' b (L + 1 : Nat) (l ++ [y]) ∧ (w.alloc (.cells #[.int .u8 y.toNat] 5)).grownBy w' (some b)) :=
    hp.mono fun e w' ⟨he, hm, hg⟩ => ⟨he, by simpa using hm, hg⟩
  clear h hL hp hl
  unfold vb
  go_enter Try.func20, Try.ntmps20
  go_wp2_with (first
    | (go_at_call 23; with_reducible refine (HL.out).mono ?_; rintro e w1 ⟨rfl, rfl⟩)
    | (go_at_call 18; with_reducible refine (HP.out).mono ?_; rintro e w1 ⟨rfl, hm, hg⟩; have HM := Lib.hid hm; clear hm))
  go_ret
  exact ⟨rfl, HM.out, (World.grownBy_alloc w _ _).trans hg⟩
theorem add_full (w : World) (b L : Nat) (l : List UInt8) (h : LM w b L l) (hL : l.length = L) (hl : L = 1000) (y : UInt8) : Calls Try.prog 20 #[pB b, vb y] w fun e w' => e = .returned (.int .i64 4) ∧ LM w' b L l ∧ w.grownBy w' (some b) := by
  have HL := Lib.hid (len_any w b L l h)
  have hp := put_in (w.alloc (.cells #[.int .u8 y.toNat] 5)) b l [y] (some ⟨w.heap.size, 0, none⟩) 1 (w.heap.size + 1) L 0 L 1 hL rfl (h.alloc _) (by omega) (rb_made w y _ _ (by omega)) (Nat.le_refl _) (by unfold maxLen; omega) (Nat.le_refl _) (by omega) 1 rfl 0 (by omega)
  have HP : Hid (Calls Try.prog 18 #[pB b, .int .i64 L, .slice (some ⟨w.heap.size, 0, none⟩) 1 1] (w.alloc (.cells #[.int .u8 y.toNat] 5)) fun e w' => e = .returned (.tuple #[.int .i64 0, .int .i64 4]) ∧ LM w' b L l ∧ (w.alloc (.cells #[.int .u8 y.toNat] 5)).grownBy w' (some b)) :=
    hp.mono fun e w' ⟨he, hm, hg⟩ => ⟨he, by simpa using hm, hg⟩
  clear h hL hp hl
  unfold vb
  go_enter Try.func20, Try.ntmps20
  go_wp2_with (first
    | (go_at_call 23; with_reducible refine (HL.out).mono ?_; rintro e w1 ⟨rfl, rfl⟩)
    | (go_at_call 18; with_reducible refine (HP.out).mono ?_; rintro e w1 ⟨rfl, hm, hg⟩; have HM := Lib.hid hm; clear hm))
  go_ret
  exact ⟨rfl, HM.out, (World.grownBy_alloc w _ _).trans hg⟩
end Go.Proofs.Ytbcnaklbbaoihaa
