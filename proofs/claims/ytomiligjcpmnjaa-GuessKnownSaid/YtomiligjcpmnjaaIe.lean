/- WALKS over package input: All, Add. -/
import Derived.Test.YtomiligjcpmnjaaId
namespace Go.Proofs.Ytomiligjcpmnjaa
set_option maxRecDepth 100000
open Go.RowKit
set_option linter.unusedVariables false
set_option linter.unusedSimpArgs false

theorem all_nil (w : World) : Calls Try.prog 29 #[.pointer none] w fun e w' => e = .returned (.slice none 0 0) ∧ w = w' := by
  have HL := Lib.hid len_nil
  have HF := Lib.hid from_nil
  go_enter Try.func29, Try.ntmps29
  go_wp2_with (first
    | (go_at_call 35; with_reducible refine (HL.out _).mono ?_; rintro e w1 ⟨rfl, rfl⟩)
    | (go_at_call 41; with_reducible refine (HF.out _ _).mono ?_; rintro e w1 ⟨rfl, rfl⟩))
  go_ret
  exact ⟨rfl, rfl⟩
theorem all_any (w : World) (b L : Nat) (l : List UInt8) (h : LM w b L l) (hL : l.length = L) (hl : L ≤ 1000) : Calls Try.prog 29 #[pB b] w fun e w' => ∃ v, e = .returned v ∧ OB w' w.heap.size v l ∧ Below w.heap.size w w' := by
  have HL := Lib.hid (len_any w b L l h)
  have HF := Lib.hid (from_any w b L l h hL hl 0 L 0 L rfl rfl hl)
  rw [List.drop_zero, List.take_of_length_le (by omega)] at HF
  clear h hL
  go_enter Try.func29, Try.ntmps29
  go_wp2_with (first
    | (go_at_call 35; with_reducible refine (HL.out).mono ?_; rintro e w1 ⟨rfl, rfl⟩)
    | (go_at_call 41; with_reducible refine (HF.out).mono ?_; rintro e w1 ⟨v, rfl, ho, hb⟩))
  go_ret
  exact ⟨v, rfl, ho, hb⟩
/-- one byte in a block of its own -/
theorem rb_made (w : World) (y : UInt8) (t : TypeId) (B : Nat) (hB : w.heap.size < B) : RB (w.alloc (.cells #[.int .u8 y.toNat] t)) B (some ⟨w.heap.size, 0, none⟩) [y] := fun _ =>
  ⟨w.heap.size, 0, rfl, hB, fun j hj => by
    obtain rfl : j = 0 := by simp at hj; omega
    simp [go_sem, vb]⟩
end Go.Proofs.Ytomiligjcpmnjaa
