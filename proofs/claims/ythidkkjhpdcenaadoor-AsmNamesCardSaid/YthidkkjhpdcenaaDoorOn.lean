/- THE WALK of the laws' begun. -/
import Derived.Test.YthidkkjhpdcenaaDoorOm
import Derived.Test.YthidkkjhpdcenaaDoorOk
import Derived.Outline
namespace Go.Proofs.YthidkkjhpdcenaaDoor
open Go.RowKit
set_option linter.unusedVariables false

theorem kt_title : titB ⟨#[116]⟩ = true := by decide +kernel
theorem k_fits : fitsB (titB ⟨#[116]⟩) [zeroO] = true := by rw [kt_title]; decide
theorem k_enc : encB ⟨#[116]⟩ [zeroO] = [2, 116, 2, 0, 0, 0, 0] := by
  unfold encB
  rw [if_pos k_fits]
  decide +kernel
theorem k_none : encB ⟨#[]⟩ [] = [] := by
  unfold encB
  rw [if_neg (by
    have : fitsB (titB ⟨#[]⟩) [] = false := by unfold fitsB; simp
    rw [this]; decide)]
theorem k_prog : progN titL [2, 116, 2, 0, 0, 0, 0] = some ([116], [zeroO]) := by
  have h := progN_put titL [116] [zeroO] (by decide) (show fitsB (titB ⟨#[116]⟩) [zeroO] = true from k_fits)
  have e : encP [116] [zeroO] = [2, 116, 2, 0, 0, 0, 0] := by
    have := k_enc
    unfold encB at this
    rw [if_pos k_fits] at this
    exact this
  rw [e] at h
  exact h
def pO : Obj := .cells #[.int .i64 0, .int .i64 0, .int .i64 0, .int .i64 0] 39
def pP (g : Nat) : Obj := .cells #[.string ⟨#[116]⟩, .slice (some ⟨g, 0, none⟩) 1 1] 26
theorem k_row (w : World) : OpRow (w.alloc pO) w.heap.size 1 [zeroO] := World.rowIs_alloc w _ _ _ (fun i hi => by
  have hi : i < 4 := hi
  obtain rfl | rfl | rfl | rfl : i = 0 ∨ i = 1 ∨ i = 2 ∨ i = 3 := by omega
  all_goals rfl)
theorem k_encode (A : Option Addr) (B : Nat) (w : World) (hr : RO w B A [zeroO]) (hB : B ≤ w.heap.size) :
    Calls Tryd.prog 26 #[.agg #[.string ⟨#[116]⟩, .slice A 1 1]] w fun e w' => ∃ A' c, e = .returned (.slice A' 7 c) ∧ RB w' w'.heap.size A' [2, 116, 2, 0, 0, 0, 0] ∧ 7 ≤ c ∧ c ≤ maxLen ∧ Below w.heap.size w w' := by
  refine (encode_any ⟨#[116]⟩ A [zeroO] 1 B w hr hB (by decide) (by decide) (by decide)).mono ?_
  rintro e w' ⟨v, rfl, ho, hb⟩
  rw [k_enc] at ho
  obtain ⟨A', c, rfl, h1, h2, h3⟩ := ho.form _ rfl
  exact ⟨A', c, rfl, h3, h1, h2, hb⟩
theorem k_encode0 (w : World) :
    Calls Tryd.prog 26 #[.agg #[.string ⟨#[]⟩, .slice none 0 0]] w fun e w' => ∃ A' c, e = .returned (.slice A' 0 c) ∧ Below w.heap.size w w' := by
  refine (encode_any ⟨#[]⟩ none [] 0 0 w (RO.nil _ _ _) (Nat.zero_le _) (by decide) (by decide) (by decide)).mono ?_
  rintro e w' ⟨v, rfl, ho, hb⟩
  rw [k_none] at ho
  obtain ⟨A', c, rfl, h1, h2, h3⟩ := ho.form _ rfl
  exact ⟨A', c, rfl, hb⟩
end Go.Proofs.YthidkkjhpdcenaaDoor
