/- THE WALK of the laws' begun. -/
import Derived.Test.YtjjhdbcekkmjfaaOm
import Derived.Test.YtjjhdbcekkmjfaaOk
import Derived.Outline
namespace Go.Proofs.Ytjjhdbcekkmjfaa
open Go.RowKit
set_option linter.unusedVariables false

theorem kt_title : titB ⟨#[116]⟩ = true := by decide +kernel
theorem k_fits : fitsB (titB ⟨#[116]⟩) [zeroO] = true := by rw [kt_title]; decide
theorem k_enc : encB ⟨#[116]⟩ [zeroO] = [2, 116, 2, 0, 0, 0, 0] := by
  unfold encB
  rw [if_pos k_fits]
  decide +kernel
theorem k_none : encB ⟨#[]⟩ [] = [] := by
  unfold encB
  rw [if_neg (by
    have : fitsB (titB ⟨#[]⟩) [] = false := by unfold fitsB; simp
    rw [this]; decide)]
theorem k_prog : progN titL [2, 116, 2, 0, 0, 0, 0] = some ([116], [zeroO]) := by
  have h := progN_put titL [116] [zeroO] (by decide) (show fitsB (titB ⟨#[116]⟩) [zeroO] = true from k_fits)
  have e : encP [116] [zeroO] = [2, 116, 2, 0, 0, 0, 0] := by
    have := k_enc
    unfold encB at this
    rw [if_pos k_fits] at this
    exact this
  rw [e] at h
  exact h
def pO : Obj := .cells #[.int .i64 0, .int .i64 0, .int .i64 0, .int .i64 0] 37
def pP (g : Nat) : Obj := .cells #[.string ⟨#[116]⟩, .slice (some ⟨g, 0, none⟩) 1 1] 24
theorem k_row (w : World) : OpRow (w.alloc pO) w.heap.size 1 [zeroO] := World.rowIs_alloc w _ _ _ (fun i hi => by
  have hi : i < 4 := hi
  obtain rfl | rfl | rfl | rfl : i = 0 ∨ i = 1 ∨ i = 2 ∨ i = 3 := by omega
  all_goals rfl)
theorem k_encode (A : Option Addr) (B : Nat) (w : World) (hr : RO w B A [zeroO]) (hB : B ≤ w.heap.size) :
    Calls Try.prog 11 #[.agg #[.string ⟨#[116]⟩, .slice A 1 1]] w fun e w' => ∃ A' c, e = .returned (.slice A' 7 c) ∧ RB w' w'.heap.size A' [2, 116, 2, 0, 0, 0, 0] ∧ 7 ≤ c ∧ c ≤ maxLen ∧ Below w.heap.size w w' := by
  refine (encode_any ⟨#[116]⟩ A [zeroO] 1 B w hr hB (by decide) (by decide) (by decide)).mono ?_
  rintro e w' ⟨v, rfl, ho, hb⟩
  rw [k_enc] at ho
  obtain ⟨A', c, rfl, h1, h2, h3⟩ := ho.form _ rfl
  exact ⟨A', c, rfl, h3, h1, h2, hb⟩
theorem k_encode0 (w : World) :
    Calls Try.prog 11 #[.agg #[.string ⟨#[]⟩, .slice none 0 0]] w fun e w' => ∃ A' c, e = .returned (.slice A' 0 c) ∧ Below w.heap.size w w' := by
  refine (encode_any ⟨#[]⟩ none [] 0 0 w (RO.nil _ _ _) (Nat.zero_le _) (by decide) (by decide) (by decide)).mono ?_
  rintro e w' ⟨v, rfl, ho, hb⟩
  rw [k_none] at ho
  obtain ⟨A', c, rfl, h1, h2, h3⟩ := ho.form _ rfl
  exact ⟨A', c, rfl, hb⟩
theorem k_decode (A : Option Addr) (c B : Nat) (w : World) (hr : RB w B A [2, 116, 2, 0, 0, 0, 0]) (hB : B ≤ w.heap.size) (hc : 7 ≤ c) (hm : c ≤ maxLen) :
    Calls Try.prog 13 #[.slice A 7 c] w fun e w' => ∃ g, e = .returned (.tuple #[.agg #[.string ⟨#[116]⟩, .slice (some ⟨g, 0, none⟩) 1 1], .int .i64 0]) ∧ OpRow w' g 1 [zeroO] ∧ Below w.heap.size w w' := by
  refine (unpack_any A [2, 116, 2, 0, 0, 0, 0] c B w hr hB hc hm).mono ?_
  intro e w' h
  unfold Decoded at h
  rw [k_prog] at h
  obtain ⟨g, rfl, _, h2, h3⟩ := h
  exact ⟨g, rfl, h2, h3⟩
theorem k_eq (A1 A2 : Option Addr) (B : Nat) (w : World) (h1 : RO w B A1 [zeroO]) (h2 : RO w B A2 [zeroO]) (hB : B ≤ w.heap.size) :
    Calls Try.prog 15 #[.agg #[.string ⟨#[116]⟩, .slice A1 1 1], .agg #[.string ⟨#[116]⟩, .slice A2 1 1]] w fun e w' => e = .returned (.bool true) ∧ Below w.heap.size w w' :=
  ceq_any ⟨#[116]⟩ ⟨#[116]⟩ A1 A2 [zeroO] [zeroO] 1 1 B w h1 h2 hB (by decide) (by decide) (by decide) (by decide) true (by simp)
theorem k_neq (A1 : Option Addr) (B : Nat) (w : World) (h1 : RO w B A1 [zeroO]) (hB : B ≤ w.heap.size) :
    Calls Try.prog 15 #[.agg #[.string ⟨#[116]⟩, .slice A1 1 1], .agg #[.string ⟨#[]⟩, .slice none 0 0]] w fun e w' => e = .returned (.bool false) ∧ Below w.heap.size w w' :=
  ceq_any ⟨#[116]⟩ ⟨#[]⟩ A1 none [zeroO] [] 1 0 B w h1 (RO.nil _ _ _) hB (by decide) (by decide) (by decide) (by decide) false (by simp)
set_option maxHeartbeats 4000000 in
theorem begun_any (w : World) : Calls Try.prog 9 #[] w fun e w' => e = .returned (.bool true) ∧ Below w.heap.size w w' := by
  have b0 : Below w.heap.size w ((w.alloc pO).alloc (pP w.heap.size)) := ((Below.refl _ _).alloc (Nat.le_refl _) _).alloc (by simp) _
  have r0 : OpRow ((w.alloc pO).alloc (pP w.heap.size)) w.heap.size 1 [zeroO] := World.rowIs.alloc (k_row w) _
  have r1 := r0.reads (by decide) (w.heap.size + 1) (by omega)
  have hs0 : ((w.alloc pO).alloc (pP w.heap.size)).heap.size = w.heap.size + 2 := by simp
  have q0 : ((w.alloc pO).alloc (pP w.heap.size)).cell? ⟨w.heap.size + 1, 0, none⟩ = some (.string ⟨#[116]⟩) := by simp [pP]
  have q1 : ((w.alloc pO).alloc (pP w.heap.size)).cell? ⟨w.heap.size + 1, 1, none⟩ = some (.slice (some ⟨w.heap.size, 0, none⟩) 1 1) := by simp [pP]
  have HS := Lib.hid hs0; have HR := Lib.hid r1; have Q0 := Lib.hid q0; have Q1 := Lib.hid q1
  clear hs0 r0 r1 q0 q1
  go_enter Try.func9, Try.ntmps9
  go_wp2_with fail
  refine (k_encode (some ⟨w.heap.size, 0, none⟩) (w.heap.size + 1) ((w.alloc pO).alloc (pP w.heap.size)) HR.out (by have := HS.out; omega)).mono ?_
  rintro e w2 ⟨A2, c2, rfl, h2, h3, h4, hb2⟩
  rw [HS.out] at hb2
  have H2 := Lib.hid h2; clear h2
  go_wp2_with fail
  refine (k_decode A2 c2 w2.heap.size w2 H2.out (Nat.le_refl _) h3 h4).mono ?_
  rintro e w3 ⟨g, rfl, hrow, hb3⟩
  have hgl : g < w3.heap.size := World.rowIs.lt hrow
  have hb23 := hb2.trans (hb3.mono (by have := hb2.size; rw [HS.out] at this; exact this))
  have hs3 : w.heap.size + 2 ≤ w3.heap.size := by have := hb23.size; rw [HS.out] at this; exact this
  have b4 : Below w3.heap.size w3 (w3.alloc (pP g)) := (Below.refl _ _).alloc (Nat.le_refl _) _
  have hb4 := hb23.trans (b4.mono hs3)
  have e0 : (w3.alloc (.cells #[.string ⟨#[116]⟩, .slice (some ⟨g, 0, none⟩) 1 1] 24)).cell? ⟨w.heap.size + 1, 0, none⟩ = some (.string ⟨#[116]⟩) := (hb4.cell (p := ⟨w.heap.size + 1, 0, none⟩) (by simp)).trans Q0.out
  have e1 : (w3.alloc (.cells #[.string ⟨#[116]⟩, .slice (some ⟨g, 0, none⟩) 1 1] 24)).cell? ⟨w.heap.size + 1, 1, none⟩ = some (.slice (some ⟨w.heap.size, 0, none⟩) 1 1) := (hb4.cell (p := ⟨w.heap.size + 1, 1, none⟩) (by simp)).trans Q1.out
  have hr1 := HR.out.below (hb4.mono (by omega))
  have hr2 : RO (w3.alloc (pP g)) w3.heap.size (some ⟨g, 0, none⟩) [zeroO] := OpRow.reads (rowIs_below hrow b4 hgl) (by decide) _ hgl
  have KE := Lib.hid (k_eq (some ⟨w.heap.size, 0, none⟩) (some ⟨g, 0, none⟩) w3.heap.size (w3.alloc (.cells #[.string ⟨#[116]⟩, .slice (some ⟨g, 0, none⟩) 1 1] 24)) (hr1.more (by omega)) hr2 (by simp))
  have HR1 := Lib.hid hr1
  have hz4 : (w3.alloc (.cells #[.string ⟨#[116]⟩, .slice (some ⟨g, 0, none⟩) 1 1] 24)).heap.size = w3.heap.size + 1 := by simp
  have HZ4 := Lib.hid hz4
  clear hz4 hr1 hr2 hb2 hb3 hb23 b4 hrow
  go_wp2_with (first
    | (go_at_call 15; ((with_reducible refine KE.out.mono ?_); rintro e w5 ⟨rfl, hb5⟩; have f0 := (hb5.cell (p := ⟨w.heap.size + 1, 0, none⟩) (by rw [HZ4.out]; simp; omega)).trans e0; have f1 := (hb5.cell (p := ⟨w.heap.size + 1, 1, none⟩) (by rw [HZ4.out]; simp; omega)).trans e1; have HR5 := Lib.hid (HR1.out.below (hb5.mono (by rw [HZ4.out]; omega))); have hs5 := hb5.size; rw [HZ4.out] at hs5; have hb6 := hb4.trans (hb5.mono (by rw [HZ4.out]; omega)); clear e0 e1))
    | (go_at_call 15; refine (k_neq (some ⟨w.heap.size, 0, none⟩) (w.heap.size + 1) _ HR5.out (by omega)).mono ?_; rintro e w6 ⟨rfl, hb7⟩; have hb8 := hb6.trans (hb7.mono (by omega)); have hs6 := hb7.size)
    | (go_at_call 11; refine (k_encode0 _).mono ?_; rintro e w7 ⟨A7, c7, rfl, hb9⟩; have hbz := hb8.trans (hb9.mono (by omega))))
  go_ret
  exact ⟨rfl, b0.trans (hbz.mono (by omega))⟩
end Go.Proofs.Ytjjhdbcekkmjfaa
