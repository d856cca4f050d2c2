/- WALKS over package state: With; Page and With at any number. -/
import Derived.Test.YtkmkjfbbpeocdaaGc
namespace Go.Proofs.Ytkmkjfbbpeocdaa
open Go.RowKit
set_option linter.unusedVariables false

theorem with_false (g p : List Int) (i : Int) (w : World) (hg : g.length = 32) (hp8 : p.length = 8) (h : pgB i = false) :
    Calls Try.prog 42 #[.agg (gC g), .int .i64 i, .agg (gC p)] w fun e w' => e = .returned (.agg (gC g)) ∧ Below w.heap.size w w' := by
  have hz := zeroState
  have HP := Lib.hid h; clear h
  have hi32 : (zG 32).length = 32 := zG_length 32
  go_enter Try.func42, Try.ntmps42
  go_wp2_with fail
  refine (ispage_any i _).mono ?_
  rintro e w' ⟨rfl, rfl⟩
  rw [HP.out]
  have G : Hid (GA (((w.alloc (.cells (gC g) 38)).alloc (.cells (gC p) 72)).alloc (.cells (gC (zG 32)) 38)) w.heap.size 38 g) := Lib.hid ((((GA.new w 38 g).alloc _).alloc _))
  have G0 : Hid (GA (((w.alloc (.cells (gC g) 38)).alloc (.cells (gC p) 72)).alloc (.cells (gC (zG 32)) 38)) (w.heap.size + 1 + 1) 38 (zG 32)) := Lib.hid (GA.new_at ((w.alloc (.cells (gC g) 38)).alloc (.cells (gC p) 72)) (w.heap.size + 1 + 1) 38 (zG 32) (by simp))
  clear hz
  go_wp2_with (first
    | (with_reducible refine wpList_load_g rfl 38 (.tmp 3) rfl _ (by with_unfolding_all rfl) 38 g G.out Try.underlying38 (by rw [hg]; exact infoState) ?_)
    | (with_reducible refine wpList_store_g rfl 38 (.tmp 6) (.tmp 14) rfl _ (by with_unfolding_all rfl) 38 (zG 32) g G0.out (by with_unfolding_all rfl) (by rw [hg, hi32]) (by rw [hg]; exact infoState) ?_; intro w3 G3 S3 R3))
  exact bodyPost_ret (results_g rfl G3 rfl Try.underlying38 (by rw [hg]; exact infoState)) rfl ⟨rfl, (((((Below.refl _ _).alloc (Nat.le_refl _) _).alloc (by simp) _).alloc (by simp; omega) _)).grown R3 (by simp; omega) (by simp; omega)⟩
theorem with_0 (g p : List Int) (w : World) (hg : g.length = 32) (hp8 : p.length = 8) :
    Calls Try.prog 42 #[.agg (gC g), .int .i64 0, .agg (gC p)] w fun e w' => e = .returned (.agg (gC (spl g 0 p))) ∧ Below w.heap.size w w' := by
  have hz := zeroState
  obtain ⟨u, hu⟩ : ∃ u, u = spl g 0 p := ⟨_, rfl⟩
  have hl : u.length = 32 := by rw [hu, spl_length _ _ _ (by omega), hg]
  have hpp : p = (p.drop 0).take (Nat.min 8 32) := by have h8 := List.take_of_length_le (l := p) (i := 8) (by omega); simp [h8]
  rw [← hu]
  have HU := Lib.hid hu; clear hu
  have HP := Lib.hid hpp; clear hpp
  have hi32 : (zG 32).length = 32 := zG_length 32
  go_enter Try.func42, Try.ntmps42
  go_wp2_with fail
  refine (ispage_any 0 _).mono ?_
  rintro e w' ⟨rfl, rfl⟩
  rw [show pgB 0 = true from rfl]
  have G : Hid (GA (((w.alloc (.cells (gC g) 38)).alloc (.cells (gC p) 72)).alloc (.cells (gC (zG 32)) 38)) w.heap.size 38 g) := Lib.hid ((((GA.new w 38 g).alloc _).alloc _))
  have GP : Hid (GA (((w.alloc (.cells (gC g) 38)).alloc (.cells (gC p) 72)).alloc (.cells (gC (zG 32)) 38)) (w.heap.size + 1) 72 p) := Lib.hid ((GA.new_at (w.alloc (.cells (gC g) 38)) (w.heap.size + 1) 72 p (by simp)).alloc _)
  have G0 : Hid (GA (((w.alloc (.cells (gC g) 38)).alloc (.cells (gC p) 72)).alloc (.cells (gC (zG 32)) 38)) (w.heap.size + 1 + 1) 38 (zG 32)) := Lib.hid (GA.new_at ((w.alloc (.cells (gC g) 38)).alloc (.cells (gC p) 72)) (w.heap.size + 1 + 1) 38 (zG 32) (by simp))
  have HB := Lib.hid (((((Below.refl w.heap.size w).alloc (Nat.le_refl _) (.cells (gC g) 38)).alloc (by simp) (.cells (gC p) 72)).alloc (by simp; omega) (.cells (gC (zG 32)) 38)))
  clear hz
  have hwr : IntKind.i64.wrap 0 = 0 := rfl
  go_wp2_with fail
  go_region_law (refine step_copy_g (by rfl) (.tmp 11) (.tmp 12) 31 31 (by rfl) 21 Try.underlying31 infoCell _ 0 32 32 _ 0 8 8 (by rfl) (by rfl) 38 g G.out.drew 72 p GP.out.drew p HP.out (by rw [hp8]; rfl) (by rw [hg, hp8]; omega) ?_; intro w3 G3 S3 R3; rw [← HU.out] at G3; have F0 := G0.out.drew.grown R3 (by simp; omega); have B3 := HB.out.drew.grown R3 (by simp; omega) (by simp))
  all_goals
    go_wp2_with (first
      | (with_reducible refine wpList_load_g rfl 38 (.tmp 3) rfl _ (by with_unfolding_all rfl) 38 u G3 Try.underlying38 (by rw [hl]; exact infoState) ?_)
      | (with_reducible refine wpList_store_g rfl 38 (.tmp 6) (.tmp 14) rfl _ (by with_unfolding_all rfl) 38 (zG 32) u F0 (by with_unfolding_all rfl) (by rw [hl, hi32]) (by rw [hl]; exact infoState) ?_; intro w4 G4 S4 R4))
    exact bodyPost_ret (results_g rfl G4 rfl Try.underlying38 (by rw [hl]; exact infoState)) rfl ⟨rfl, B3.grown R4 B3.size (by simp; omega)⟩
theorem with_1 (g p : List Int) (w : World) (hg : g.length = 32) (hp8 : p.length = 8) :
    Calls Try.prog 42 #[.agg (gC g), .int .i64 1, .agg (gC p)] w fun e w' => e = .returned (.agg (gC (spl g 8 p))) ∧ Below w.heap.size w w' := by
  have hz := zeroState
  obtain ⟨u, hu⟩ : ∃ u, u = spl g 8 p := ⟨_, rfl⟩
  have hl : u.length = 32 := by rw [hu, spl_length _ _ _ (by omega), hg]
  have hpp : p = (p.drop 0).take (Nat.min 8 24) := by have h8 := List.take_of_length_le (l := p) (i := 8) (by omega); simp [h8]
  rw [← hu]
  have HU := Lib.hid hu; clear hu
  have HP := Lib.hid hpp; clear hpp
  have hi32 : (zG 32).length = 32 := zG_length 32
  go_enter Try.func42, Try.ntmps42
  go_wp2_with fail
  refine (ispage_any 1 _).mono ?_
  rintro e w' ⟨rfl, rfl⟩
  rw [show pgB 1 = true from rfl]
  have G : Hid (GA (((w.alloc (.cells (gC g) 38)).alloc (.cells (gC p) 72)).alloc (.cells (gC (zG 32)) 38)) w.heap.size 38 g) := Lib.hid ((((GA.new w 38 g).alloc _).alloc _))
  have GP : Hid (GA (((w.alloc (.cells (gC g) 38)).alloc (.cells (gC p) 72)).alloc (.cells (gC (zG 32)) 38)) (w.heap.size + 1) 72 p) := Lib.hid ((GA.new_at (w.alloc (.cells (gC g) 38)) (w.heap.size + 1) 72 p (by simp)).alloc _)
  have G0 : Hid (GA (((w.alloc (.cells (gC g) 38)).alloc (.cells (gC p) 72)).alloc (.cells (gC (zG 32)) 38)) (w.heap.size + 1 + 1) 38 (zG 32)) := Lib.hid (GA.new_at ((w.alloc (.cells (gC g) 38)).alloc (.cells (gC p) 72)) (w.heap.size + 1 + 1) 38 (zG 32) (by simp))
  have HB := Lib.hid (((((Below.refl w.heap.size w).alloc (Nat.le_refl _) (.cells (gC g) 38)).alloc (by simp) (.cells (gC p) 72)).alloc (by simp; omega) (.cells (gC (zG 32)) 38)))
  clear hz
  have hwr : IntKind.i64.wrap 8 = 8 := rfl
  go_wp2_with fail
  go_region_law (refine step_copy_g (by rfl) (.tmp 11) (.tmp 12) 31 31 (by rfl) 21 Try.underlying31 infoCell _ 8 24 24 _ 0 8 8 (by rfl) (by rfl) 38 g G.out.drew 72 p GP.out.drew p HP.out (by rw [hp8]; rfl) (by rw [hg, hp8]; omega) ?_; intro w3 G3 S3 R3; rw [← HU.out] at G3; have F0 := G0.out.drew.grown R3 (by simp; omega); have B3 := HB.out.drew.grown R3 (by simp; omega) (by simp))
  all_goals
    go_wp2_with (first
      | (with_reducible refine wpList_load_g rfl 38 (.tmp 3) rfl _ (by with_unfolding_all rfl) 38 u G3 Try.underlying38 (by rw [hl]; exact infoState) ?_)
      | (with_reducible refine wpList_store_g rfl 38 (.tmp 6) (.tmp 14) rfl _ (by with_unfolding_all rfl) 38 (zG 32) u F0 (by with_unfolding_all rfl) (by rw [hl, hi32]) (by rw [hl]; exact infoState) ?_; intro w4 G4 S4 R4))
    exact bodyPost_ret (results_g rfl G4 rfl Try.underlying38 (by rw [hl]; exact infoState)) rfl ⟨rfl, B3.grown R4 B3.size (by simp; omega)⟩
theorem with_2 (g p : List Int) (w : World) (hg : g.length = 32) (hp8 : p.length = 8) :
    Calls Try.prog 42 #[.agg (gC g), .int .i64 2, .agg (gC p)] w fun e w' => e = .returned (.agg (gC (spl g 16 p))) ∧ Below w.heap.size w w' := by
  have hz := zeroState
  obtain ⟨u, hu⟩ : ∃ u, u = spl g 16 p := ⟨_, rfl⟩
  have hl : u.length = 32 := by rw [hu, spl_length _ _ _ (by omega), hg]
  have hpp : p = (p.drop 0).take (Nat.min 8 16) := by have h8 := List.take_of_length_le (l := p) (i := 8) (by omega); simp [h8]
  rw [← hu]
  have HU := Lib.hid hu; clear hu
  have HP := Lib.hid hpp; clear hpp
  have hi32 : (zG 32).length = 32 := zG_length 32
  go_enter Try.func42, Try.ntmps42
  go_wp2_with fail
  refine (ispage_any 2 _).mono ?_
  rintro e w' ⟨rfl, rfl⟩
  rw [show pgB 2 = true from rfl]
  have G : Hid (GA (((w.alloc (.cells (gC g) 38)).alloc (.cells (gC p) 72)).alloc (.cells (gC (zG 32)) 38)) w.heap.size 38 g) := Lib.hid ((((GA.new w 38 g).alloc _).alloc _))
  have GP : Hid (GA (((w.alloc (.cells (gC g) 38)).alloc (.cells (gC p) 72)).alloc (.cells (gC (zG 32)) 38)) (w.heap.size + 1) 72 p) := Lib.hid ((GA.new_at (w.alloc (.cells (gC g) 38)) (w.heap.size + 1) 72 p (by simp)).alloc _)
  have G0 : Hid (GA (((w.alloc (.cells (gC g) 38)).alloc (.cells (gC p) 72)).alloc (.cells (gC (zG 32)) 38)) (w.heap.size + 1 + 1) 38 (zG 32)) := Lib.hid (GA.new_at ((w.alloc (.cells (gC g) 38)).alloc (.cells (gC p) 72)) (w.heap.size + 1 + 1) 38 (zG 32) (by simp))
  have HB := Lib.hid (((((Below.refl w.heap.size w).alloc (Nat.le_refl _) (.cells (gC g) 38)).alloc (by simp) (.cells (gC p) 72)).alloc (by simp; omega) (.cells (gC (zG 32)) 38)))
  clear hz
  have hwr : IntKind.i64.wrap 16 = 16 := rfl
  go_wp2_with fail
  go_region_law (refine step_copy_g (by rfl) (.tmp 11) (.tmp 12) 31 31 (by rfl) 21 Try.underlying31 infoCell _ 16 16 16 _ 0 8 8 (by rfl) (by rfl) 38 g G.out.drew 72 p GP.out.drew p HP.out (by rw [hp8]; rfl) (by rw [hg, hp8]; omega) ?_; intro w3 G3 S3 R3; rw [← HU.out] at G3; have F0 := G0.out.drew.grown R3 (by simp; omega); have B3 := HB.out.drew.grown R3 (by simp; omega) (by simp))
  all_goals
    go_wp2_with (first
      | (with_reducible refine wpList_load_g rfl 38 (.tmp 3) rfl _ (by with_unfolding_all rfl) 38 u G3 Try.underlying38 (by rw [hl]; exact infoState) ?_)
      | (with_reducible refine wpList_store_g rfl 38 (.tmp 6) (.tmp 14) rfl _ (by with_unfolding_all rfl) 38 (zG 32) u F0 (by with_unfolding_all rfl) (by rw [hl, hi32]) (by rw [hl]; exact infoState) ?_; intro w4 G4 S4 R4))
    exact bodyPost_ret (results_g rfl G4 rfl Try.underlying38 (by rw [hl]; exact infoState)) rfl ⟨rfl, B3.grown R4 B3.size (by simp; omega)⟩
theorem with_3 (g p : List Int) (w : World) (hg : g.length = 32) (hp8 : p.length = 8) :
    Calls Try.prog 42 #[.agg (gC g), .int .i64 3, .agg (gC p)] w fun e w' => e = .returned (.agg (gC (spl g 24 p))) ∧ Below w.heap.size w w' := by
  have hz := zeroState
  obtain ⟨u, hu⟩ : ∃ u, u = spl g 24 p := ⟨_, rfl⟩
  have hl : u.length = 32 := by rw [hu, spl_length _ _ _ (by omega), hg]
  have hpp : p = (p.drop 0).take (Nat.min 8 8) := by have h8 := List.take_of_length_le (l := p) (i := 8) (by omega); simp [h8]
  rw [← hu]
  have HU := Lib.hid hu; clear hu
  have HP := Lib.hid hpp; clear hpp
  have hi32 : (zG 32).length = 32 := zG_length 32
  go_enter Try.func42, Try.ntmps42
  go_wp2_with fail
  refine (ispage_any 3 _).mono ?_
  rintro e w' ⟨rfl, rfl⟩
  rw [show pgB 3 = true from rfl]
  have G : Hid (GA (((w.alloc (.cells (gC g) 38)).alloc (.cells (gC p) 72)).alloc (.cells (gC (zG 32)) 38)) w.heap.size 38 g) := Lib.hid ((((GA.new w 38 g).alloc _).alloc _))
  have GP : Hid (GA (((w.alloc (.cells (gC g) 38)).alloc (.cells (gC p) 72)).alloc (.cells (gC (zG 32)) 38)) (w.heap.size + 1) 72 p) := Lib.hid ((GA.new_at (w.alloc (.cells (gC g) 38)) (w.heap.size + 1) 72 p (by simp)).alloc _)
  have G0 : Hid (GA (((w.alloc (.cells (gC g) 38)).alloc (.cells (gC p) 72)).alloc (.cells (gC (zG 32)) 38)) (w.heap.size + 1 + 1) 38 (zG 32)) := Lib.hid (GA.new_at ((w.alloc (.cells (gC g) 38)).alloc (.cells (gC p) 72)) (w.heap.size + 1 + 1) 38 (zG 32) (by simp))
  have HB := Lib.hid (((((Below.refl w.heap.size w).alloc (Nat.le_refl _) (.cells (gC g) 38)).alloc (by simp) (.cells (gC p) 72)).alloc (by simp; omega) (.cells (gC (zG 32)) 38)))
  clear hz
  have hwr : IntKind.i64.wrap 24 = 24 := rfl
  go_wp2_with fail
  go_region_law (refine step_copy_g (by rfl) (.tmp 11) (.tmp 12) 31 31 (by rfl) 21 Try.underlying31 infoCell _ 24 8 8 _ 0 8 8 (by rfl) (by rfl) 38 g G.out.drew 72 p GP.out.drew p HP.out (by rw [hp8]; rfl) (by rw [hg, hp8]; omega) ?_; intro w3 G3 S3 R3; rw [← HU.out] at G3; have F0 := G0.out.drew.grown R3 (by simp; omega); have B3 := HB.out.drew.grown R3 (by simp; omega) (by simp))
  all_goals
    go_wp2_with (first
      | (with_reducible refine wpList_load_g rfl 38 (.tmp 3) rfl _ (by with_unfolding_all rfl) 38 u G3 Try.underlying38 (by rw [hl]; exact infoState) ?_)
      | (with_reducible refine wpList_store_g rfl 38 (.tmp 6) (.tmp 14) rfl _ (by with_unfolding_all rfl) 38 (zG 32) u F0 (by with_unfolding_all rfl) (by rw [hl, hi32]) (by rw [hl]; exact infoState) ?_; intro w4 G4 S4 R4))
    exact bodyPost_ret (results_g rfl G4 rfl Try.underlying38 (by rw [hl]; exact infoState)) rfl ⟨rfl, B3.grown R4 B3.size (by simp; omega)⟩
theorem pgB_cases {i : Int} (h : pgB i = true) : i = 0 ∨ i = 1 ∨ i = 2 ∨ i = 3 := by
  unfold pgB at h; simp at h; omega
theorem page_any (g : List Int) (i : Int) (w : World) (hg : g.length = 32) :
    Calls Try.prog 35 #[.agg (gC g), .int .i64 i] w fun e w' => e = .returned (.agg (gC (pageG g i))) ∧ Below w.heap.size w w' := by
  cases h : pgB i with
  | false => have e : pageG g i = zG 8 := by unfold pageG; rw [h]; rfl
             rw [e]; exact page_false g i w hg h
  | true =>
    rcases pgB_cases h with rfl | rfl | rfl | rfl
    · exact page_0 g w hg
    · exact page_1 g w hg
    · exact page_2 g w hg
    · exact page_3 g w hg
theorem with_any (g p : List Int) (i : Int) (w : World) (hg : g.length = 32) (hp : p.length = 8) :
    Calls Try.prog 42 #[.agg (gC g), .int .i64 i, .agg (gC p)] w fun e w' => e = .returned (.agg (gC (withG g i p))) ∧ Below w.heap.size w w' := by
  cases h : pgB i with
  | false => have e : withG g i p = g := by unfold withG; rw [h]; rfl
             rw [e]; exact with_false g p i w hg hp h
  | true =>
    rcases pgB_cases h with rfl | rfl | rfl | rfl
    · exact with_0 g p w hg hp
    · exact with_1 g p w hg hp
    · exact with_2 g p w hg hp
    · exact with_3 g p w hg hp
end Go.Proofs.Ytkmkjfbbpeocdaa
