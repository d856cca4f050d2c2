/- WALK: the begun of the laws of layer 8. -/
import Derived.Test.YtbhmageepocmcaaDoorGf
import Derived.Test.YtbhmageepocmcaaDoorKr
namespace Go.Proofs.YtbhmageepocmcaaDoor
open Go.RowKit
set_option linter.unusedVariables false
set_option linter.unusedSimpArgs false

theorem OB.row {w : World} {base : Nat} {v : Value} {l : List UInt8} {n : Nat} (h : OB w base v l) (hn : l.length = n) (h0 : 0 < n) : ∃ b cap, v = .slice (some ⟨b, 0, none⟩) n cap ∧ base ≤ b ∧ b < w.heap.size ∧ n ≤ cap ∧ cap ≤ maxLen ∧ RB w w.heap.size (some ⟨b, 0, none⟩) l ∧ ∀ j (hj : j < l.length), w.cell? ⟨b, j, none⟩ = some (vb l[j]) := by
  subst hn
  obtain ⟨b, cap, rfl, h1, h2, h3⟩ := h.some_ h0
  have hr := h.cells
  obtain ⟨b', off, e, hlt, hc⟩ := hr h0
  have e := Option.some.inj e
  injection e with e1 e2 e3
  subst e1 e2
  exact ⟨b, cap, rfl, h1, hlt, h2, h3, hr, fun j hj => by have := hc j hj; rwa [Nat.zero_add] at this⟩

def g8 : List Int := ((zG 32).set 0 (-1)).set 9 5
theorem g8_length : g8.length = 32 := by decide
theorem g8_bd : Bd g8 := by unfold Bd; decide
theorem g8_byte : (encG g8)[0]'(by rw [encG_length]; decide) = 255 := by decide +kernel
theorem g8_page : (pageG g8 1)[1]'(by rw [pageG_length _ _ g8_length]; omega) = 5 := by decide +kernel
theorem g8_with : (withG g8 0 (pageG g8 1))[1]'(by rw [withG_length _ _ _ g8_length (pageG_length _ _ g8_length)]; omega) = 5 := by decide +kernel

set_option maxHeartbeats 2000000 in
theorem begun_any (w : World) : Calls Tryd.prog 5 #[] w fun e w' => e = .returned (.bool true) ∧ Below w.heap.size w w' := by
  have hz := zeroState
  have hl8 := g8_length
  obtain ⟨L, hL⟩ : ∃ L, L = encG g8 := ⟨_, rfl⟩
  have hL1 : L.length = 128 := by rw [hL, encG_length, hl8]
  have hL2 : L[0]? = some 255 := by subst hL; exact List.getElem?_eq_some_iff.2 ⟨_, g8_byte⟩
  have hL3 : decG L = g8 := by rw [hL]; exact decG_encG g8 hl8 g8_bd
  obtain ⟨p, hp⟩ : ∃ p, p = pageG g8 1 := ⟨_, rfl⟩
  have hp8 : p.length = 8 := by rw [hp]; exact pageG_length _ _ hl8
  obtain ⟨u, hu⟩ : ∃ u, u = withG g8 0 p := ⟨_, rfl⟩
  have hu32 : u.length = 32 := by rw [hu]; exact withG_length _ _ _ hl8 hp8
  have hx1 : ∀ w, (Instr.index 37 (.agg (gC p)) (.int .i64 1)).run Tryd.prog w = .ok (.int .i32 5) w := fun w => by
    have := index_g (P := Tryd.prog) 37 p Tryd.underlying37 Tryd.underlying21 rfl infoCell 1 (by omega) hp8 w
    subst hp; rw [g8_page] at this; exact this
  have hx2 : ∀ w, (Instr.index 25 (.agg (gC u)) (.int .i64 1)).run Tryd.prog w = .ok (.int .i32 5) w := fun w => by
    have := index_g (P := Tryd.prog) 25 u Tryd.underlying25 Tryd.underlying21 rfl infoCell 1 (by omega) hu32 w
    subst hu; subst hp; rw [g8_with] at this; exact this
  have KP := Lib.hid (fun w => hp ▸ page_any g8 1 w hl8)
  have KW := Lib.hid (fun w => hu ▸ with_any g8 p 0 w hl8 hp8)
  have B1 : Hid (Below w.heap.size w (w.alloc (.cells (gC (zG 32)) 25))) := Lib.hid ((Below.refl w.heap.size w).alloc (Nat.le_refl _) _)
  have G1 : Hid (GA (w.alloc (.cells (gC (zG 32)) 25)) w.heap.size 25 (zG 32)) := Lib.hid (GA.new w _ _)
  have c0 : (w.alloc (.cells (gC (zG 32)) 25)).cell? ⟨w.heap.size, 0, none⟩ = some (.int .i32 0) := G1.out.cell 0 (by rw [zG_length]; omega)
  have f0 : (w.alloc (.cells (gC (zG 32)) 25)).frozen? ⟨w.heap.size, 0, none⟩ = false := G1.out.frozen 0
  have c9 : (w.alloc (.cells (gC (zG 32)) 25)).cell? ⟨w.heap.size, 9, none⟩ = some (.int .i32 0) := G1.out.cell 9 (by rw [zG_length]; omega)
  have f9 : (w.alloc (.cells (gC (zG 32)) 25)).frozen? ⟨w.heap.size, 9, none⟩ = false := G1.out.frozen 9
  have hset : ((gC (zG 32)).setIfInBounds 0 (.int .i32 (-1))).setIfInBounds 9 (.int .i32 5) = gC g8 := by unfold gC g8; rw [List.map_set, List.map_set]; simp [vi]
  have G2 : Hid (GA (w.alloc (.cells (((gC (zG 32)).setIfInBounds 0 (.int .i32 (-1))).setIfInBounds 9 (.int .i32 5)) 25)) w.heap.size 25 g8) := Lib.hid (by rw [hset]; exact GA.new w _ _)
  have B2 : Hid (Below w.heap.size w (w.alloc (.cells (((gC (zG 32)).setIfInBounds 0 (.int .i32 (-1))).setIfInBounds 9 (.int .i32 5)) 25))) := Lib.hid ((Below.refl w.heap.size w).alloc (Nat.le_refl _) _)
  clear hset
  have KE := Lib.hid (fun w => encode_any g8 w hl8 g8_bd)
  have HL1 := Lib.hid hL1; have HL2 := Lib.hid hL2; have HL3 := Lib.hid hL3; have HL := Lib.hid hL
  clear hL1 hL2 hL3 hL hp hu
  go_enter Tryd.func5, Tryd.ntmps5
  go_wp2_with (first
    | (with_reducible refine wpList_load_g rfl 25 (.tmp 1) rfl _ (by with_unfolding_all rfl) 25 g8 G2.out Tryd.underlying25 (by rw [hl8]; exact infoState) ?_)
    | (go_at_call 7; refine (KE.out _).mono ?_; rintro e w2 ⟨v, rfl, O2, R2⟩
       rw [← HL.out] at O2
       obtain ⟨b, cap, rfl, hb1, hb2, hb3, hb4, hb5, hb6⟩ := OB.row O2 HL1.out (by omega)
       have HD := Lib.hid (decode_good (some ⟨b, 0, none⟩) L cap w2 hb5 hb3 hb4 HL1.out)
       have B3 := Lib.hid (B2.out.trans (R2.mono (by simp)))
       have G3 := Lib.hid (G2.out.below R2 (by simp))
       have C3 : Hid (w2.cell? ⟨b, 0, none⟩ = some (.int .u8 255)) := Lib.hid (by have := hb6 0 (by rw [HL1.out]; omega); rw [(List.getElem?_eq_some_iff.1 HL2.out).2] at this; exact this))
    | (go_at_call 8; refine HD.out.mono ?_; rintro e w3 ⟨rfl, R3⟩
       have B4 := Lib.hid (B3.out.trans (R3.mono B3.out.size))
       have G4 := Lib.hid (G3.out.below R3 (by simpa using G3.out.lt))
       have C4 := Lib.hid ((R3.cell (p := ⟨b, 0, none⟩) hb2).trans C3.out)
       rw [HL3.out]
       have G5 : Hid (GA (w3.alloc (.cells (gC (zG 32)) 25)) w3.heap.size 25 (zG 32)) := Lib.hid (GA.new w3 _ _)
       have B5 := Lib.hid (B4.out.alloc B4.out.size (.cells (gC (zG 32)) 25))
       have G6 := Lib.hid (G4.out.alloc (.cells (gC (zG 32)) 25))
       have C6 : Hid ((w3.alloc (.cells (gC (zG 32)) 25)).cell? ⟨b, 0, none⟩ = some (.int .u8 255)) := Lib.hid ((((Below.refl w3.heap.size w3).alloc (Nat.le_refl _) _).cell (p := ⟨b, 0, none⟩) (cell_lt C4.out)).trans C4.out))
    | (with_reducible refine wpList_store_g rfl 25 (.tmp 3) (.tmp 12) rfl _ (by with_unfolding_all rfl) 25 (zG 32) g8 G5.out (by with_unfolding_all rfl) (by rw [hl8, zG_length]) (by rw [hl8]; exact infoState) ?_; intro w4 G7 S4 R4
       have hw3 := G4.out.lt
       have hb3' := cell_lt C4.out
       have B7 := Lib.hid (B5.out.grown R4 B5.out.size (fun k hk => by have := Option.some.inj hk; have := B4.out.size; omega))
       have G8 := Lib.hid (G6.out.grown R4 (by simp; omega))
       have C8 : Hid (w4.cell? ⟨b, 0, none⟩ = some (.int .u8 255)) := Lib.hid ((R4.cell C6.out (by simp; omega)))
       replace G7 := Lib.hid G7
       clear G5 B5 G6 C6 G4 B4 C4 G3 B3 C3 G2 B2 G1 B1 c0 f0 c9 f9 hz))
  have hbc : Below w4.heap.size w4.drew w4.drew := Below.refl _ _
  have hn8 := G8.out.lt
  have hn7 := G7.out.lt
  have hnb := cell_lt C8.out
  have C9 : Hid (w4.cell? ⟨w3.heap.size, 9, none⟩ = some (.int .i32 5)) := Lib.hid (G7.out.cell 9 (by rw [hl8]; omega))
  have C1 : Hid (w4.cell? ⟨w.heap.size, 1, none⟩ = some (.int .i32 0)) := Lib.hid (G8.out.cell 1 (by rw [hl8]; omega))
  refine wp_region_held_drew (S := (fun w' => GA w' w.heap.size 25 g8 ∧ w'.cell? ⟨b, 0, none⟩ = some (.int .u8 255) ∧ w'.cell? ⟨w3.heap.size, 9, none⟩ = some (.int .i32 5) ∧ w'.cell? ⟨w.heap.size, 1, none⟩ = some (.int .i32 0))) (by kernel_rfl) (⟨G8.out.drew, C8.out, C9.out, C1.out⟩) (fun hHeld => ?_)
  refine held_take (i := 0) (v := ?_) rfl (by kernel_rfl) (by kernel_rfl) (by kernel_rfl) (fun _ _ _ h => h) (by rfl) hHeld ?_ ?_
  rotate_left 1
  · (intro w hSw; (try dsimp only at hSw); go_simp; try (with_reducible rfl))
  try simp only [Act.put, List.setIfInBounds_toArray, List.set_cons_zero, List.set_cons_succ]
  refine held_take (i := 1) (v := ?_) rfl (by kernel_rfl) (by kernel_rfl) (by kernel_rfl) (fun _ _ _ h => h) (by rfl) hHeld ?_ ?_
  rotate_left 1
  · (intro w hSw; (try dsimp only at hSw); go_simp; try (with_reducible rfl))
  try simp only [Act.put, List.setIfInBounds_toArray, List.set_cons_zero, List.set_cons_succ]
  refine held_take (i := 2) (v := ?_) rfl (by kernel_rfl) (by kernel_rfl) (by kernel_rfl) (fun _ _ _ h => h) (by rfl) hHeld ?_ ?_
  rotate_left 1
  · (intro w hSw; (try dsimp only at hSw); go_simp; try (with_reducible rfl))
  try simp only [Act.put, List.setIfInBounds_toArray, List.set_cons_zero, List.set_cons_succ]
  refine held_take (i := 3) (v := ?_) rfl (by kernel_rfl) (by kernel_rfl) (by kernel_rfl) (fun _ _ _ h => h) (by rfl) hHeld ?_ ?_
  rotate_left 1
  · (intro w hSw; (try dsimp only at hSw); go_simp; try (with_reducible rfl))
  try simp only [Act.put, List.setIfInBounds_toArray, List.set_cons_zero, List.set_cons_succ]
  refine held_take (i := 4) (v := ?_) rfl (by kernel_rfl) (by kernel_rfl) (by kernel_rfl) (fun _ _ _ h => h) (by rfl) hHeld ?_ ?_
  rotate_left 1
  · (intro w hSw; (try dsimp only at hSw); go_simp; try (with_reducible rfl))
  try simp only [Act.put, List.setIfInBounds_toArray, List.set_cons_zero, List.set_cons_succ]
  refine held_take (i := 5) (v := ?_) rfl (by kernel_rfl) (by kernel_rfl) (by kernel_rfl) (fun _ _ _ h => h) (by rfl) hHeld ?_ ?_
  rotate_left 1
  · (intro w hSw; (try dsimp only at hSw); go_simp; try (with_reducible rfl))
  try simp only [Act.put, List.setIfInBounds_toArray, List.set_cons_zero, List.set_cons_succ]
  refine held_take (i := 6) (v := ?_) rfl (by kernel_rfl) (by kernel_rfl) (by kernel_rfl) (fun _ _ _ h => h) (by rfl) hHeld ?_ ?_
  rotate_left 1
  · (intro w hSw; (try dsimp only at hSw); go_simp; try (with_reducible rfl))
  try simp only [Act.put, List.setIfInBounds_toArray, List.set_cons_zero, List.set_cons_succ]
  refine held_take (i := 7) (v := ?_) rfl (by kernel_rfl) (by kernel_rfl) (by kernel_rfl) (fun _ _ _ h => h) (by rfl) hHeld ?_ ?_
  rotate_left 1
  · (intro w hSw; (try dsimp only at hSw); go_simp; try (with_reducible rfl))
  try simp only [Act.put, List.setIfInBounds_toArray, List.set_cons_zero, List.set_cons_succ]
  refine held_take (i := 8) (v := ?_) rfl (by kernel_rfl) (by kernel_rfl) (by kernel_rfl) (fun _ _ _ h => h) (by rfl) hHeld ?_ ?_
  rotate_left 1
  · (intro w hSw; (try dsimp only at hSw); go_simp; try (with_reducible rfl))
  try simp only [Act.put, List.setIfInBounds_toArray, List.set_cons_zero, List.set_cons_succ]
  refine held_take (i := 9) (v := ?_) rfl (by kernel_rfl) (by kernel_rfl) (by kernel_rfl) (fun _ _ _ h => h) (by rfl) hHeld ?_ ?_
  rotate_left 1
  · (intro w hSw; (try dsimp only at hSw); go_simp; try (with_reducible rfl))
  try simp only [Act.put, List.setIfInBounds_toArray, List.set_cons_zero, List.set_cons_succ]
  refine held_take (i := 10) (v := ?_) rfl (by kernel_rfl) (by kernel_rfl) (by kernel_rfl) (fun _ _ _ h => h) (by rfl) hHeld ?_ ?_
  rotate_left 1
  · (intro w hSw; (try dsimp only at hSw); go_simp; try (with_reducible rfl))
  try simp only [Act.put, List.setIfInBounds_toArray, List.set_cons_zero, List.set_cons_succ]
  refine held_take (i := 11) (v := ?_) rfl (by kernel_rfl) (by kernel_rfl) (by kernel_rfl) (fun _ _ _ h => h) (by rfl) hHeld ?_ ?_
  rotate_left 1
  · (intro w hSw; (try dsimp only at hSw); go_simp; try (with_reducible rfl))
  try simp only [Act.put, List.setIfInBounds_toArray, List.set_cons_zero, List.set_cons_succ]
  refine held_take (i := 12) (v := ?_) rfl (by kernel_rfl) (by kernel_rfl) (by kernel_rfl) (fun _ _ _ h => h) (by rfl) hHeld ?_ ?_
  rotate_left 1
  · (intro w hSw; (try dsimp only at hSw); go_simp; try (with_reducible rfl))
  try simp only [Act.put, List.setIfInBounds_toArray, List.set_cons_zero, List.set_cons_succ]
  refine held_take (i := 13) (v := ?_) rfl (by kernel_rfl) (by kernel_rfl) (by kernel_rfl) (fun _ _ _ h => h) (by rfl) hHeld ?_ ?_
  rotate_left 1
  · (intro w hSw; (try dsimp only at hSw); go_simp; try (with_reducible rfl))
  try simp only [Act.put, List.setIfInBounds_toArray, List.set_cons_zero, List.set_cons_succ]
  refine held_take (i := 14) (v := ?_) rfl (by kernel_rfl) (by kernel_rfl) (by kernel_rfl) (fun _ _ _ h => h) (by rfl) hHeld ?_ ?_
  rotate_left 1
  · (intro w hSw; (try dsimp only at hSw); go_simp; try (with_reducible rfl))
  try simp only [Act.put, List.setIfInBounds_toArray, List.set_cons_zero, List.set_cons_succ]
  refine held_take (i := 15) (v := ?_) rfl (by kernel_rfl) (by kernel_rfl) (by kernel_rfl) (fun _ _ _ h => h) (by rfl) hHeld ?_ ?_
  rotate_left 1
  · (intro w hSw; (try dsimp only at hSw); go_simp; try (with_reducible rfl))
  try simp only [Act.put, List.setIfInBounds_toArray, List.set_cons_zero, List.set_cons_succ]
  refine held_take (i := 16) (v := ?_) rfl (by kernel_rfl) (by kernel_rfl) (by kernel_rfl) (fun _ _ _ h => h) (by rfl) hHeld ?_ ?_
  rotate_left 1
  · (intro w hSw; (try dsimp only at hSw); go_simp; try (with_reducible rfl))
  try simp only [Act.put, List.setIfInBounds_toArray, List.set_cons_zero, List.set_cons_succ]
  refine held_take (i := 17) (v := ?_) rfl (by kernel_rfl) (by kernel_rfl) (by kernel_rfl) (fun _ _ _ h => h) (by rfl) hHeld ?_ ?_
  rotate_left 1
  · (intro w hSw; (try dsimp only at hSw); go_simp; try (with_reducible rfl))
  try simp only [Act.put, List.setIfInBounds_toArray, List.set_cons_zero, List.set_cons_succ]
  refine held_take (i := 18) (v := ?_) rfl (by kernel_rfl) (by kernel_rfl) (by kernel_rfl) (fun _ _ _ h => h) (by rfl) hHeld ?_ ?_
  rotate_left 1
  · (intro w hSw; (try dsimp only at hSw); go_simp; try (with_reducible rfl))
  try simp only [Act.put, List.setIfInBounds_toArray, List.set_cons_zero, List.set_cons_succ]
  refine held_take (i := 19) (v := .agg (gC g8)) rfl (by kernel_rfl) (by kernel_rfl) (by kernel_rfl) (fun _ _ _ h => h) (by rfl) hHeld (exec_load_g _ _ rfl w.heap.size (by rfl) 25 g8 (fun w h => h.1) Tryd.underlying25 (by rw [hl8]; exact infoState)) ?_
  try simp only [Act.put, List.setIfInBounds_toArray, List.set_cons_zero, List.set_cons_succ]
  refine held_one (i := 20) rfl (by kernel_rfl) (by rfl) (fun K hK => ?_)
  go_simp
  refine (KP.out _).mono ?_
  rintro e w5 ⟨rfl, hb5⟩
  replace hbc := hbc.trans (hb5.mono hbc.size)
  refine hK.out _ _ (⟨G8.out.drew.below hbc hn8, (hbc.cell (p := ⟨b, 0, none⟩) hnb).trans C8.out, (hbc.cell (p := ⟨w3.heap.size, 9, none⟩) hn7).trans C9.out, (hbc.cell (p := ⟨w.heap.size, 1, none⟩) hn8).trans C1.out⟩) (fun hHeld2 => ?_)
  clear hK K hHeld; have hHeld := hHeld2; clear hHeld2
  try simp only [Act.put, List.setIfInBounds_toArray, List.set_cons_zero, List.set_cons_succ]
  refine held_take (i := 21) (v := ?_) rfl (by kernel_rfl) (by kernel_rfl) (by kernel_rfl) (fun _ _ _ h => h) (by rfl) hHeld ?_ ?_
  rotate_left 1
  · (intro w hSw; (try dsimp only at hSw); go_simp; try (with_reducible rfl))
  try simp only [Act.put, List.setIfInBounds_toArray, List.set_cons_zero, List.set_cons_succ]
  refine held_take (i := 22) (v := ?_) rfl (by kernel_rfl) (by kernel_rfl) (by kernel_rfl) (fun _ _ _ h => h) (by rfl) hHeld ?_ ?_
  rotate_left 1
  · (intro w hSw; (try dsimp only at hSw); go_simp; try (with_reducible rfl))
  try simp only [Act.put, List.setIfInBounds_toArray, List.set_cons_zero, List.set_cons_succ]
  refine held_take (i := 23) (v := ?_) rfl (by kernel_rfl) (by kernel_rfl) (by kernel_rfl) (fun _ _ _ h => h) (by rfl) hHeld ?_ ?_
  rotate_left 1
  · (intro w hSw; (try dsimp only at hSw); go_simp; try (with_reducible rfl))
  try simp only [Act.put, List.setIfInBounds_toArray, List.set_cons_zero, List.set_cons_succ]
  refine held_take (i := 24) (v := ?_) rfl (by kernel_rfl) (by kernel_rfl) (by kernel_rfl) (fun _ _ _ h => h) (by rfl) hHeld ?_ ?_
  rotate_left 1
  · (intro w hSw; (try dsimp only at hSw); go_simp; try (with_reducible rfl))
  try simp only [Act.put, List.setIfInBounds_toArray, List.set_cons_zero, List.set_cons_succ]
  refine held_take (i := 25) (v := .agg (gC g8)) rfl (by kernel_rfl) (by kernel_rfl) (by kernel_rfl) (fun _ _ _ h => h) (by rfl) hHeld (exec_load_g _ _ rfl w.heap.size (by rfl) 25 g8 (fun w h => h.1) Tryd.underlying25 (by rw [hl8]; exact infoState)) ?_
  try simp only [Act.put, List.setIfInBounds_toArray, List.set_cons_zero, List.set_cons_succ]
  refine held_take (i := 26) (v := .agg (gC g8)) rfl (by kernel_rfl) (by kernel_rfl) (by kernel_rfl) (fun _ _ _ h => h) (by rfl) hHeld (exec_load_g _ _ rfl w.heap.size (by rfl) 25 g8 (fun w h => h.1) Tryd.underlying25 (by rw [hl8]; exact infoState)) ?_
  try simp only [Act.put, List.setIfInBounds_toArray, List.set_cons_zero, List.set_cons_succ]
  refine held_one (i := 27) rfl (by kernel_rfl) (by rfl) (fun K hK => ?_)
  go_simp
  refine (KP.out _).mono ?_
  rintro e w5 ⟨rfl, hb5⟩
  replace hbc := hbc.trans (hb5.mono hbc.size)
  refine hK.out _ _ (⟨G8.out.drew.below hbc hn8, (hbc.cell (p := ⟨b, 0, none⟩) hnb).trans C8.out, (hbc.cell (p := ⟨w3.heap.size, 9, none⟩) hn7).trans C9.out, (hbc.cell (p := ⟨w.heap.size, 1, none⟩) hn8).trans C1.out⟩) (fun hHeld2 => ?_)
  clear hK K hHeld; have hHeld := hHeld2; clear hHeld2
  try simp only [Act.put, List.setIfInBounds_toArray, List.set_cons_zero, List.set_cons_succ]
  refine held_one (i := 28) rfl (by kernel_rfl) (by rfl) (fun K hK => ?_)
  go_simp
  refine (KW.out _).mono ?_
  rintro e w5 ⟨rfl, hb5⟩
  replace hbc := hbc.trans (hb5.mono hbc.size)
  refine hK.out _ _ (⟨G8.out.drew.below hbc hn8, (hbc.cell (p := ⟨b, 0, none⟩) hnb).trans C8.out, (hbc.cell (p := ⟨w3.heap.size, 9, none⟩) hn7).trans C9.out, (hbc.cell (p := ⟨w.heap.size, 1, none⟩) hn8).trans C1.out⟩) (fun hHeld2 => ?_)
  clear hK K hHeld; have hHeld := hHeld2; clear hHeld2
  try simp only [Act.put, List.setIfInBounds_toArray, List.set_cons_zero, List.set_cons_succ]
  refine held_take (i := 29) (v := ?_) rfl (by kernel_rfl) (by kernel_rfl) (by kernel_rfl) (fun _ _ _ h => h) (by rfl) hHeld ?_ ?_
  rotate_left 1
  · (intro w hSw; (try dsimp only at hSw); go_simp; try (with_reducible rfl))
  try simp only [Act.put, List.setIfInBounds_toArray, List.set_cons_zero, List.set_cons_succ]
  refine held_take (i := 30) (v := ?_) rfl (by kernel_rfl) (by kernel_rfl) (by kernel_rfl) (fun _ _ _ h => h) (by rfl) hHeld ?_ ?_
  rotate_left 1
  · (intro w hSw; (try dsimp only at hSw); go_simp; try (with_reducible rfl))
  try simp only [Act.put, List.setIfInBounds_toArray, List.set_cons_zero, List.set_cons_succ]
  refine held_take (i := 31) (v := ?_) rfl (by kernel_rfl) (by kernel_rfl) (by kernel_rfl) (fun _ _ _ h => h) (by rfl) hHeld ?_ ?_
  rotate_left 1
  · (intro w hSw; (try dsimp only at hSw); go_simp; try (with_reducible rfl))
  try simp only [Act.put, List.setIfInBounds_toArray, List.set_cons_zero, List.set_cons_succ]
  refine held_take (i := 32) (v := ?_) rfl (by kernel_rfl) (by kernel_rfl) (by kernel_rfl) (fun _ _ _ h => h) (by rfl) hHeld ?_ ?_
  rotate_left 1
  · (intro w hSw; (try dsimp only at hSw); go_simp; try (with_reducible rfl))
  try simp only [Act.put, List.setIfInBounds_toArray, List.set_cons_zero, List.set_cons_succ]
  refine held_take (i := 33) (v := ?_) rfl (by kernel_rfl) (by kernel_rfl) (by kernel_rfl) (fun _ _ _ h => h) (by rfl) hHeld ?_ ?_
  rotate_left 1
  · (intro w hSw; (try dsimp only at hSw); go_simp; try (with_reducible rfl))
  try simp only [Act.put, List.setIfInBounds_toArray, List.set_cons_zero, List.set_cons_succ]
  refine held_take (i := 34) (v := ?_) rfl (by kernel_rfl) (by kernel_rfl) (by kernel_rfl) (fun _ _ _ h => h) (by rfl) hHeld ?_ ?_
  rotate_left 1
  · (intro w hSw; (try dsimp only at hSw); go_simp; try (with_reducible rfl))
  try simp only [Act.put, List.setIfInBounds_toArray, List.set_cons_zero, List.set_cons_succ]
  refine held_take (i := 35) (v := ?_) rfl (by kernel_rfl) (by kernel_rfl) (by kernel_rfl) (fun _ _ _ h => h) (by rfl) hHeld ?_ ?_
  rotate_left 1
  · (intro w hSw; (try dsimp only at hSw); go_simp; try (with_reducible rfl))
  try simp only [Act.put, List.setIfInBounds_toArray, List.set_cons_zero, List.set_cons_succ]
  refine held_take (i := 36) (v := ?_) rfl (by kernel_rfl) (by kernel_rfl) (by kernel_rfl) (fun _ _ _ h => h) (by rfl) hHeld ?_ ?_
  rotate_left 1
  · (intro w hSw; (try dsimp only at hSw); go_simp; try (with_reducible rfl))
  try simp only [Act.put, List.setIfInBounds_toArray, List.set_cons_zero, List.set_cons_succ]
  refine held_take (i := 37) (v := ?_) rfl (by kernel_rfl) (by kernel_rfl) (by kernel_rfl) (fun _ _ _ h => h) (by rfl) hHeld ?_ ?_
  rotate_left 1
  · (intro w hSw; (try dsimp only at hSw); go_simp; try (with_reducible rfl))
  try simp only [Act.put, List.setIfInBounds_toArray, List.set_cons_zero, List.set_cons_succ]
  refine wpAnyH_done (by kernel_rfl) ?_ _
  go_wp2
  go_ret
  exact ⟨rfl, B7.out.drew.trans (hbc.mono B7.out.size)⟩
end Go.Proofs.YtbhmageepocmcaaDoor
