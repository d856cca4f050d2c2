/- WALK: StateBytes. -/
import Derived.Test.YtbhmageepocmcaaGg
import Derived.Test.YtbhmageepocmcaaKc
namespace Go.Proofs.Ytbhmageepocmcaa
open Go.RowKit
set_option linter.unusedVariables false
set_option linter.unusedSimpArgs false

theorem short_any (A : Option Addr) (l : List UInt8) (cap k : Nat) (w : World) (hk : k ≤ 1000) (hc : l.length ≤ cap) (hc2 : cap ≤ maxLen) :
    Calls Try.prog 6 #[.slice A l.length cap, .int .i64 k] w fun e w' => e = .returned (.slice A (l.take k).length cap) ∧ w = w' := by
  unfold maxLen at hc2
  rw [List.length_take]
  by_cases h : k < l.length
  · go_enter Try.func6, Try.ntmps6
    go_wp2
    go_ret
    exact ⟨by rw [Nat.min_eq_left (by omega)]; rfl, rfl⟩
  · go_enter Try.func6, Try.ntmps6
    go_wp2
    go_ret
    exact ⟨by rw [Nat.min_eq_right (by omega)]; rfl, rfl⟩
theorem zG_cell {w : World} {b : Nat} {t : TypeId} {n : Nat} (h : GA w b t (zG n)) (k : Nat) (hk : k < n) : w.cell? ⟨b, k, none⟩ = some (.int .i32 0) := by
  have := h.cell k (by rw [zG_length]; exact hk)
  rw [this]; unfold zG; simp

set_option maxHeartbeats 2000000 in
theorem bytes_bad (A : Option Addr) (l : List UInt8) (cap : Nat) (w : World) (hr : RB w w.heap.size A l) (hc : l.length ≤ cap) (hm : cap ≤ maxLen) (hl : (l.take 140).length ≠ 128) :
    Calls Try.prog 3 #[.slice A l.length cap] w fun e w' => e = .returned (.bool true) ∧ Below w.heap.size w w' := by
  have hz := zeroState
  obtain ⟨m, hmm⟩ : ∃ m, m = l.take 140 := ⟨_, rfl⟩
  have HS := Lib.hid (short_any A l cap 140 · (by omega) hc hm)
  have hmc : m.length ≤ cap := by rw [hmm, List.length_take]; omega
  rw [← hmm] at HS hl
  have HR : Hid (RB w w.heap.size A m) := Lib.hid (by rw [hmm]; exact hr.take 140)
  have hne : (((m.length : Int) == 128) : Bool) = false := by rw [beq_eq_false_iff_ne]; omega
  have hne2 : ¬ (m.length : Int) = 128 := by omega
  have HL := Lib.hid hl
  have HM := Lib.hid hm; have HC := Lib.hid hmc
  clear hr hc hm hl hmm hmc
  go_enter Try.func3, Try.ntmps3
  go_wp2_with (first
    | (go_at_call 5; refine (begun_any _).mono ?_; rintro e w1 ⟨rfl, R1⟩)
    | (go_at_call 6; refine (HS.out _).mono ?_; rintro e w' ⟨rfl, rfl⟩)
    | (go_at_call 7; refine (decode_bad A m cap w1 ((HR.out.below R1).more R1.size) HC.out HM.out HL.out).mono ?_; rintro e w3 ⟨rfl, R3⟩
       have B3 := Lib.hid (R1.trans (R3.mono R1.size))
       have G4 : Hid (GA (w3.alloc (.cells (gC (zG 32)) 26)) w3.heap.size 26 (zG 32)) := Lib.hid (GA.new w3 _ _)
       have B4 := Lib.hid (B3.out.alloc B3.out.size (.cells (gC (zG 32)) 26)))
    | (with_reducible refine wpList_store_g rfl 26 (.tmp 4) (.tmp 14) rfl _ (by with_unfolding_all rfl) 26 (zG 32) (zG 32) G4.out (by with_unfolding_all rfl) rfl (by rw [zG_length]; exact infoState) ?_; intro w4 G5 S4 R4
       have B5 := Lib.hid (B4.out.grown R4 B4.out.size (fun k hk => by have := Option.some.inj hk; have := B3.out.size; omega))
       have c0 := zG_cell G5 0 (by omega)
       have c31 := zG_cell G5 31 (by omega)
       clear G5 R4 S4 hz))
  go_ret
  exact ⟨rfl, B5.out⟩

set_option maxHeartbeats 2000000 in
theorem bytes_good (A : Option Addr) (l : List UInt8) (cap : Nat) (w : World) (hr : RB w w.heap.size A l) (hc : l.length ≤ cap) (hm : cap ≤ maxLen) (hl : (l.take 140).length = 128) :
    Calls Try.prog 3 #[.slice A l.length cap] w fun e w' => e = .returned (.bool true) ∧ Below w.heap.size w w' := by
  have hz := zeroState
  obtain ⟨m, hmm⟩ : ∃ m, m = l.take 140 := ⟨_, rfl⟩
  have HS := Lib.hid (short_any A l cap 140 · (by omega) hc hm)
  have hmc : m.length ≤ cap := by rw [hmm, List.length_take]; omega
  rw [← hmm] at HS hl
  have HR : Hid (RB w w.heap.size A m) := Lib.hid (by rw [hmm]; exact hr.take 140)
  rw [hl] at hmc HS
  obtain ⟨b, off, rfl, hbB, _⟩ := HR.out (by omega)
  obtain ⟨g, hg⟩ : ∃ g, g = decG m := ⟨_, rfl⟩
  have hd32 : g.length = 32 := by rw [hg]; exact decG_length m
  have HGe : Hid (encG g = m) := Lib.hid (by rw [hg]; exact encG_decG m hl)
  have HGb : Hid (Bd g) := Lib.hid (by rw [hg]; exact decG_bd m)
  have HL := Lib.hid hl; have HG := Lib.hid hg
  have HM := Lib.hid hm; have HC := Lib.hid hmc
  clear hr hc hm hl hmm hmc hg
  go_enter Try.func3, Try.ntmps3
  go_wp2_with (first
    | (go_at_call 5; refine (begun_any _).mono ?_; rintro e w1 ⟨rfl, R1⟩)
    | (go_at_call 6; refine (HS.out _).mono ?_; rintro e w' ⟨rfl, rfl⟩)
    | (go_at_call 7; refine (decode_good _ m cap w1 ((HR.out.below R1).more R1.size) HC.out HM.out HL.out).mono ?_; rintro e w3 ⟨rfl, R3⟩
       rw [← HG.out]
       have B3 := Lib.hid (R1.trans (R3.mono R1.size))
       have G4 : Hid (GA (w3.alloc (.cells (gC (zG 32)) 26)) w3.heap.size 26 (zG 32)) := Lib.hid (GA.new w3 _ _)
       have B4 := Lib.hid (B3.out.alloc B3.out.size (.cells (gC (zG 32)) 26)))
    | (with_reducible refine wpList_store_g rfl 26 (.tmp 4) (.tmp 14) rfl _ (by with_unfolding_all rfl) 26 (zG 32) g G4.out (by with_unfolding_all rfl) (by rw [hd32, zG_length]) (by rw [hd32]; exact infoState) ?_; intro w4 G5 S4 R4
       have B5 := Lib.hid (B4.out.grown R4 B4.out.size (fun k hk => by have := Option.some.inj hk; have := B3.out.size; omega))
       replace G5 := Lib.hid G5
       clear hz G4 B4 R4))
  have hn5 := G5.out.lt
  have hbc : Below w4.heap.size w4.drew w4.drew := Below.refl _ _
  have HR5 := Lib.hid (HR.out.below B5.out)
  have hb5 : b < w4.heap.size := by have := B5.out.size; omega
  have KE := Lib.hid (fun w => encode_any g w hd32 HGb.out)
  refine wp_region_held_drew (S := (fun w' => GA w' w3.heap.size 26 g ∧ (convert 22 9 (.slice (some ⟨b, off, none⟩) 128 cap)).run Try.prog w' = .ok (.string (str m)) w')) (by kernel_rfl) (⟨G5.out.drew, conv_bytes w4.drew b off cap m _ HR5.out 128 HL.out⟩) (fun hHeld => ?_)
  refine held_take (i := 0) (v := ?_) rfl (by kernel_rfl) (by kernel_rfl) (by kernel_rfl) (fun _ _ _ h => h) (by rfl) hHeld ?_ ?_
  rotate_left 1
  · (intro w hSw; (try dsimp only at hSw); go_simp; try (with_reducible rfl))
  try simp only [Act.put, List.setIfInBounds_toArray, List.set_cons_zero, List.set_cons_succ]
  refine held_take (i := 1) (v := ?_) rfl (by kernel_rfl) (by kernel_rfl) (by kernel_rfl) (fun _ _ _ h => h) (by rfl) hHeld ?_ ?_
  rotate_left 1
  · (intro w hSw; (try dsimp only at hSw); go_simp; try (with_reducible rfl))
  try simp only [Act.put, List.setIfInBounds_toArray, List.set_cons_zero, List.set_cons_succ]
  refine held_take (i := 2) (v := ?_) rfl (by kernel_rfl) (by kernel_rfl) (by kernel_rfl) (fun _ _ _ h => h) (by rfl) hHeld ?_ ?_
  rotate_left 1
  · (intro w hSw; (try dsimp only at hSw); go_simp; try (with_reducible rfl))
  try simp only [Act.put, List.setIfInBounds_toArray, List.set_cons_zero, List.set_cons_succ]
  refine held_take (i := 3) (v := .agg (gC g)) rfl (by kernel_rfl) (by kernel_rfl) (by kernel_rfl) (fun _ _ _ h => h) (by rfl) hHeld (exec_load_g _ _ rfl w3.heap.size (by rfl) 26 g (fun w h => h.1) Try.underlying26 (by rw [hd32]; exact infoState)) ?_
  try simp only [Act.put, List.setIfInBounds_toArray, List.set_cons_zero, List.set_cons_succ]
  refine held_take (i := 6) (v := ?_) rfl (by kernel_rfl) (by kernel_rfl) (by kernel_rfl) (fun _ _ _ h => h) (by rfl) hHeld ?_ ?_
  rotate_left 1
  · (intro w hSw; (try dsimp only at hSw); go_simp; try (with_reducible rfl))
  try simp only [Act.put, List.setIfInBounds_toArray, List.set_cons_zero, List.set_cons_succ]
  refine held_take (i := 7) (v := ?_) rfl (by kernel_rfl) (by kernel_rfl) (by kernel_rfl) (fun _ _ _ h => h) (by rfl) hHeld ?_ ?_
  rotate_left 1
  · (intro w hSw; (try dsimp only at hSw); go_simp; try (with_reducible rfl))
  try simp only [Act.put, List.setIfInBounds_toArray, List.set_cons_zero, List.set_cons_succ]
  refine held_one (i := 4) rfl (by kernel_rfl) (by rfl) (fun K hK => ?_)
  go_simp
  refine (KE.out _).mono ?_
  rintro e w5 ⟨v, rfl, O5, R5⟩
  replace hbc := hbc.trans (R5.mono hbc.size)
  rw [HGe.out] at O5
  obtain ⟨b6, cap6, rfl, k1, k2, k3, k4, k5, k6⟩ := OB.row O5 HL.out (by omega)
  have hcv := conv_bytes w5 b6 0 cap6 m _ k5 128 HL.out
  refine hK.out _ _ (⟨G5.out.drew.below hbc hn5, conv_bytes _ b off cap m _ (HR5.out.below (w := w4.drew) (hbc.mono (B5.out.size))) 128 HL.out⟩) (fun hHeld2 => ?_)
  clear hK K hHeld; have hHeld := hHeld2; clear hHeld2
  try simp only [Act.put, List.setIfInBounds_toArray, List.set_cons_zero, List.set_cons_succ]
  refine held_one (i := 5) rfl (by kernel_rfl) (by rfl) (fun K hK => ?_)
  go_simp
  refine hK.out _ _ (⟨hHeld.1, hHeld.2⟩) (fun hHeld2 => ?_)
  clear hK K hHeld; have hHeld := hHeld2; clear hHeld2
  try simp only [Act.put, List.setIfInBounds_toArray, List.set_cons_zero, List.set_cons_succ]
  refine held_take (i := 8) (v := ?_) rfl (by kernel_rfl) (by kernel_rfl) (by kernel_rfl) (fun _ _ _ h => h) (by rfl) hHeld ?_ ?_
  rotate_left 1
  · (intro w hSw; (try dsimp only at hSw); go_simp; try (with_reducible rfl))
  try simp only [Act.put, List.setIfInBounds_toArray, List.set_cons_zero, List.set_cons_succ]
  refine held_take (i := 9) (v := ?_) rfl (by kernel_rfl) (by kernel_rfl) (by kernel_rfl) (fun _ _ _ h => h) (by rfl) hHeld ?_ ?_
  rotate_left 1
  · (intro w hSw; (try dsimp only at hSw); go_simp; try (with_reducible rfl))
  try simp only [Act.put, List.setIfInBounds_toArray, List.set_cons_zero, List.set_cons_succ]
  refine held_take (i := 10) (v := ?_) rfl (by kernel_rfl) (by kernel_rfl) (by kernel_rfl) (fun _ _ _ h => h) (by rfl) hHeld ?_ ?_
  rotate_left 1
  · (intro w hSw; (try dsimp only at hSw); go_simp; try (with_reducible rfl))
  try simp only [Act.put, List.setIfInBounds_toArray, List.set_cons_zero, List.set_cons_succ]
  refine wpAnyH_done (by kernel_rfl) ?_ _
  go_wp2
  go_ret
  exact ⟨rfl, B5.out.drew.trans (hbc.mono B5.out.size)⟩
theorem bytes_law (A : Option Addr) (l : List UInt8) (cap : Nat) (w : World) (hr : RB w w.heap.size A l) (hc : l.length ≤ cap) (hm : cap ≤ maxLen) :
    Calls Try.prog 3 #[.slice A l.length cap] w fun e w' => e = .returned (.bool true) ∧ Below w.heap.size w w' := by
  by_cases h : (l.take 140).length = 128
  · exact bytes_good A l cap w hr hc hm h
  · exact bytes_bad A l cap w hr hc hm h
end Go.Proofs.Ytbhmageepocmcaa
