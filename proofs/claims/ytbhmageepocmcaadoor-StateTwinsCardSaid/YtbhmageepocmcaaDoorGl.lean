/- WALK: StateTwins. -/
import Derived.Test.YtbhmageepocmcaaDoorGk
import Derived.Test.YtbhmageepocmcaaDoorKc
import Derived.OpenShut
namespace Go.Proofs.YtbhmageepocmcaaDoor
open Go.RowKit
set_option linter.unusedVariables false
set_option linter.unusedSimpArgs false

theorem ofL_bd (l : List Int) (h : ∀ z ∈ l, -2147483648 ≤ z ∧ z ≤ 2147483647) : Bd (ofL l) := fun x hx => by
  unfold ofL at hx
  rcases List.mem_append.1 hx with h1 | h1
  · exact h x (List.mem_of_mem_take h1)
  · rw [(List.mem_replicate.1 h1).2]; omega

set_option maxHeartbeats 8000000 in
theorem twins_same (A : Option Addr) (l : List Int) (cap : Nat) (x v : Int) (k : Nat) (a : Int) (w : World) (hT : TabW w) (hr : RG w w.heap.size A l) (hc : l.length ≤ cap) (hm : cap ≤ maxLen) (hbd : Bd (ofL l)) (v1 : -2147483648 ≤ v) (v2 : v ≤ 2147483647)
    (m : Int) (hm1 : -32 < m) (hm2 : m < 32) (hrm : a.tmod 32 = m) (hk : k < 32) (hrk : (m + 32).tmod 32 = (k : Int)) (hx : (ofL l)[k]? = some x) (hcase : x = v) :
    Calls Tryd.prog 4 #[.slice A l.length cap, .int .i64 a, .int .i32 v] w fun e w' => e = .returned (.bool true) ∧ Below w.heap.size w w' := by
  have hz := zeroState
  obtain ⟨s, hs⟩ : ∃ s, s = ofL l := ⟨_, rfl⟩
  have hs32 : s.length = 32 := by rw [hs]; exact ofL_length l
  have HO := Lib.hid (fun (w1 : World) (hr1 : RG w1 w1.heap.size A l) => hs ▸ of_any A l cap w1 hr1 hc hm)
  have HR := Lib.hid hr; have HT := Lib.hid hT
  have hz32 : (zG 32).length = 32 := zG_length 32
  rw [← hs] at hbd hx
  have hk0 : (0 : Int) ≤ (k : Int) := by omega
  have hk32 : (k : Int) < 32 := by omega
  obtain ⟨hks, hxs⟩ := List.getElem?_eq_some_iff.1 hx
  subst hcase
  have HU : Hid (s.set k x = s) := Lib.hid (by rw [← hxs]; exact List.set_getElem_self hks)
  obtain ⟨L1, hL1⟩ : ∃ L, L = encG s := ⟨_, rfl⟩
  have HA1 : Hid (encG s = L1) := Lib.hid hL1.symm
  have HL1 : Hid (L1.length = 128) := Lib.hid (by rw [hL1, encG_length, hs32])
  have KE := Lib.hid (fun w => encode_any s w hs32 hbd)
  have KS : Hid (∀ w, TabW w → Calls Tryd.prog 10 #[.agg (gC s)] w fun e w' => e = .returned (.int .u32 (tn (sumL L1))) ∧ Below w.heap.size w w') := Lib.hid (fun w h => hL1 ▸ gsum_any s w hs32 hbd h)
  have heq : ∀ w, (Op.equalIn 10000 27 (.agg (gC s)) (.agg (gC s))).run Tryd.prog w = .ok true w := fun w => by
    rw [equalIn_g (P := Tryd.prog) 27 Tryd.underlying27 Tryd.underlying21 infoCell s s hs32 hs32 w, decide_eq_true rfl]
  clear hL1
  have hgd := guardGame
  have HX := Lib.hid hxs
  clear hr hc hm hs hbd hT hx hxs
  go_enter Tryd.func4, Tryd.ntmps4
  go_wp2_with (first
    | (go_at_call 5; refine (begun_any _).mono ?_; rintro e w1 ⟨rfl, R1⟩)
    | (go_at_call 6; refine (HO.out w1 ((HR.out.below R1).more R1.size)).mono ?_; rintro e w2 ⟨rfl, R2⟩
       have B2 := Lib.hid (R1.trans (R2.mono R1.size))
       have hw2 : w.heap.size ≤ w2.heap.size := B2.out.size
       have G3 : Hid (GA (w2.alloc (.cells (gC (zG 32)) 25)) w2.heap.size 25 (zG 32)) := Lib.hid (GA.new w2 _ _)
       have B3 := Lib.hid (B2.out.alloc B2.out.size (.cells (gC (zG 32)) 25)))
    | (with_reducible refine wpList_store_g rfl 25 (.tmp 8) (.tmp 15) rfl _ (by with_unfolding_all rfl) 25 (zG 32) s G3.out (by with_unfolding_all rfl) (by rw [hs32, hz32]) (by rw [hs32]; exact infoState) ?_; intro w3 G4 S4 R4
       have B4 := Lib.hid (B3.out.grown R4 B3.out.size (fun j hj => by have := Option.some.inj hj; omega))
       have hb8 := G4.lt
       replace G4 := Lib.hid G4
       have hw3 : w.heap.size ≤ w3.heap.size := B4.out.size
       have G5 : Hid (GA (w3.alloc (.cells (gC (zG 32)) 25)) w3.heap.size 25 (zG 32)) := Lib.hid (GA.new w3 _ _)
       have G6 := Lib.hid (G4.out.alloc (.cells (gC (zG 32)) 25))
       have B5 := Lib.hid (B4.out.alloc B4.out.size (.cells (gC (zG 32)) 25))
       clear G3 B3 R4 S4)
    | (with_reducible refine wpList_load_g rfl 25 (.tmp 8) rfl _ (by with_unfolding_all rfl) 25 s G4.out Tryd.underlying25 (by rw [hs32]; exact infoState) ?_)
    | (with_reducible refine wpList_store_g rfl 25 (.tmp 9) (.tmp 20) rfl _ (by with_unfolding_all rfl) 25 (zG 32) s G5.out (by with_unfolding_all rfl) (by rw [hs32, hz32]) (by rw [hs32]; exact infoState) ?_; intro w4 G7 S7 R7
       have B7 := Lib.hid (B5.out.grown R7 B5.out.size (fun j hj => by have := Option.some.inj hj; omega))
       have G8 := Lib.hid (G6.out.grown R7 (by simp; omega))
       have hy := G7.cell k hks
       rw [HX.out] at hy
       have hfz := G7.frozen k
       replace G7 := Lib.hid G7
       clear G5 G6 B5 R7 S7 hz))
  obtain ⟨W, hW⟩ : ∃ W, W = w4.setCell ⟨w3.heap.size, k, none⟩ (.int .i32 x) := ⟨_, rfl⟩
  have H9 : Hid (GA W w3.heap.size 25 s) := Lib.hid (by rw [hW, ← HU.out]; exact G7.out.set k x)
  have H8 : Hid (GA W w2.heap.size 25 s) := Lib.hid (by rw [hW]; exact G8.out.other _ _ (by simp; omega))
  have HBW : Hid (Below w.heap.size w W) := Lib.hid (by rw [hW]; exact B7.out.setCell (by simp; omega) _)
  rw [← hW]
  clear hW G7 G8 B7 hy hfz
  have hn8 := H8.out.lt
  have hn9 := H9.out.lt
  have hbc : Below W.heap.size W.drew W.drew := Below.refl _ _
  refine wp_region_held_drew (S := (fun w' => GA w' w2.heap.size 25 s ∧ GA w' w3.heap.size 25 s)) (by kernel_rfl) (⟨H8.out.drew, H9.out.drew⟩) (fun hHeld => ?_)
  refine held_take (i := 0) (v := .agg (gC s)) rfl (by kernel_rfl) (by kernel_rfl) (by kernel_rfl) (fun _ _ _ h => h) (by rfl) hHeld (exec_load_g _ _ rfl w2.heap.size (by rfl) 25 s (fun w h => h.1) Tryd.underlying25 (by rw [hs32]; exact infoState)) ?_
  try simp only [Act.put, List.setIfInBounds_toArray, List.set_cons_zero, List.set_cons_succ]
  refine held_take (i := 3) (v := .agg (gC s)) rfl (by kernel_rfl) (by kernel_rfl) (by kernel_rfl) (fun _ _ _ h => h) (by rfl) hHeld (exec_load_g _ _ rfl w3.heap.size (by rfl) 25 s (fun w h => h.2) Tryd.underlying25 (by rw [hs32]; exact infoState)) ?_
  try simp only [Act.put, List.setIfInBounds_toArray, List.set_cons_zero, List.set_cons_succ]
  refine held_one (i := 1) rfl (by kernel_rfl) (by rfl) (fun K hK => ?_)
  go_simp
  refine (KE.out _).mono ?_
  rintro e w5 ⟨v5, rfl, O5, R5⟩
  replace hbc := hbc.trans (R5.mono hbc.size)
  rw [HA1.out] at O5
  obtain ⟨b5, cap5, rfl, p1, p2, p3, p4, p5, p6⟩ := OB.row O5 HL1.out (by omega)
  have hcv5 := conv_bytes w5 b5 0 cap5 L1 _ p5 128 HL1.out
  clear p6 O5
  refine hK.out _ _ (⟨H8.out.drew.below hbc hn8, H9.out.drew.below hbc hn9⟩) (fun hHeld2 => ?_)
  clear hK K hHeld; have hHeld := hHeld2; clear hHeld2
  try simp only [Act.put, List.setIfInBounds_toArray, List.set_cons_zero, List.set_cons_succ]
  refine held_two (i := 2) (j := 4) rfl rfl (by kernel_rfl) (by rfl) (by rfl) (fun K hK => ?_) (fun K hK => ?_)
  · go_simp
    refine hK.out _ _ (⟨hHeld.1, hHeld.2⟩) (fun hHeld2 => ?_)
    clear hK K hHeld; have hHeld := hHeld2; clear hHeld2
    try simp only [Act.put, List.setIfInBounds_toArray, List.set_cons_zero, List.set_cons_succ]
    refine held_one (i := 4) rfl (by kernel_rfl) (by rfl) (fun K hK => ?_)
    go_simp
    refine (KE.out _).mono ?_
    rintro e w6 ⟨v6, rfl, O6, R6⟩
    replace hbc := hbc.trans (R6.mono hbc.size)
    rw [HA1.out] at O6
    obtain ⟨b6, cap6, rfl, q1, q2, q3, q4, q5, q6⟩ := OB.row O6 HL1.out (by omega)
    have hcv6 := conv_bytes w6 b6 0 cap6 L1 _ q5 128 HL1.out
    have hcv56 := conv_bytes w6 b5 0 cap5 L1 _ (p5.below R6) 128 HL1.out
    clear q6 O6
    refine hK.out _ _ (⟨H8.out.drew.below hbc hn8, H9.out.drew.below hbc hn9⟩) (fun hHeld2 => ?_)
    clear hK K hHeld; have hHeld := hHeld2; clear hHeld2
    try simp only [Act.put, List.setIfInBounds_toArray, List.set_cons_zero, List.set_cons_succ]
    refine held_one (i := 5) rfl (by kernel_rfl) (by rfl) (fun K hK => ?_)
    go_simp
    refine hK.out _ _ (⟨hHeld.1, hHeld.2⟩) (fun hHeld2 => ?_)
    clear hK K hHeld; have hHeld := hHeld2; clear hHeld2
    try simp only [Act.put, List.setIfInBounds_toArray, List.set_cons_zero, List.set_cons_succ]
    refine held_take (i := 6) (v := ?_) rfl (by kernel_rfl) (by kernel_rfl) (by kernel_rfl) (fun _ _ _ h => h) (by rfl) hHeld ?_ ?_
    rotate_left 1
    · (intro w hSw; (try dsimp only at hSw); go_simp; try (with_reducible rfl))
    try simp only [Act.put, List.setIfInBounds_toArray, List.set_cons_zero, List.set_cons_succ]
    refine held_take (i := 7) (v := ?_) rfl (by kernel_rfl) (by kernel_rfl) (by kernel_rfl) (fun _ _ _ h => h) (by rfl) hHeld ?_ ?_
    rotate_left 1
    · (intro w hSw; (try dsimp only at hSw); go_simp; try (with_reducible rfl))
    try simp only [Act.put, List.setIfInBounds_toArray, List.set_cons_zero, List.set_cons_succ]
    refine wpAnyH_done (by kernel_rfl) ?_ _
    have J8 := Lib.hid hHeld.1; have J9 := Lib.hid hHeld.2
    have JC : Hid (w6.cell? ⟨w2.heap.size, k, none⟩ = some (.int .i32 x)) := Lib.hid (by have := J8.out.cell k hks; rw [HX.out] at this; exact this)
    have hm8 := J8.out.lt; have hm9 := J9.out.lt
    have BW6 := Lib.hid (HBW.out.drew.trans (hbc.mono HBW.out.size))
    have hbd : Below w6.heap.size w6.drew w6.drew := Below.refl _ _
    clear hHeld hcv5 hcv6 hcv56 p5 q5
    go_wp2_with fail
    refine wp_region_held_drew (S := (fun w' => GA w' w2.heap.size 25 s ∧ GA w' w3.heap.size 25 s ∧ w'.cell? ⟨w2.heap.size, k, none⟩ = some (.int .i32 x))) (by kernel_rfl) (⟨J8.out.drew, J9.out.drew, JC.out⟩) (fun hHeld => ?_)
    refine held_take (i := 0) (v := ?_) rfl (by kernel_rfl) (by kernel_rfl) (by kernel_rfl) (fun _ _ _ h => h) (by rfl) hHeld ?_ ?_
    rotate_left 1
    · (intro w hSw; (try dsimp only at hSw); go_simp; try (with_reducible rfl))
    try simp only [Act.put, List.setIfInBounds_toArray, List.set_cons_zero, List.set_cons_succ]
    refine held_take (i := 1) (v := ?_) rfl (by kernel_rfl) (by kernel_rfl) (by kernel_rfl) (fun _ _ _ h => h) (by rfl) hHeld ?_ ?_
    rotate_left 1
    · (intro w hSw; (try dsimp only at hSw); go_simp; try (with_reducible rfl))
    try simp only [Act.put, List.setIfInBounds_toArray, List.set_cons_zero, List.set_cons_succ]
    refine held_take (i := 2) (v := ?_) rfl (by kernel_rfl) (by kernel_rfl) (by kernel_rfl) (fun _ _ _ h => h) (by rfl) hHeld ?_ ?_
    rotate_left 1
    · (intro w hSw; (try dsimp only at hSw); go_simp; try (with_reducible rfl))
    try simp only [Act.put, List.setIfInBounds_toArray, List.set_cons_zero, List.set_cons_succ]
    refine held_take (i := 3) (v := ?_) rfl (by kernel_rfl) (by kernel_rfl) (by kernel_rfl) (fun _ _ _ h => h) (by rfl) hHeld ?_ ?_
    rotate_left 1
    · (intro w hSw; (try dsimp only at hSw); go_simp; try (with_reducible rfl))
    try simp only [Act.put, List.setIfInBounds_toArray, List.set_cons_zero, List.set_cons_succ]
    refine held_take (i := 4) (v := ?_) rfl (by kernel_rfl) (by kernel_rfl) (by kernel_rfl) (fun _ _ _ h => h) (by rfl) hHeld ?_ ?_
    rotate_left 1
    · (intro w hSw; (try dsimp only at hSw); go_simp; try (with_reducible rfl))
    try simp only [Act.put, List.setIfInBounds_toArray, List.set_cons_zero, List.set_cons_succ]
    refine held_take (i := 5) (v := ?_) rfl (by kernel_rfl) (by kernel_rfl) (by kernel_rfl) (fun _ _ _ h => h) (by rfl) hHeld ?_ ?_
    rotate_left 1
    · (intro w hSw; (try dsimp only at hSw); go_simp; try (with_reducible rfl))
    try simp only [Act.put, List.setIfInBounds_toArray, List.set_cons_zero, List.set_cons_succ]
    refine held_take (i := 6) (v := ?_) rfl (by kernel_rfl) (by kernel_rfl) (by kernel_rfl) (fun _ _ _ h => h) (by rfl) hHeld ?_ ?_
    rotate_left 1
    · (intro w hSw; (try dsimp only at hSw); go_simp; try (with_reducible rfl))
    try simp only [Act.put, List.setIfInBounds_toArray, List.set_cons_zero, List.set_cons_succ]
    refine held_take (i := 7) (v := ?_) rfl (by kernel_rfl) (by kernel_rfl) (by kernel_rfl) (fun _ _ _ h => h) (by rfl) hHeld ?_ ?_
    rotate_left 1
    · (intro w hSw; (try dsimp only at hSw); go_simp; try (with_reducible rfl))
    try simp only [Act.put, List.setIfInBounds_toArray, List.set_cons_zero, List.set_cons_succ]
    refine held_take (i := 8) (v := ?_) rfl (by kernel_rfl) (by kernel_rfl) (by kernel_rfl) (fun _ _ _ h => h) (by rfl) hHeld ?_ ?_
    rotate_left 1
    · (intro w hSw; (try dsimp only at hSw); go_simp; try (with_reducible rfl))
    try simp only [Act.put, List.setIfInBounds_toArray, List.set_cons_zero, List.set_cons_succ]
    refine held_take (i := 9) (v := .agg (gC s)) rfl (by kernel_rfl) (by kernel_rfl) (by kernel_rfl) (fun _ _ _ h => h) (by rfl) hHeld (exec_load_g _ _ rfl w2.heap.size (by rfl) 25 s (fun w h => h.1) Tryd.underlying25 (by rw [hs32]; exact infoState)) ?_
    try simp only [Act.put, List.setIfInBounds_toArray, List.set_cons_zero, List.set_cons_succ]
    refine held_take (i := 10) (v := .agg (gC s)) rfl (by kernel_rfl) (by kernel_rfl) (by kernel_rfl) (fun _ _ _ h => h) (by rfl) hHeld (exec_load_g _ _ rfl w3.heap.size (by rfl) 25 s (fun w h => h.2.1) Tryd.underlying25 (by rw [hs32]; exact infoState)) ?_
    try simp only [Act.put, List.setIfInBounds_toArray, List.set_cons_zero, List.set_cons_succ]
    refine held_take (i := 11) (v := ?_) rfl (by kernel_rfl) (by kernel_rfl) (by kernel_rfl) (fun _ _ _ h => h) (by rfl) hHeld ?_ ?_
    rotate_left 1
    · (intro w hSw; (try dsimp only at hSw); go_simp; try (with_reducible rfl))
    try simp only [Act.put, List.setIfInBounds_toArray, List.set_cons_zero, List.set_cons_succ]
    refine held_take (i := 12) (v := ?_) rfl (by kernel_rfl) (by kernel_rfl) (by kernel_rfl) (fun _ _ _ h => h) (by rfl) hHeld ?_ ?_
    rotate_left 1
    · (intro w hSw; (try dsimp only at hSw); go_simp; try (with_reducible rfl))
    try simp only [Act.put, List.setIfInBounds_toArray, List.set_cons_zero, List.set_cons_succ]
    refine held_take (i := 13) (v := ?_) rfl (by kernel_rfl) (by kernel_rfl) (by kernel_rfl) (fun _ _ _ h => h) (by rfl) hHeld ?_ ?_
    rotate_left 1
    · (intro w hSw; (try dsimp only at hSw); go_simp; try (with_reducible rfl))
    try simp only [Act.put, List.setIfInBounds_toArray, List.set_cons_zero, List.set_cons_succ]
    refine held_take (i := 14) (v := ?_) rfl (by kernel_rfl) (by kernel_rfl) (by kernel_rfl) (fun _ _ _ h => h) (by rfl) hHeld ?_ ?_
    rotate_left 1
    · (intro w hSw; (try dsimp only at hSw); go_simp; try (with_reducible rfl))
    try simp only [Act.put, List.setIfInBounds_toArray, List.set_cons_zero, List.set_cons_succ]
    refine held_take (i := 15) (v := ?_) rfl (by kernel_rfl) (by kernel_rfl) (by kernel_rfl) (fun _ _ _ h => h) (by rfl) hHeld ?_ ?_
    rotate_left 1
    · (intro w hSw; (try dsimp only at hSw); go_simp; try (with_reducible rfl))
    try simp only [Act.put, List.setIfInBounds_toArray, List.set_cons_zero, List.set_cons_succ]
    refine held_take (i := 16) (v := ?_) rfl (by kernel_rfl) (by kernel_rfl) (by kernel_rfl) (fun _ _ _ h => h) (by rfl) hHeld ?_ ?_
    rotate_left 1
    · (intro w hSw; (try dsimp only at hSw); go_simp; try (with_reducible rfl))
    try simp only [Act.put, List.setIfInBounds_toArray, List.set_cons_zero, List.set_cons_succ]
    refine held_take (i := 17) (v := ?_) rfl (by kernel_rfl) (by kernel_rfl) (by kernel_rfl) (fun _ _ _ h => h) (by rfl) hHeld ?_ ?_
    rotate_left 1
    · (intro w hSw; (try dsimp only at hSw); go_simp; try (with_reducible rfl))
    try simp only [Act.put, List.setIfInBounds_toArray, List.set_cons_zero, List.set_cons_succ]
    refine held_take (i := 18) (v := .agg (gC s)) rfl (by kernel_rfl) (by kernel_rfl) (by kernel_rfl) (fun _ _ _ h => h) (by rfl) hHeld (exec_load_g _ _ rfl w2.heap.size (by rfl) 25 s (fun w h => h.1) Tryd.underlying25 (by rw [hs32]; exact infoState)) ?_
    try simp only [Act.put, List.setIfInBounds_toArray, List.set_cons_zero, List.set_cons_succ]
    refine held_take (i := 20) (v := .agg (gC s)) rfl (by kernel_rfl) (by kernel_rfl) (by kernel_rfl) (fun _ _ _ h => h) (by rfl) hHeld (exec_load_g _ _ rfl w3.heap.size (by rfl) 25 s (fun w h => h.2.1) Tryd.underlying25 (by rw [hs32]; exact infoState)) ?_
    try simp only [Act.put, List.setIfInBounds_toArray, List.set_cons_zero, List.set_cons_succ]
    refine held_one (i := 19) rfl (by kernel_rfl) (by rfl) (fun K hK => ?_)
    go_simp
    refine (KS.out _ (HT.out.below (BW6.out.drew.trans (hbd.mono BW6.out.size)) HT.out.lt)).mono ?_
    rintro e w7 ⟨rfl, R7⟩
    replace hbd := hbd.trans (R7.mono hbd.size)
    refine hK.out _ _ (⟨J8.out.drew.below hbd hm8, J9.out.drew.below hbd hm9, (hbd.cell (p := ⟨w2.heap.size, k, none⟩) hm8).trans JC.out⟩) (fun hHeld2 => ?_)
    clear hK K hHeld; have hHeld := hHeld2; clear hHeld2
    try simp only [Act.put, List.setIfInBounds_toArray, List.set_cons_zero, List.set_cons_succ]
    refine held_one (i := 21) rfl (by kernel_rfl) (by rfl) (fun K hK => ?_)
    go_simp
    refine (KS.out _ (HT.out.below (BW6.out.drew.trans (hbd.mono BW6.out.size)) HT.out.lt)).mono ?_
    rintro e w7 ⟨rfl, R7⟩
    replace hbd := hbd.trans (R7.mono hbd.size)
    refine hK.out _ _ (⟨J8.out.drew.below hbd hm8, J9.out.drew.below hbd hm9, (hbd.cell (p := ⟨w2.heap.size, k, none⟩) hm8).trans JC.out⟩) (fun hHeld2 => ?_)
    clear hK K hHeld; have hHeld := hHeld2; clear hHeld2
    try simp only [Act.put, List.setIfInBounds_toArray, List.set_cons_zero, List.set_cons_succ]
    refine held_take (i := 22) (v := ?_) rfl (by kernel_rfl) (by kernel_rfl) (by kernel_rfl) (fun _ _ _ h => h) (by rfl) hHeld ?_ ?_
    rotate_left 1
    · (intro w hSw; (try dsimp only at hSw); go_simp; try (with_reducible rfl))
    try simp only [Act.put, List.setIfInBounds_toArray, List.set_cons_zero, List.set_cons_succ]
    refine held_take (i := 23) (v := ?_) rfl (by kernel_rfl) (by kernel_rfl) (by kernel_rfl) (fun _ _ _ h => h) (by rfl) hHeld ?_ ?_
    rotate_left 1
    · (intro w hSw; (try dsimp only at hSw); go_simp; try (with_reducible rfl))
    try simp only [Act.put, List.setIfInBounds_toArray, List.set_cons_zero, List.set_cons_succ]
    refine held_take (i := 24) (v := ?_) rfl (by kernel_rfl) (by kernel_rfl) (by kernel_rfl) (fun _ _ _ h => h) (by rfl) hHeld ?_ ?_
    rotate_left 1
    · (intro w hSw; (try dsimp only at hSw); go_simp; try (with_reducible rfl))
    try simp only [Act.put, List.setIfInBounds_toArray, List.set_cons_zero, List.set_cons_succ]
    refine held_take (i := 25) (v := ?_) rfl (by kernel_rfl) (by kernel_rfl) (by kernel_rfl) (fun _ _ _ h => h) (by rfl) hHeld ?_ ?_
    rotate_left 1
    · (intro w hSw; (try dsimp only at hSw); go_simp; try (with_reducible rfl))
    try simp only [Act.put, List.setIfInBounds_toArray, List.set_cons_zero, List.set_cons_succ]
    refine wpAnyH_done (by kernel_rfl) ?_ _
    go_wp2
    go_ret
    exact ⟨rfl, BW6.out.drew.trans (hbd.mono BW6.out.size)⟩
  · go_simp
    refine (KE.out _).mono ?_
    rintro e w6 ⟨v6, rfl, O6, R6⟩
    replace hbc := hbc.trans (R6.mono hbc.size)
    rw [HA1.out] at O6
    obtain ⟨b6, cap6, rfl, q1, q2, q3, q4, q5, q6⟩ := OB.row O6 HL1.out (by omega)
    have hcv6 := conv_bytes w6 b6 0 cap6 L1 _ q5 128 HL1.out
    have hcv56 := conv_bytes w6 b5 0 cap5 L1 _ (p5.below R6) 128 HL1.out
    clear q6 O6
    refine hK.out _ _ (⟨H8.out.drew.below hbc hn8, H9.out.drew.below hbc hn9⟩) (fun hHeld2 => ?_)
    clear hK K hHeld; have hHeld := hHeld2; clear hHeld2
    try simp only [Act.put, List.setIfInBounds_toArray, List.set_cons_zero, List.set_cons_succ]
    refine held_two (i := 2) (j := 5) rfl rfl (by kernel_rfl) (by rfl) (by rfl) (fun K hK => ?_) (fun K hK => ?_)
    · go_simp
      refine hK.out _ _ (⟨hHeld.1, hHeld.2⟩) (fun hHeld2 => ?_)
      clear hK K hHeld; have hHeld := hHeld2; clear hHeld2
      try simp only [Act.put, List.setIfInBounds_toArray, List.set_cons_zero, List.set_cons_succ]
      refine held_one (i := 5) rfl (by kernel_rfl) (by rfl) (fun K hK => ?_)
      go_simp
      refine hK.out _ _ (⟨hHeld.1, hHeld.2⟩) (fun hHeld2 => ?_)
      clear hK K hHeld; have hHeld := hHeld2; clear hHeld2
      try simp only [Act.put, List.setIfInBounds_toArray, List.set_cons_zero, List.set_cons_succ]
      refine held_take (i := 6) (v := ?_) rfl (by kernel_rfl) (by kernel_rfl) (by kernel_rfl) (fun _ _ _ h => h) (by rfl) hHeld ?_ ?_
      rotate_left 1
      · (intro w hSw; (try dsimp only at hSw); go_simp; try (with_reducible rfl))
      try simp only [Act.put, List.setIfInBounds_toArray, List.set_cons_zero, List.set_cons_succ]
      refine held_take (i := 7) (v := ?_) rfl (by kernel_rfl) (by kernel_rfl) (by kernel_rfl) (fun _ _ _ h => h) (by rfl) hHeld ?_ ?_
      rotate_left 1
      · (intro w hSw; (try dsimp only at hSw); go_simp; try (with_reducible rfl))
      try simp only [Act.put, List.setIfInBounds_toArray, List.set_cons_zero, List.set_cons_succ]
      refine wpAnyH_done (by kernel_rfl) ?_ _
      have J8 := Lib.hid hHeld.1; have J9 := Lib.hid hHeld.2
      have JC : Hid (w6.cell? ⟨w2.heap.size, k, none⟩ = some (.int .i32 x)) := Lib.hid (by have := J8.out.cell k hks; rw [HX.out] at this; exact this)
      have hm8 := J8.out.lt; have hm9 := J9.out.lt
      have BW6 := Lib.hid (HBW.out.drew.trans (hbc.mono HBW.out.size))
      have hbd : Below w6.heap.size w6.drew w6.drew := Below.refl _ _
      clear hHeld hcv5 hcv6 hcv56 p5 q5
      go_wp2_with fail
      refine wp_region_held_drew (S := (fun w' => GA w' w2.heap.size 25 s ∧ GA w' w3.heap.size 25 s ∧ w'.cell? ⟨w2.heap.size, k, none⟩ = some (.int .i32 x))) (by kernel_rfl) (⟨J8.out.drew, J9.out.drew, JC.out⟩) (fun hHeld => ?_)
      refine held_take (i := 0) (v := ?_) rfl (by kernel_rfl) (by kernel_rfl) (by kernel_rfl) (fun _ _ _ h => h) (by rfl) hHeld ?_ ?_
      rotate_left 1
      · (intro w hSw; (try dsimp only at hSw); go_simp; try (with_reducible rfl))
      try simp only [Act.put, List.setIfInBounds_toArray, List.set_cons_zero, List.set_cons_succ]
      refine held_take (i := 1) (v := ?_) rfl (by kernel_rfl) (by kernel_rfl) (by kernel_rfl) (fun _ _ _ h => h) (by rfl) hHeld ?_ ?_
      rotate_left 1
      · (intro w hSw; (try dsimp only at hSw); go_simp; try (with_reducible rfl))
      try simp only [Act.put, List.setIfInBounds_toArray, List.set_cons_zero, List.set_cons_succ]
      refine held_take (i := 2) (v := ?_) rfl (by kernel_rfl) (by kernel_rfl) (by kernel_rfl) (fun _ _ _ h => h) (by rfl) hHeld ?_ ?_
      rotate_left 1
      · (intro w hSw; (try dsimp only at hSw); go_simp; try (with_reducible rfl))
      try simp only [Act.put, List.setIfInBounds_toArray, List.set_cons_zero, List.set_cons_succ]
      refine held_take (i := 3) (v := ?_) rfl (by kernel_rfl) (by kernel_rfl) (by kernel_rfl) (fun _ _ _ h => h) (by rfl) hHeld ?_ ?_
      rotate_left 1
      · (intro w hSw; (try dsimp only at hSw); go_simp; try (with_reducible rfl))
      try simp only [Act.put, List.setIfInBounds_toArray, List.set_cons_zero, List.set_cons_succ]
      refine held_take (i := 4) (v := ?_) rfl (by kernel_rfl) (by kernel_rfl) (by kernel_rfl) (fun _ _ _ h => h) (by rfl) hHeld ?_ ?_
      rotate_left 1
      · (intro w hSw; (try dsimp only at hSw); go_simp; try (with_reducible rfl))
      try simp only [Act.put, List.setIfInBounds_toArray, List.set_cons_zero, List.set_cons_succ]
      refine held_take (i := 5) (v := ?_) rfl (by kernel_rfl) (by kernel_rfl) (by kernel_rfl) (fun _ _ _ h => h) (by rfl) hHeld ?_ ?_
      rotate_left 1
      · (intro w hSw; (try dsimp only at hSw); go_simp; try (with_reducible rfl))
      try simp only [Act.put, List.setIfInBounds_toArray, List.set_cons_zero, List.set_cons_succ]
      refine held_take (i := 6) (v := ?_) rfl (by kernel_rfl) (by kernel_rfl) (by kernel_rfl) (fun _ _ _ h => h) (by rfl) hHeld ?_ ?_
      rotate_left 1
      · (intro w hSw; (try dsimp only at hSw); go_simp; try (with_reducible rfl))
      try simp only [Act.put, List.setIfInBounds_toArray, List.set_cons_zero, List.set_cons_succ]
      refine held_take (i := 7) (v := ?_) rfl (by kernel_rfl) (by kernel_rfl) (by kernel_rfl) (fun _ _ _ h => h) (by rfl) hHeld ?_ ?_
      rotate_left 1
      · (intro w hSw; (try dsimp only at hSw); go_simp; try (with_reducible rfl))
      try simp only [Act.put, List.setIfInBounds_toArray, List.set_cons_zero, List.set_cons_succ]
      refine held_take (i := 8) (v := ?_) rfl (by kernel_rfl) (by kernel_rfl) (by kernel_rfl) (fun _ _ _ h => h) (by rfl) hHeld ?_ ?_
      rotate_left 1
      · (intro w hSw; (try dsimp only at hSw); go_simp; try (with_reducible rfl))
      try simp only [Act.put, List.setIfInBounds_toArray, List.set_cons_zero, List.set_cons_succ]
      refine held_take (i := 9) (v := .agg (gC s)) rfl (by kernel_rfl) (by kernel_rfl) (by kernel_rfl) (fun _ _ _ h => h) (by rfl) hHeld (exec_load_g _ _ rfl w2.heap.size (by rfl) 25 s (fun w h => h.1) Tryd.underlying25 (by rw [hs32]; exact infoState)) ?_
      try simp only [Act.put, List.setIfInBounds_toArray, List.set_cons_zero, List.set_cons_succ]
      refine held_take (i := 10) (v := .agg (gC s)) rfl (by kernel_rfl) (by kernel_rfl) (by kernel_rfl) (fun _ _ _ h => h) (by rfl) hHeld (exec_load_g _ _ rfl w3.heap.size (by rfl) 25 s (fun w h => h.2.1) Tryd.underlying25 (by rw [hs32]; exact infoState)) ?_
      try simp only [Act.put, List.setIfInBounds_toArray, List.set_cons_zero, List.set_cons_succ]
      refine held_take (i := 11) (v := ?_) rfl (by kernel_rfl) (by kernel_rfl) (by kernel_rfl) (fun _ _ _ h => h) (by rfl) hHeld ?_ ?_
      rotate_left 1
      · (intro w hSw; (try dsimp only at hSw); go_simp; try (with_reducible rfl))
      try simp only [Act.put, List.setIfInBounds_toArray, List.set_cons_zero, List.set_cons_succ]
      refine held_take (i := 12) (v := ?_) rfl (by kernel_rfl) (by kernel_rfl) (by kernel_rfl) (fun _ _ _ h => h) (by rfl) hHeld ?_ ?_
      rotate_left 1
      · (intro w hSw; (try dsimp only at hSw); go_simp; try (with_reducible rfl))
      try simp only [Act.put, List.setIfInBounds_toArray, List.set_cons_zero, List.set_cons_succ]
      refine held_take (i := 13) (v := ?_) rfl (by kernel_rfl) (by kernel_rfl) (by kernel_rfl) (fun _ _ _ h => h) (by rfl) hHeld ?_ ?_
      rotate_left 1
      · (intro w hSw; (try dsimp only at hSw); go_simp; try (with_reducible rfl))
      try simp only [Act.put, List.setIfInBounds_toArray, List.set_cons_zero, List.set_cons_succ]
      refine held_take (i := 14) (v := ?_) rfl (by kernel_rfl) (by kernel_rfl) (by kernel_rfl) (fun _ _ _ h => h) (by rfl) hHeld ?_ ?_
      rotate_left 1
      · (intro w hSw; (try dsimp only at hSw); go_simp; try (with_reducible rfl))
      try simp only [Act.put, List.setIfInBounds_toArray, List.set_cons_zero, List.set_cons_succ]
      refine held_take (i := 15) (v := ?_) rfl (by kernel_rfl) (by kernel_rfl) (by kernel_rfl) (fun _ _ _ h => h) (by rfl) hHeld ?_ ?_
      rotate_left 1
      · (intro w hSw; (try dsimp only at hSw); go_simp; try (with_reducible rfl))
      try simp only [Act.put, List.setIfInBounds_toArray, List.set_cons_zero, List.set_cons_succ]
      refine held_take (i := 16) (v := ?_) rfl (by kernel_rfl) (by kernel_rfl) (by kernel_rfl) (fun _ _ _ h => h) (by rfl) hHeld ?_ ?_
      rotate_left 1
      · (intro w hSw; (try dsimp only at hSw); go_simp; try (with_reducible rfl))
      try simp only [Act.put, List.setIfInBounds_toArray, List.set_cons_zero, List.set_cons_succ]
      refine held_take (i := 17) (v := ?_) rfl (by kernel_rfl) (by kernel_rfl) (by kernel_rfl) (fun _ _ _ h => h) (by rfl) hHeld ?_ ?_
      rotate_left 1
      · (intro w hSw; (try dsimp only at hSw); go_simp; try (with_reducible rfl))
      try simp only [Act.put, List.setIfInBounds_toArray, List.set_cons_zero, List.set_cons_succ]
      refine held_take (i := 18) (v := .agg (gC s)) rfl (by kernel_rfl) (by kernel_rfl) (by kernel_rfl) (fun _ _ _ h => h) (by rfl) hHeld (exec_load_g _ _ rfl w2.heap.size (by rfl) 25 s (fun w h => h.1) Tryd.underlying25 (by rw [hs32]; exact infoState)) ?_
      try simp only [Act.put, List.setIfInBounds_toArray, List.set_cons_zero, List.set_cons_succ]
      refine held_take (i := 20) (v := .agg (gC s)) rfl (by kernel_rfl) (by kernel_rfl) (by kernel_rfl) (fun _ _ _ h => h) (by rfl) hHeld (exec_load_g _ _ rfl w3.heap.size (by rfl) 25 s (fun w h => h.2.1) Tryd.underlying25 (by rw [hs32]; exact infoState)) ?_
      try simp only [Act.put, List.setIfInBounds_toArray, List.set_cons_zero, List.set_cons_succ]
      refine held_one (i := 19) rfl (by kernel_rfl) (by rfl) (fun K hK => ?_)
      go_simp
      refine (KS.out _ (HT.out.below (BW6.out.drew.trans (hbd.mono BW6.out.size)) HT.out.lt)).mono ?_
      rintro e w7 ⟨rfl, R7⟩
      replace hbd := hbd.trans (R7.mono hbd.size)
      refine hK.out _ _ (⟨J8.out.drew.below hbd hm8, J9.out.drew.below hbd hm9, (hbd.cell (p := ⟨w2.heap.size, k, none⟩) hm8).trans JC.out⟩) (fun hHeld2 => ?_)
      clear hK K hHeld; have hHeld := hHeld2; clear hHeld2
      try simp only [Act.put, List.setIfInBounds_toArray, List.set_cons_zero, List.set_cons_succ]
      refine held_one (i := 21) rfl (by kernel_rfl) (by rfl) (fun K hK => ?_)
      go_simp
      refine (KS.out _ (HT.out.below (BW6.out.drew.trans (hbd.mono BW6.out.size)) HT.out.lt)).mono ?_
      rintro e w7 ⟨rfl, R7⟩
      replace hbd := hbd.trans (R7.mono hbd.size)
      refine hK.out _ _ (⟨J8.out.drew.below hbd hm8, J9.out.drew.below hbd hm9, (hbd.cell (p := ⟨w2.heap.size, k, none⟩) hm8).trans JC.out⟩) (fun hHeld2 => ?_)
      clear hK K hHeld; have hHeld := hHeld2; clear hHeld2
      try simp only [Act.put, List.setIfInBounds_toArray, List.set_cons_zero, List.set_cons_succ]
      refine held_take (i := 22) (v := ?_) rfl (by kernel_rfl) (by kernel_rfl) (by kernel_rfl) (fun _ _ _ h => h) (by rfl) hHeld ?_ ?_
      rotate_left 1
      · (intro w hSw; (try dsimp only at hSw); go_simp; try (with_reducible rfl))
      try simp only [Act.put, List.setIfInBounds_toArray, List.set_cons_zero, List.set_cons_succ]
      refine held_take (i := 23) (v := ?_) rfl (by kernel_rfl) (by kernel_rfl) (by kernel_rfl) (fun _ _ _ h => h) (by rfl) hHeld ?_ ?_
      rotate_left 1
      · (intro w hSw; (try dsimp only at hSw); go_simp; try (with_reducible rfl))
      try simp only [Act.put, List.setIfInBounds_toArray, List.set_cons_zero, List.set_cons_succ]
      refine held_take (i := 24) (v := ?_) rfl (by kernel_rfl) (by kernel_rfl) (by kernel_rfl) (fun _ _ _ h => h) (by rfl) hHeld ?_ ?_
      rotate_left 1
      · (intro w hSw; (try dsimp only at hSw); go_simp; try (with_reducible rfl))
      try simp only [Act.put, List.setIfInBounds_toArray, List.set_cons_zero, List.set_cons_succ]
      refine held_take (i := 25) (v := ?_) rfl (by kernel_rfl) (by kernel_rfl) (by kernel_rfl) (fun _ _ _ h => h) (by rfl) hHeld ?_ ?_
      rotate_left 1
      · (intro w hSw; (try dsimp only at hSw); go_simp; try (with_reducible rfl))
      try simp only [Act.put, List.setIfInBounds_toArray, List.set_cons_zero, List.set_cons_succ]
      refine wpAnyH_done (by kernel_rfl) ?_ _
      go_wp2
      go_ret
      exact ⟨rfl, BW6.out.drew.trans (hbd.mono BW6.out.size)⟩
    · go_simp
      refine hK.out _ _ (⟨hHeld.1, hHeld.2⟩) (fun hHeld2 => ?_)
      clear hK K hHeld; have hHeld := hHeld2; clear hHeld2
      try simp only [Act.put, List.setIfInBounds_toArray, List.set_cons_zero, List.set_cons_succ]
      refine held_one (i := 2) rfl (by kernel_rfl) (by rfl) (fun K hK => ?_)
      go_simp
      refine hK.out _ _ (⟨hHeld.1, hHeld.2⟩) (fun hHeld2 => ?_)
      clear hK K hHeld; have hHeld := hHeld2; clear hHeld2
      try simp only [Act.put, List.setIfInBounds_toArray, List.set_cons_zero, List.set_cons_succ]
      refine held_take (i := 6) (v := ?_) rfl (by kernel_rfl) (by kernel_rfl) (by kernel_rfl) (fun _ _ _ h => h) (by rfl) hHeld ?_ ?_
      rotate_left 1
      · (intro w hSw; (try dsimp only at hSw); go_simp; try (with_reducible rfl))
      try simp only [Act.put, List.setIfInBounds_toArray, List.set_cons_zero, List.set_cons_succ]
      refine held_take (i := 7) (v := ?_) rfl (by kernel_rfl) (by kernel_rfl) (by kernel_rfl) (fun _ _ _ h => h) (by rfl) hHeld ?_ ?_
      rotate_left 1
      · (intro w hSw; (try dsimp only at hSw); go_simp; try (with_reducible rfl))
      try simp only [Act.put, List.setIfInBounds_toArray, List.set_cons_zero, List.set_cons_succ]
      refine wpAnyH_done (by kernel_rfl) ?_ _
      have J8 := Lib.hid hHeld.1; have J9 := Lib.hid hHeld.2
      have JC : Hid (w6.cell? ⟨w2.heap.size, k, none⟩ = some (.int .i32 x)) := Lib.hid (by have := J8.out.cell k hks; rw [HX.out] at this; exact this)
      have hm8 := J8.out.lt; have hm9 := J9.out.lt
      have BW6 := Lib.hid (HBW.out.drew.trans (hbc.mono HBW.out.size))
      have hbd : Below w6.heap.size w6.drew w6.drew := Below.refl _ _
      clear hHeld hcv5 hcv6 hcv56 p5 q5
      go_wp2_with fail
      refine wp_region_held_drew (S := (fun w' => GA w' w2.heap.size 25 s ∧ GA w' w3.heap.size 25 s ∧ w'.cell? ⟨w2.heap.size, k, none⟩ = some (.int .i32 x))) (by kernel_rfl) (⟨J8.out.drew, J9.out.drew, JC.out⟩) (fun hHeld => ?_)
      refine held_take (i := 0) (v := ?_) rfl (by kernel_rfl) (by kernel_rfl) (by kernel_rfl) (fun _ _ _ h => h) (by rfl) hHeld ?_ ?_
      rotate_left 1
      · (intro w hSw; (try dsimp only at hSw); go_simp; try (with_reducible rfl))
      try simp only [Act.put, List.setIfInBounds_toArray, List.set_cons_zero, List.set_cons_succ]
      refine held_take (i := 1) (v := ?_) rfl (by kernel_rfl) (by kernel_rfl) (by kernel_rfl) (fun _ _ _ h => h) (by rfl) hHeld ?_ ?_
      rotate_left 1
      · (intro w hSw; (try dsimp only at hSw); go_simp; try (with_reducible rfl))
      try simp only [Act.put, List.setIfInBounds_toArray, List.set_cons_zero, List.set_cons_succ]
      refine held_take (i := 2) (v := ?_) rfl (by kernel_rfl) (by kernel_rfl) (by kernel_rfl) (fun _ _ _ h => h) (by rfl) hHeld ?_ ?_
      rotate_left 1
      · (intro w hSw; (try dsimp only at hSw); go_simp; try (with_reducible rfl))
      try simp only [Act.put, List.setIfInBounds_toArray, List.set_cons_zero, List.set_cons_succ]
      refine held_take (i := 3) (v := ?_) rfl (by kernel_rfl) (by kernel_rfl) (by kernel_rfl) (fun _ _ _ h => h) (by rfl) hHeld ?_ ?_
      rotate_left 1
      · (intro w hSw; (try dsimp only at hSw); go_simp; try (with_reducible rfl))
      try simp only [Act.put, List.setIfInBounds_toArray, List.set_cons_zero, List.set_cons_succ]
      refine held_take (i := 4) (v := ?_) rfl (by kernel_rfl) (by kernel_rfl) (by kernel_rfl) (fun _ _ _ h => h) (by rfl) hHeld ?_ ?_
      rotate_left 1
      · (intro w hSw; (try dsimp only at hSw); go_simp; try (with_reducible rfl))
      try simp only [Act.put, List.setIfInBounds_toArray, List.set_cons_zero, List.set_cons_succ]
      refine held_take (i := 5) (v := ?_) rfl (by kernel_rfl) (by kernel_rfl) (by kernel_rfl) (fun _ _ _ h => h) (by rfl) hHeld ?_ ?_
      rotate_left 1
      · (intro w hSw; (try dsimp only at hSw); go_simp; try (with_reducible rfl))
      try simp only [Act.put, List.setIfInBounds_toArray, List.set_cons_zero, List.set_cons_succ]
      refine held_take (i := 6) (v := ?_) rfl (by kernel_rfl) (by kernel_rfl) (by kernel_rfl) (fun _ _ _ h => h) (by rfl) hHeld ?_ ?_
      rotate_left 1
      · (intro w hSw; (try dsimp only at hSw); go_simp; try (with_reducible rfl))
      try simp only [Act.put, List.setIfInBounds_toArray, List.set_cons_zero, List.set_cons_succ]
      refine held_take (i := 7) (v := ?_) rfl (by kernel_rfl) (by kernel_rfl) (by kernel_rfl) (fun _ _ _ h => h) (by rfl) hHeld ?_ ?_
      rotate_left 1
      · (intro w hSw; (try dsimp only at hSw); go_simp; try (with_reducible rfl))
      try simp only [Act.put, List.setIfInBounds_toArray, List.set_cons_zero, List.set_cons_succ]
      refine held_take (i := 8) (v := ?_) rfl (by kernel_rfl) (by kernel_rfl) (by kernel_rfl) (fun _ _ _ h => h) (by rfl) hHeld ?_ ?_
      rotate_left 1
      · (intro w hSw; (try dsimp only at hSw); go_simp; try (with_reducible rfl))
      try simp only [Act.put, List.setIfInBounds_toArray, List.set_cons_zero, List.set_cons_succ]
      refine held_take (i := 9) (v := .agg (gC s)) rfl (by kernel_rfl) (by kernel_rfl) (by kernel_rfl) (fun _ _ _ h => h) (by rfl) hHeld (exec_load_g _ _ rfl w2.heap.size (by rfl) 25 s (fun w h => h.1) Tryd.underlying25 (by rw [hs32]; exact infoState)) ?_
      try simp only [Act.put, List.setIfInBounds_toArray, List.set_cons_zero, List.set_cons_succ]
      refine held_take (i := 10) (v := .agg (gC s)) rfl (by kernel_rfl) (by kernel_rfl) (by kernel_rfl) (fun _ _ _ h => h) (by rfl) hHeld (exec_load_g _ _ rfl w3.heap.size (by rfl) 25 s (fun w h => h.2.1) Tryd.underlying25 (by rw [hs32]; exact infoState)) ?_
      try simp only [Act.put, List.setIfInBounds_toArray, List.set_cons_zero, List.set_cons_succ]
      refine held_take (i := 11) (v := ?_) rfl (by kernel_rfl) (by kernel_rfl) (by kernel_rfl) (fun _ _ _ h => h) (by rfl) hHeld ?_ ?_
      rotate_left 1
      · (intro w hSw; (try dsimp only at hSw); go_simp; try (with_reducible rfl))
      try simp only [Act.put, List.setIfInBounds_toArray, List.set_cons_zero, List.set_cons_succ]
      refine held_take (i := 12) (v := ?_) rfl (by kernel_rfl) (by kernel_rfl) (by kernel_rfl) (fun _ _ _ h => h) (by rfl) hHeld ?_ ?_
      rotate_left 1
      · (intro w hSw; (try dsimp only at hSw); go_simp; try (with_reducible rfl))
      try simp only [Act.put, List.setIfInBounds_toArray, List.set_cons_zero, List.set_cons_succ]
      refine held_take (i := 13) (v := ?_) rfl (by kernel_rfl) (by kernel_rfl) (by kernel_rfl) (fun _ _ _ h => h) (by rfl) hHeld ?_ ?_
      rotate_left 1
      · (intro w hSw; (try dsimp only at hSw); go_simp; try (with_reducible rfl))
      try simp only [Act.put, List.setIfInBounds_toArray, List.set_cons_zero, List.set_cons_succ]
      refine held_take (i := 14) (v := ?_) rfl (by kernel_rfl) (by kernel_rfl) (by kernel_rfl) (fun _ _ _ h => h) (by rfl) hHeld ?_ ?_
      rotate_left 1
      · (intro w hSw; (try dsimp only at hSw); go_simp; try (with_reducible rfl))
      try simp only [Act.put, List.setIfInBounds_toArray, List.set_cons_zero, List.set_cons_succ]
      refine held_take (i := 15) (v := ?_) rfl (by kernel_rfl) (by kernel_rfl) (by kernel_rfl) (fun _ _ _ h => h) (by rfl) hHeld ?_ ?_
      rotate_left 1
      · (intro w hSw; (try dsimp only at hSw); go_simp; try (with_reducible rfl))
      try simp only [Act.put, List.setIfInBounds_toArray, List.set_cons_zero, List.set_cons_succ]
      refine held_take (i := 16) (v := ?_) rfl (by kernel_rfl) (by kernel_rfl) (by kernel_rfl) (fun _ _ _ h => h) (by rfl) hHeld ?_ ?_
      rotate_left 1
      · (intro w hSw; (try dsimp only at hSw); go_simp; try (with_reducible rfl))
      try simp only [Act.put, List.setIfInBounds_toArray, List.set_cons_zero, List.set_cons_succ]
      refine held_take (i := 17) (v := ?_) rfl (by kernel_rfl) (by kernel_rfl) (by kernel_rfl) (fun _ _ _ h => h) (by rfl) hHeld ?_ ?_
      rotate_left 1
      · (intro w hSw; (try dsimp only at hSw); go_simp; try (with_reducible rfl))
      try simp only [Act.put, List.setIfInBounds_toArray, List.set_cons_zero, List.set_cons_succ]
      refine held_take (i := 18) (v := .agg (gC s)) rfl (by kernel_rfl) (by kernel_rfl) (by kernel_rfl) (fun _ _ _ h => h) (by rfl) hHeld (exec_load_g _ _ rfl w2.heap.size (by rfl) 25 s (fun w h => h.1) Tryd.underlying25 (by rw [hs32]; exact infoState)) ?_
      try simp only [Act.put, List.setIfInBounds_toArray, List.set_cons_zero, List.set_cons_succ]
      refine held_take (i := 20) (v := .agg (gC s)) rfl (by kernel_rfl) (by kernel_rfl) (by kernel_rfl) (fun _ _ _ h => h) (by rfl) hHeld (exec_load_g _ _ rfl w3.heap.size (by rfl) 25 s (fun w h => h.2.1) Tryd.underlying25 (by rw [hs32]; exact infoState)) ?_
      try simp only [Act.put, List.setIfInBounds_toArray, List.set_cons_zero, List.set_cons_succ]
      refine held_one (i := 19) rfl (by kernel_rfl) (by rfl) (fun K hK => ?_)
      go_simp
      refine (KS.out _ (HT.out.below (BW6.out.drew.trans (hbd.mono BW6.out.size)) HT.out.lt)).mono ?_
      rintro e w7 ⟨rfl, R7⟩
      replace hbd := hbd.trans (R7.mono hbd.size)
      refine hK.out _ _ (⟨J8.out.drew.below hbd hm8, J9.out.drew.below hbd hm9, (hbd.cell (p := ⟨w2.heap.size, k, none⟩) hm8).trans JC.out⟩) (fun hHeld2 => ?_)
      clear hK K hHeld; have hHeld := hHeld2; clear hHeld2
      try simp only [Act.put, List.setIfInBounds_toArray, List.set_cons_zero, List.set_cons_succ]
      refine held_one (i := 21) rfl (by kernel_rfl) (by rfl) (fun K hK => ?_)
      go_simp
      refine (KS.out _ (HT.out.below (BW6.out.drew.trans (hbd.mono BW6.out.size)) HT.out.lt)).mono ?_
      rintro e w7 ⟨rfl, R7⟩
      replace hbd := hbd.trans (R7.mono hbd.size)
      refine hK.out _ _ (⟨J8.out.drew.below hbd hm8, J9.out.drew.below hbd hm9, (hbd.cell (p := ⟨w2.heap.size, k, none⟩) hm8).trans JC.out⟩) (fun hHeld2 => ?_)
      clear hK K hHeld; have hHeld := hHeld2; clear hHeld2
      try simp only [Act.put, List.setIfInBounds_toArray, List.set_cons_zero, List.set_cons_succ]
      refine held_take (i := 22) (v := ?_) rfl (by kernel_rfl) (by kernel_rfl) (by kernel_rfl) (fun _ _ _ h => h) (by rfl) hHeld ?_ ?_
      rotate_left 1
      · (intro w hSw; (try dsimp only at hSw); go_simp; try (with_reducible rfl))
      try simp only [Act.put, List.setIfInBounds_toArray, List.set_cons_zero, List.set_cons_succ]
      refine held_take (i := 23) (v := ?_) rfl (by kernel_rfl) (by kernel_rfl) (by kernel_rfl) (fun _ _ _ h => h) (by rfl) hHeld ?_ ?_
      rotate_left 1
      · (intro w hSw; (try dsimp only at hSw); go_simp; try (with_reducible rfl))
      try simp only [Act.put, List.setIfInBounds_toArray, List.set_cons_zero, List.set_cons_succ]
      refine held_take (i := 24) (v := ?_) rfl (by kernel_rfl) (by kernel_rfl) (by kernel_rfl) (fun _ _ _ h => h) (by rfl) hHeld ?_ ?_
      rotate_left 1
      · (intro w hSw; (try dsimp only at hSw); go_simp; try (with_reducible rfl))
      try simp only [Act.put, List.setIfInBounds_toArray, List.set_cons_zero, List.set_cons_succ]
      refine held_take (i := 25) (v := ?_) rfl (by kernel_rfl) (by kernel_rfl) (by kernel_rfl) (fun _ _ _ h => h) (by rfl) hHeld ?_ ?_
      rotate_left 1
      · (intro w hSw; (try dsimp only at hSw); go_simp; try (with_reducible rfl))
      try simp only [Act.put, List.setIfInBounds_toArray, List.set_cons_zero, List.set_cons_succ]
      refine wpAnyH_done (by kernel_rfl) ?_ _
      go_wp2
      go_ret
      exact ⟨rfl, BW6.out.drew.trans (hbd.mono BW6.out.size)⟩

set_option maxHeartbeats 8000000 in
theorem twins_diff (A : Option Addr) (l : List Int) (cap : Nat) (x v : Int) (k : Nat) (a : Int) (w : World) (hT : TabW w) (hr : RG w w.heap.size A l) (hc : l.length ≤ cap) (hm : cap ≤ maxLen) (hbd : Bd (ofL l)) (v1 : -2147483648 ≤ v) (v2 : v ≤ 2147483647)
    (m : Int) (hm1 : -32 < m) (hm2 : m < 32) (hrm : a.tmod 32 = m) (hk : k < 32) (hrk : (m + 32).tmod 32 = (k : Int)) (hx : (ofL l)[k]? = some x) (hcase : x ≠ v) :
    Calls Tryd.prog 4 #[.slice A l.length cap, .int .i64 a, .int .i32 v] w fun e w' => e = .returned (.bool true) ∧ Below w.heap.size w w' := by
  have hz := zeroState
  obtain ⟨s, hs⟩ : ∃ s, s = ofL l := ⟨_, rfl⟩
  have hs32 : s.length = 32 := by rw [hs]; exact ofL_length l
  have HO := Lib.hid (fun (w1 : World) (hr1 : RG w1 w1.heap.size A l) => hs ▸ of_any A l cap w1 hr1 hc hm)
  have HR := Lib.hid hr; have HT := Lib.hid hT
  have hz32 : (zG 32).length = 32 := zG_length 32
  rw [← hs] at hbd hx
  have hk0 : (0 : Int) ≤ (k : Int) := by omega
  have hk32 : (k : Int) < 32 := by omega
  obtain ⟨hks, hxs⟩ := List.getElem?_eq_some_iff.1 hx
  obtain ⟨u, hu⟩ : ∃ u, u = s.set k v := ⟨_, rfl⟩
  have HU : Hid (s.set k v = u) := Lib.hid hu.symm
  have hu32 : u.length = 32 := by rw [hu, List.length_set, hs32]
  have hbu : Bd u := fun y hy => by
    rw [hu] at hy
    rcases List.mem_or_eq_of_mem_set hy with h | h
    · exact hbd y h
    · subst h; exact ⟨v1, v2⟩
  have hne : s ≠ u := fun e => hcase (by
    have h1 : u[k]? = some v := by rw [hu]; simp [hks]
    rw [← e, hx] at h1
    exact Option.some.inj h1)
  obtain ⟨L1, hL1⟩ : ∃ L, L = encG s := ⟨_, rfl⟩
  obtain ⟨L2, hL2⟩ : ∃ L, L = encG u := ⟨_, rfl⟩
  have HA1 : Hid (encG s = L1) := Lib.hid hL1.symm
  have HA2 : Hid (encG u = L2) := Lib.hid hL2.symm
  have HL1 : Hid (L1.length = 128) := Lib.hid (by rw [hL1, encG_length, hs32])
  have HL2 : Hid (L2.length = 128) := Lib.hid (by rw [hL2, encG_length, hu32])
  have hLne : L1 ≠ L2 := fun e => hne (by rw [← decG_encG s hs32 hbd, ← decG_encG u hu32 hbu, ← hL1, ← hL2, e])
  have hs1 : ((str L1).toList == (str L2).toList) = false := by rw [str_toList, str_toList, beq_eq_false_iff_ne]; exact hLne
  have hs2 : ((str L1) == (str L2)) = false := by rw [beq_toListBytes]; exact hs1
  have KE := Lib.hid (fun w => encode_any s w hs32 hbd)
  have KU := Lib.hid (fun w => encode_any u w hu32 hbu)
  have hxv : ((x == v) : Bool) = false := by rw [beq_eq_false_iff_ne]; exact hcase
  have heq : ∀ w, (Op.equalIn 10000 27 (.agg (gC s)) (.agg (gC u))).run Tryd.prog w = .ok false w := fun w => by
    rw [equalIn_g (P := Tryd.prog) 27 Tryd.underlying27 Tryd.underlying21 infoCell s u hs32 hu32 w, decide_eq_false hne]
  clear hL1 hL2 hLne hne hcase hu hbu
  have hgd := guardGame
  have HX := Lib.hid hxs
  clear hr hc hm hs hbd hT hx hxs
  go_enter Tryd.func4, Tryd.ntmps4
  go_wp2_with (first
    | (go_at_call 5; refine (begun_any _).mono ?_; rintro e w1 ⟨rfl, R1⟩)
    | (go_at_call 6; refine (HO.out w1 ((HR.out.below R1).more R1.size)).mono ?_; rintro e w2 ⟨rfl, R2⟩
       have B2 := Lib.hid (R1.trans (R2.mono R1.size))
       have hw2 : w.heap.size ≤ w2.heap.size := B2.out.size
       have G3 : Hid (GA (w2.alloc (.cells (gC (zG 32)) 25)) w2.heap.size 25 (zG 32)) := Lib.hid (GA.new w2 _ _)
       have B3 := Lib.hid (B2.out.alloc B2.out.size (.cells (gC (zG 32)) 25)))
    | (with_reducible refine wpList_store_g rfl 25 (.tmp 8) (.tmp 15) rfl _ (by with_unfolding_all rfl) 25 (zG 32) s G3.out (by with_unfolding_all rfl) (by rw [hs32, hz32]) (by rw [hs32]; exact infoState) ?_; intro w3 G4 S4 R4
       have B4 := Lib.hid (B3.out.grown R4 B3.out.size (fun j hj => by have := Option.some.inj hj; omega))
       have hb8 := G4.lt
       replace G4 := Lib.hid G4
       have hw3 : w.heap.size ≤ w3.heap.size := B4.out.size
       have G5 : Hid (GA (w3.alloc (.cells (gC (zG 32)) 25)) w3.heap.size 25 (zG 32)) := Lib.hid (GA.new w3 _ _)
       have G6 := Lib.hid (G4.out.alloc (.cells (gC (zG 32)) 25))
       have B5 := Lib.hid (B4.out.alloc B4.out.size (.cells (gC (zG 32)) 25))
       clear G3 B3 R4 S4)
    | (with_reducible refine wpList_load_g rfl 25 (.tmp 8) rfl _ (by with_unfolding_all rfl) 25 s G4.out Tryd.underlying25 (by rw [hs32]; exact infoState) ?_)
    | (with_reducible refine wpList_store_g rfl 25 (.tmp 9) (.tmp 20) rfl _ (by with_unfolding_all rfl) 25 (zG 32) s G5.out (by with_unfolding_all rfl) (by rw [hs32, hz32]) (by rw [hs32]; exact infoState) ?_; intro w4 G7 S7 R7
       have B7 := Lib.hid (B5.out.grown R7 B5.out.size (fun j hj => by have := Option.some.inj hj; omega))
       have G8 := Lib.hid (G6.out.grown R7 (by simp; omega))
       have hy := G7.cell k hks
       rw [HX.out] at hy
       have hfz := G7.frozen k
       replace G7 := Lib.hid G7
       clear G5 G6 B5 R7 S7 hz))
  obtain ⟨W, hW⟩ : ∃ W, W = w4.setCell ⟨w3.heap.size, k, none⟩ (.int .i32 v) := ⟨_, rfl⟩
  have H9 : Hid (GA W w3.heap.size 25 u) := Lib.hid (by rw [hW, ← HU.out]; exact G7.out.set k v)
  have H8 : Hid (GA W w2.heap.size 25 s) := Lib.hid (by rw [hW]; exact G8.out.other _ _ (by simp; omega))
  have HBW : Hid (Below w.heap.size w W) := Lib.hid (by rw [hW]; exact B7.out.setCell (by simp; omega) _)
  rw [← hW]
  clear hW G7 G8 B7 hy hfz
  have hn8 := H8.out.lt
  have hn9 := H9.out.lt
  have hbc : Below W.heap.size W.drew W.drew := Below.refl _ _
  refine wp_region_held_drew (S := (fun w' => GA w' w2.heap.size 25 s ∧ GA w' w3.heap.size 25 u)) (by kernel_rfl) (⟨H8.out.drew, H9.out.drew⟩) (fun hHeld => ?_)
  refine held_take (i := 0) (v := .agg (gC s)) rfl (by kernel_rfl) (by kernel_rfl) (by kernel_rfl) (fun _ _ _ h => h) (by rfl) hHeld (exec_load_g _ _ rfl w2.heap.size (by rfl) 25 s (fun w h => h.1) Tryd.underlying25 (by rw [hs32]; exact infoState)) ?_
  try simp only [Act.put, List.setIfInBounds_toArray, List.set_cons_zero, List.set_cons_succ]
  refine held_take (i := 3) (v := .agg (gC u)) rfl (by kernel_rfl) (by kernel_rfl) (by kernel_rfl) (fun _ _ _ h => h) (by rfl) hHeld (exec_load_g _ _ rfl w3.heap.size (by rfl) 25 u (fun w h => h.2) Tryd.underlying25 (by rw [hu32]; exact infoState)) ?_
  try simp only [Act.put, List.setIfInBounds_toArray, List.set_cons_zero, List.set_cons_succ]
  refine held_one (i := 1) rfl (by kernel_rfl) (by rfl) (fun K hK => ?_)
  go_simp
  refine (KE.out _).mono ?_
  rintro e w5 ⟨v5, rfl, O5, R5⟩
  replace hbc := hbc.trans (R5.mono hbc.size)
  rw [HA1.out] at O5
  obtain ⟨b5, cap5, rfl, p1, p2, p3, p4, p5, p6⟩ := OB.row O5 HL1.out (by omega)
  have hcv5 := conv_bytes w5 b5 0 cap5 L1 _ p5 128 HL1.out
  clear p6 O5
  refine hK.out _ _ (⟨H8.out.drew.below hbc hn8, H9.out.drew.below hbc hn9⟩) (fun hHeld2 => ?_)
  clear hK K hHeld; have hHeld := hHeld2; clear hHeld2
  try simp only [Act.put, List.setIfInBounds_toArray, List.set_cons_zero, List.set_cons_succ]
  refine held_two (i := 2) (j := 4) rfl rfl (by kernel_rfl) (by rfl) (by rfl) (fun K hK => ?_) (fun K hK => ?_)
  · go_simp
    refine hK.out _ _ (⟨hHeld.1, hHeld.2⟩) (fun hHeld2 => ?_)
    clear hK K hHeld; have hHeld := hHeld2; clear hHeld2
    try simp only [Act.put, List.setIfInBounds_toArray, List.set_cons_zero, List.set_cons_succ]
    refine held_one (i := 4) rfl (by kernel_rfl) (by rfl) (fun K hK => ?_)
    go_simp
    refine (KU.out _).mono ?_
    rintro e w6 ⟨v6, rfl, O6, R6⟩
    replace hbc := hbc.trans (R6.mono hbc.size)
    rw [HA2.out] at O6
    obtain ⟨b6, cap6, rfl, q1, q2, q3, q4, q5, q6⟩ := OB.row O6 HL2.out (by omega)
    have hcv6 := conv_bytes w6 b6 0 cap6 L2 _ q5 128 HL2.out
    have hcv56 := conv_bytes w6 b5 0 cap5 L1 _ (p5.below R6) 128 HL1.out
    clear q6 O6
    refine hK.out _ _ (⟨H8.out.drew.below hbc hn8, H9.out.drew.below hbc hn9⟩) (fun hHeld2 => ?_)
    clear hK K hHeld; have hHeld := hHeld2; clear hHeld2
    try simp only [Act.put, List.setIfInBounds_toArray, List.set_cons_zero, List.set_cons_succ]
    refine held_one (i := 5) rfl (by kernel_rfl) (by rfl) (fun K hK => ?_)
    go_simp
    refine hK.out _ _ (⟨hHeld.1, hHeld.2⟩) (fun hHeld2 => ?_)
    clear hK K hHeld; have hHeld := hHeld2; clear hHeld2
    try simp only [Act.put, List.setIfInBounds_toArray, List.set_cons_zero, List.set_cons_succ]
    refine held_take (i := 6) (v := ?_) rfl (by kernel_rfl) (by kernel_rfl) (by kernel_rfl) (fun _ _ _ h => h) (by rfl) hHeld ?_ ?_
    rotate_left 1
    · (intro w hSw; (try dsimp only at hSw); go_simp; try (with_reducible rfl))
    try simp only [Act.put, List.setIfInBounds_toArray, List.set_cons_zero, List.set_cons_succ]
    refine held_take (i := 7) (v := ?_) rfl (by kernel_rfl) (by kernel_rfl) (by kernel_rfl) (fun _ _ _ h => h) (by rfl) hHeld ?_ ?_
    rotate_left 1
    · (intro w hSw; (try dsimp only at hSw); go_simp; try (with_reducible rfl))
    try simp only [Act.put, List.setIfInBounds_toArray, List.set_cons_zero, List.set_cons_succ]
    refine wpAnyH_done (by kernel_rfl) ?_ _
    have J8 := Lib.hid hHeld.1; have J9 := Lib.hid hHeld.2
    have JC : Hid (w6.cell? ⟨w2.heap.size, k, none⟩ = some (.int .i32 x)) := Lib.hid (by have := J8.out.cell k hks; rw [HX.out] at this; exact this)
    have hm8 := J8.out.lt; have hm9 := J9.out.lt
    have BW6 := Lib.hid (HBW.out.drew.trans (hbc.mono HBW.out.size))
    have hbd : Below w6.heap.size w6.drew w6.drew := Below.refl _ _
    clear hHeld hcv5 hcv6 hcv56 p5 q5
    go_wp2_with fail
    refine wp_region_held_drew (S := (fun w' => GA w' w2.heap.size 25 s ∧ GA w' w3.heap.size 25 u ∧ w'.cell? ⟨w2.heap.size, k, none⟩ = some (.int .i32 x))) (by kernel_rfl) (⟨J8.out.drew, J9.out.drew, JC.out⟩) (fun hHeld => ?_)
    refine held_take (i := 0) (v := ?_) rfl (by kernel_rfl) (by kernel_rfl) (by kernel_rfl) (fun _ _ _ h => h) (by rfl) hHeld ?_ ?_
    rotate_left 1
    · (intro w hSw; (try dsimp only at hSw); go_simp; try (with_reducible rfl))
    try simp only [Act.put, List.setIfInBounds_toArray, List.set_cons_zero, List.set_cons_succ]
    refine held_take (i := 1) (v := ?_) rfl (by kernel_rfl) (by kernel_rfl) (by kernel_rfl) (fun _ _ _ h => h) (by rfl) hHeld ?_ ?_
    rotate_left 1
    · (intro w hSw; (try dsimp only at hSw); go_simp; try (with_reducible rfl))
    try simp only [Act.put, List.setIfInBounds_toArray, List.set_cons_zero, List.set_cons_succ]
    refine held_take (i := 2) (v := ?_) rfl (by kernel_rfl) (by kernel_rfl) (by kernel_rfl) (fun _ _ _ h => h) (by rfl) hHeld ?_ ?_
    rotate_left 1
    · (intro w hSw; (try dsimp only at hSw); go_simp; try (with_reducible rfl))
    try simp only [Act.put, List.setIfInBounds_toArray, List.set_cons_zero, List.set_cons_succ]
    refine held_take (i := 3) (v := ?_) rfl (by kernel_rfl) (by kernel_rfl) (by kernel_rfl) (fun _ _ _ h => h) (by rfl) hHeld ?_ ?_
    rotate_left 1
    · (intro w hSw; (try dsimp only at hSw); go_simp; try (with_reducible rfl))
    try simp only [Act.put, List.setIfInBounds_toArray, List.set_cons_zero, List.set_cons_succ]
    refine held_take (i := 4) (v := ?_) rfl (by kernel_rfl) (by kernel_rfl) (by kernel_rfl) (fun _ _ _ h => h) (by rfl) hHeld ?_ ?_
    rotate_left 1
    · (intro w hSw; (try dsimp only at hSw); go_simp; try (with_reducible rfl))
    try simp only [Act.put, List.setIfInBounds_toArray, List.set_cons_zero, List.set_cons_succ]
    refine held_take (i := 5) (v := ?_) rfl (by kernel_rfl) (by kernel_rfl) (by kernel_rfl) (fun _ _ _ h => h) (by rfl) hHeld ?_ ?_
    rotate_left 1
    · (intro w hSw; (try dsimp only at hSw); go_simp; try (with_reducible rfl))
    try simp only [Act.put, List.setIfInBounds_toArray, List.set_cons_zero, List.set_cons_succ]
    refine held_take (i := 6) (v := ?_) rfl (by kernel_rfl) (by kernel_rfl) (by kernel_rfl) (fun _ _ _ h => h) (by rfl) hHeld ?_ ?_
    rotate_left 1
    · (intro w hSw; (try dsimp only at hSw); go_simp; try (with_reducible rfl))
    try simp only [Act.put, List.setIfInBounds_toArray, List.set_cons_zero, List.set_cons_succ]
    refine held_take (i := 7) (v := ?_) rfl (by kernel_rfl) (by kernel_rfl) (by kernel_rfl) (fun _ _ _ h => h) (by rfl) hHeld ?_ ?_
    rotate_left 1
    · (intro w hSw; (try dsimp only at hSw); go_simp; try (with_reducible rfl))
    try simp only [Act.put, List.setIfInBounds_toArray, List.set_cons_zero, List.set_cons_succ]
    refine held_take (i := 8) (v := ?_) rfl (by kernel_rfl) (by kernel_rfl) (by kernel_rfl) (fun _ _ _ h => h) (by rfl) hHeld ?_ ?_
    rotate_left 1
    · (intro w hSw; (try dsimp only at hSw); go_simp; try (with_reducible rfl))
    try simp only [Act.put, List.setIfInBounds_toArray, List.set_cons_zero, List.set_cons_succ]
    refine held_take (i := 9) (v := .agg (gC s)) rfl (by kernel_rfl) (by kernel_rfl) (by kernel_rfl) (fun _ _ _ h => h) (by rfl) hHeld (exec_load_g _ _ rfl w2.heap.size (by rfl) 25 s (fun w h => h.1) Tryd.underlying25 (by rw [hs32]; exact infoState)) ?_
    try simp only [Act.put, List.setIfInBounds_toArray, List.set_cons_zero, List.set_cons_succ]
    refine held_take (i := 10) (v := .agg (gC u)) rfl (by kernel_rfl) (by kernel_rfl) (by kernel_rfl) (fun _ _ _ h => h) (by rfl) hHeld (exec_load_g _ _ rfl w3.heap.size (by rfl) 25 u (fun w h => h.2.1) Tryd.underlying25 (by rw [hu32]; exact infoState)) ?_
    try simp only [Act.put, List.setIfInBounds_toArray, List.set_cons_zero, List.set_cons_succ]
    refine held_take (i := 11) (v := ?_) rfl (by kernel_rfl) (by kernel_rfl) (by kernel_rfl) (fun _ _ _ h => h) (by rfl) hHeld ?_ ?_
    rotate_left 1
    · (intro w hSw; (try dsimp only at hSw); go_simp; try (with_reducible rfl))
    try simp only [Act.put, List.setIfInBounds_toArray, List.set_cons_zero, List.set_cons_succ]
    refine held_take (i := 12) (v := ?_) rfl (by kernel_rfl) (by kernel_rfl) (by kernel_rfl) (fun _ _ _ h => h) (by rfl) hHeld ?_ ?_
    rotate_left 1
    · (intro w hSw; (try dsimp only at hSw); go_simp; try (with_reducible rfl))
    try simp only [Act.put, List.setIfInBounds_toArray, List.set_cons_zero, List.set_cons_succ]
    refine held_take (i := 13) (v := ?_) rfl (by kernel_rfl) (by kernel_rfl) (by kernel_rfl) (fun _ _ _ h => h) (by rfl) hHeld ?_ ?_
    rotate_left 1
    · (intro w hSw; (try dsimp only at hSw); go_simp; try (with_reducible rfl))
    try simp only [Act.put, List.setIfInBounds_toArray, List.set_cons_zero, List.set_cons_succ]
    refine held_take (i := 14) (v := ?_) rfl (by kernel_rfl) (by kernel_rfl) (by kernel_rfl) (fun _ _ _ h => h) (by rfl) hHeld ?_ ?_
    rotate_left 1
    · (intro w hSw; (try dsimp only at hSw); go_simp; try (with_reducible rfl))
    try simp only [Act.put, List.setIfInBounds_toArray, List.set_cons_zero, List.set_cons_succ]
    refine held_take (i := 15) (v := ?_) rfl (by kernel_rfl) (by kernel_rfl) (by kernel_rfl) (fun _ _ _ h => h) (by rfl) hHeld ?_ ?_
    rotate_left 1
    · (intro w hSw; (try dsimp only at hSw); go_simp; try (with_reducible rfl))
    try simp only [Act.put, List.setIfInBounds_toArray, List.set_cons_zero, List.set_cons_succ]
    refine held_take (i := 16) (v := ?_) rfl (by kernel_rfl) (by kernel_rfl) (by kernel_rfl) (fun _ _ _ h => h) (by rfl) hHeld ?_ ?_
    rotate_left 1
    · (intro w hSw; (try dsimp only at hSw); go_simp; try (with_reducible rfl))
    try simp only [Act.put, List.setIfInBounds_toArray, List.set_cons_zero, List.set_cons_succ]
    refine held_take (i := 17) (v := ?_) rfl (by kernel_rfl) (by kernel_rfl) (by kernel_rfl) (fun _ _ _ h => h) (by rfl) hHeld ?_ ?_
    rotate_left 1
    · (intro w hSw; (try dsimp only at hSw); go_simp; try (with_reducible rfl))
    try simp only [Act.put, List.setIfInBounds_toArray, List.set_cons_zero, List.set_cons_succ]
    refine held_off (i := 18) rfl (by kernel_rfl) (by kernel_rfl) (by kernel_rfl) (fun _ _ _ h => h) (by rfl) hHeld ?_
    try simp only [Act.put, List.setIfInBounds_toArray, List.set_cons_zero, List.set_cons_succ]
    refine held_off (i := 19) rfl (by kernel_rfl) (by kernel_rfl) (by kernel_rfl) (fun _ _ _ h => h) (by rfl) hHeld ?_
    try simp only [Act.put, List.setIfInBounds_toArray, List.set_cons_zero, List.set_cons_succ]
    refine held_off (i := 20) rfl (by kernel_rfl) (by kernel_rfl) (by kernel_rfl) (fun _ _ _ h => h) (by rfl) hHeld ?_
    try simp only [Act.put, List.setIfInBounds_toArray, List.set_cons_zero, List.set_cons_succ]
    refine held_off (i := 21) rfl (by kernel_rfl) (by kernel_rfl) (by kernel_rfl) (fun _ _ _ h => h) (by rfl) hHeld ?_
    try simp only [Act.put, List.setIfInBounds_toArray, List.set_cons_zero, List.set_cons_succ]
    refine held_off (i := 22) rfl (by kernel_rfl) (by kernel_rfl) (by kernel_rfl) (fun _ _ _ h => h) (by rfl) hHeld ?_
    try simp only [Act.put, List.setIfInBounds_toArray, List.set_cons_zero, List.set_cons_succ]
    refine held_take (i := 23) (v := ?_) rfl (by kernel_rfl) (by kernel_rfl) (by kernel_rfl) (fun _ _ _ h => h) (by rfl) hHeld ?_ ?_
    rotate_left 1
    · (intro w hSw; (try dsimp only at hSw); go_simp; try (with_reducible rfl))
    try simp only [Act.put, List.setIfInBounds_toArray, List.set_cons_zero, List.set_cons_succ]
    refine held_take (i := 24) (v := ?_) rfl (by kernel_rfl) (by kernel_rfl) (by kernel_rfl) (fun _ _ _ h => h) (by rfl) hHeld ?_ ?_
    rotate_left 1
    · (intro w hSw; (try dsimp only at hSw); go_simp; try (with_reducible rfl))
    try simp only [Act.put, List.setIfInBounds_toArray, List.set_cons_zero, List.set_cons_succ]
    refine held_take (i := 25) (v := ?_) rfl (by kernel_rfl) (by kernel_rfl) (by kernel_rfl) (fun _ _ _ h => h) (by rfl) hHeld ?_ ?_
    rotate_left 1
    · (intro w hSw; (try dsimp only at hSw); go_simp; try (with_reducible rfl))
    try simp only [Act.put, List.setIfInBounds_toArray, List.set_cons_zero, List.set_cons_succ]
    refine wpAnyH_done (by kernel_rfl) ?_ _
    go_wp2
    go_ret
    exact ⟨rfl, BW6.out.drew.trans (hbd.mono BW6.out.size)⟩
  · go_simp
    refine (KU.out _).mono ?_
    rintro e w6 ⟨v6, rfl, O6, R6⟩
    replace hbc := hbc.trans (R6.mono hbc.size)
    rw [HA2.out] at O6
    obtain ⟨b6, cap6, rfl, q1, q2, q3, q4, q5, q6⟩ := OB.row O6 HL2.out (by omega)
    have hcv6 := conv_bytes w6 b6 0 cap6 L2 _ q5 128 HL2.out
    have hcv56 := conv_bytes w6 b5 0 cap5 L1 _ (p5.below R6) 128 HL1.out
    clear q6 O6
    refine hK.out _ _ (⟨H8.out.drew.below hbc hn8, H9.out.drew.below hbc hn9⟩) (fun hHeld2 => ?_)
    clear hK K hHeld; have hHeld := hHeld2; clear hHeld2
    try simp only [Act.put, List.setIfInBounds_toArray, List.set_cons_zero, List.set_cons_succ]
    refine held_two (i := 2) (j := 5) rfl rfl (by kernel_rfl) (by rfl) (by rfl) (fun K hK => ?_) (fun K hK => ?_)
    · go_simp
      refine hK.out _ _ (⟨hHeld.1, hHeld.2⟩) (fun hHeld2 => ?_)
      clear hK K hHeld; have hHeld := hHeld2; clear hHeld2
      try simp only [Act.put, List.setIfInBounds_toArray, List.set_cons_zero, List.set_cons_succ]
      refine held_one (i := 5) rfl (by kernel_rfl) (by rfl) (fun K hK => ?_)
      go_simp
      refine hK.out _ _ (⟨hHeld.1, hHeld.2⟩) (fun hHeld2 => ?_)
      clear hK K hHeld; have hHeld := hHeld2; clear hHeld2
      try simp only [Act.put, List.setIfInBounds_toArray, List.set_cons_zero, List.set_cons_succ]
      refine held_take (i := 6) (v := ?_) rfl (by kernel_rfl) (by kernel_rfl) (by kernel_rfl) (fun _ _ _ h => h) (by rfl) hHeld ?_ ?_
      rotate_left 1
      · (intro w hSw; (try dsimp only at hSw); go_simp; try (with_reducible rfl))
      try simp only [Act.put, List.setIfInBounds_toArray, List.set_cons_zero, List.set_cons_succ]
      refine held_take (i := 7) (v := ?_) rfl (by kernel_rfl) (by kernel_rfl) (by kernel_rfl) (fun _ _ _ h => h) (by rfl) hHeld ?_ ?_
      rotate_left 1
      · (intro w hSw; (try dsimp only at hSw); go_simp; try (with_reducible rfl))
      try simp only [Act.put, List.setIfInBounds_toArray, List.set_cons_zero, List.set_cons_succ]
      refine wpAnyH_done (by kernel_rfl) ?_ _
      have J8 := Lib.hid hHeld.1; have J9 := Lib.hid hHeld.2
      have JC : Hid (w6.cell? ⟨w2.heap.size, k, none⟩ = some (.int .i32 x)) := Lib.hid (by have := J8.out.cell k hks; rw [HX.out] at this; exact this)
      have hm8 := J8.out.lt; have hm9 := J9.out.lt
      have BW6 := Lib.hid (HBW.out.drew.trans (hbc.mono HBW.out.size))
      have hbd : Below w6.heap.size w6.drew w6.drew := Below.refl _ _
      clear hHeld hcv5 hcv6 hcv56 p5 q5
      go_wp2_with fail
      refine wp_region_held_drew (S := (fun w' => GA w' w2.heap.size 25 s ∧ GA w' w3.heap.size 25 u ∧ w'.cell? ⟨w2.heap.size, k, none⟩ = some (.int .i32 x))) (by kernel_rfl) (⟨J8.out.drew, J9.out.drew, JC.out⟩) (fun hHeld => ?_)
      refine held_take (i := 0) (v := ?_) rfl (by kernel_rfl) (by kernel_rfl) (by kernel_rfl) (fun _ _ _ h => h) (by rfl) hHeld ?_ ?_
      rotate_left 1
      · (intro w hSw; (try dsimp only at hSw); go_simp; try (with_reducible rfl))
      try simp only [Act.put, List.setIfInBounds_toArray, List.set_cons_zero, List.set_cons_succ]
      refine held_take (i := 1) (v := ?_) rfl (by kernel_rfl) (by kernel_rfl) (by kernel_rfl) (fun _ _ _ h => h) (by rfl) hHeld ?_ ?_
      rotate_left 1
      · (intro w hSw; (try dsimp only at hSw); go_simp; try (with_reducible rfl))
      try simp only [Act.put, List.setIfInBounds_toArray, List.set_cons_zero, List.set_cons_succ]
      refine held_take (i := 2) (v := ?_) rfl (by kernel_rfl) (by kernel_rfl) (by kernel_rfl) (fun _ _ _ h => h) (by rfl) hHeld ?_ ?_
      rotate_left 1
      · (intro w hSw; (try dsimp only at hSw); go_simp; try (with_reducible rfl))
      try simp only [Act.put, List.setIfInBounds_toArray, List.set_cons_zero, List.set_cons_succ]
      refine held_take (i := 3) (v := ?_) rfl (by kernel_rfl) (by kernel_rfl) (by kernel_rfl) (fun _ _ _ h => h) (by rfl) hHeld ?_ ?_
      rotate_left 1
      · (intro w hSw; (try dsimp only at hSw); go_simp; try (with_reducible rfl))
      try simp only [Act.put, List.setIfInBounds_toArray, List.set_cons_zero, List.set_cons_succ]
      refine held_take (i := 4) (v := ?_) rfl (by kernel_rfl) (by kernel_rfl) (by kernel_rfl) (fun _ _ _ h => h) (by rfl) hHeld ?_ ?_
      rotate_left 1
      · (intro w hSw; (try dsimp only at hSw); go_simp; try (with_reducible rfl))
      try simp only [Act.put, List.setIfInBounds_toArray, List.set_cons_zero, List.set_cons_succ]
      refine held_take (i := 5) (v := ?_) rfl (by kernel_rfl) (by kernel_rfl) (by kernel_rfl) (fun _ _ _ h => h) (by rfl) hHeld ?_ ?_
      rotate_left 1
      · (intro w hSw; (try dsimp only at hSw); go_simp; try (with_reducible rfl))
      try simp only [Act.put, List.setIfInBounds_toArray, List.set_cons_zero, List.set_cons_succ]
      refine held_take (i := 6) (v := ?_) rfl (by kernel_rfl) (by kernel_rfl) (by kernel_rfl) (fun _ _ _ h => h) (by rfl) hHeld ?_ ?_
      rotate_left 1
      · (intro w hSw; (try dsimp only at hSw); go_simp; try (with_reducible rfl))
      try simp only [Act.put, List.setIfInBounds_toArray, List.set_cons_zero, List.set_cons_succ]
      refine held_take (i := 7) (v := ?_) rfl (by kernel_rfl) (by kernel_rfl) (by kernel_rfl) (fun _ _ _ h => h) (by rfl) hHeld ?_ ?_
      rotate_left 1
      · (intro w hSw; (try dsimp only at hSw); go_simp; try (with_reducible rfl))
      try simp only [Act.put, List.setIfInBounds_toArray, List.set_cons_zero, List.set_cons_succ]
      refine held_take (i := 8) (v := ?_) rfl (by kernel_rfl) (by kernel_rfl) (by kernel_rfl) (fun _ _ _ h => h) (by rfl) hHeld ?_ ?_
      rotate_left 1
      · (intro w hSw; (try dsimp only at hSw); go_simp; try (with_reducible rfl))
      try simp only [Act.put, List.setIfInBounds_toArray, List.set_cons_zero, List.set_cons_succ]
      refine held_take (i := 9) (v := .agg (gC s)) rfl (by kernel_rfl) (by kernel_rfl) (by kernel_rfl) (fun _ _ _ h => h) (by rfl) hHeld (exec_load_g _ _ rfl w2.heap.size (by rfl) 25 s (fun w h => h.1) Tryd.underlying25 (by rw [hs32]; exact infoState)) ?_
      try simp only [Act.put, List.setIfInBounds_toArray, List.set_cons_zero, List.set_cons_succ]
      refine held_take (i := 10) (v := .agg (gC u)) rfl (by kernel_rfl) (by kernel_rfl) (by kernel_rfl) (fun _ _ _ h => h) (by rfl) hHeld (exec_load_g _ _ rfl w3.heap.size (by rfl) 25 u (fun w h => h.2.1) Tryd.underlying25 (by rw [hu32]; exact infoState)) ?_
      try simp only [Act.put, List.setIfInBounds_toArray, List.set_cons_zero, List.set_cons_succ]
      refine held_take (i := 11) (v := ?_) rfl (by kernel_rfl) (by kernel_rfl) (by kernel_rfl) (fun _ _ _ h => h) (by rfl) hHeld ?_ ?_
      rotate_left 1
      · (intro w hSw; (try dsimp only at hSw); go_simp; try (with_reducible rfl))
      try simp only [Act.put, List.setIfInBounds_toArray, List.set_cons_zero, List.set_cons_succ]
      refine held_take (i := 12) (v := ?_) rfl (by kernel_rfl) (by kernel_rfl) (by kernel_rfl) (fun _ _ _ h => h) (by rfl) hHeld ?_ ?_
      rotate_left 1
      · (intro w hSw; (try dsimp only at hSw); go_simp; try (with_reducible rfl))
      try simp only [Act.put, List.setIfInBounds_toArray, List.set_cons_zero, List.set_cons_succ]
      refine held_take (i := 13) (v := ?_) rfl (by kernel_rfl) (by kernel_rfl) (by kernel_rfl) (fun _ _ _ h => h) (by rfl) hHeld ?_ ?_
      rotate_left 1
      · (intro w hSw; (try dsimp only at hSw); go_simp; try (with_reducible rfl))
      try simp only [Act.put, List.setIfInBounds_toArray, List.set_cons_zero, List.set_cons_succ]
      refine held_take (i := 14) (v := ?_) rfl (by kernel_rfl) (by kernel_rfl) (by kernel_rfl) (fun _ _ _ h => h) (by rfl) hHeld ?_ ?_
      rotate_left 1
      · (intro w hSw; (try dsimp only at hSw); go_simp; try (with_reducible rfl))
      try simp only [Act.put, List.setIfInBounds_toArray, List.set_cons_zero, List.set_cons_succ]
      refine held_take (i := 15) (v := ?_) rfl (by kernel_rfl) (by kernel_rfl) (by kernel_rfl) (fun _ _ _ h => h) (by rfl) hHeld ?_ ?_
      rotate_left 1
      · (intro w hSw; (try dsimp only at hSw); go_simp; try (with_reducible rfl))
      try simp only [Act.put, List.setIfInBounds_toArray, List.set_cons_zero, List.set_cons_succ]
      refine held_take (i := 16) (v := ?_) rfl (by kernel_rfl) (by kernel_rfl) (by kernel_rfl) (fun _ _ _ h => h) (by rfl) hHeld ?_ ?_
      rotate_left 1
      · (intro w hSw; (try dsimp only at hSw); go_simp; try (with_reducible rfl))
      try simp only [Act.put, List.setIfInBounds_toArray, List.set_cons_zero, List.set_cons_succ]
      refine held_take (i := 17) (v := ?_) rfl (by kernel_rfl) (by kernel_rfl) (by kernel_rfl) (fun _ _ _ h => h) (by rfl) hHeld ?_ ?_
      rotate_left 1
      · (intro w hSw; (try dsimp only at hSw); go_simp; try (with_reducible rfl))
      try simp only [Act.put, List.setIfInBounds_toArray, List.set_cons_zero, List.set_cons_succ]
      refine held_off (i := 18) rfl (by kernel_rfl) (by kernel_rfl) (by kernel_rfl) (fun _ _ _ h => h) (by rfl) hHeld ?_
      try simp only [Act.put, List.setIfInBounds_toArray, List.set_cons_zero, List.set_cons_succ]
      refine held_off (i := 19) rfl (by kernel_rfl) (by kernel_rfl) (by kernel_rfl) (fun _ _ _ h => h) (by rfl) hHeld ?_
      try simp only [Act.put, List.setIfInBounds_toArray, List.set_cons_zero, List.set_cons_succ]
      refine held_off (i := 20) rfl (by kernel_rfl) (by kernel_rfl) (by kernel_rfl) (fun _ _ _ h => h) (by rfl) hHeld ?_
      try simp only [Act.put, List.setIfInBounds_toArray, List.set_cons_zero, List.set_cons_succ]
      refine held_off (i := 21) rfl (by kernel_rfl) (by kernel_rfl) (by kernel_rfl) (fun _ _ _ h => h) (by rfl) hHeld ?_
      try simp only [Act.put, List.setIfInBounds_toArray, List.set_cons_zero, List.set_cons_succ]
      refine held_off (i := 22) rfl (by kernel_rfl) (by kernel_rfl) (by kernel_rfl) (fun _ _ _ h => h) (by rfl) hHeld ?_
      try simp only [Act.put, List.setIfInBounds_toArray, List.set_cons_zero, List.set_cons_succ]
      refine held_take (i := 23) (v := ?_) rfl (by kernel_rfl) (by kernel_rfl) (by kernel_rfl) (fun _ _ _ h => h) (by rfl) hHeld ?_ ?_
      rotate_left 1
      · (intro w hSw; (try dsimp only at hSw); go_simp; try (with_reducible rfl))
      try simp only [Act.put, List.setIfInBounds_toArray, List.set_cons_zero, List.set_cons_succ]
      refine held_take (i := 24) (v := ?_) rfl (by kernel_rfl) (by kernel_rfl) (by kernel_rfl) (fun _ _ _ h => h) (by rfl) hHeld ?_ ?_
      rotate_left 1
      · (intro w hSw; (try dsimp only at hSw); go_simp; try (with_reducible rfl))
      try simp only [Act.put, List.setIfInBounds_toArray, List.set_cons_zero, List.set_cons_succ]
      refine held_take (i := 25) (v := ?_) rfl (by kernel_rfl) (by kernel_rfl) (by kernel_rfl) (fun _ _ _ h => h) (by rfl) hHeld ?_ ?_
      rotate_left 1
      · (intro w hSw; (try dsimp only at hSw); go_simp; try (with_reducible rfl))
      try simp only [Act.put, List.setIfInBounds_toArray, List.set_cons_zero, List.set_cons_succ]
      refine wpAnyH_done (by kernel_rfl) ?_ _
      go_wp2
      go_ret
      exact ⟨rfl, BW6.out.drew.trans (hbd.mono BW6.out.size)⟩
    · go_simp
      refine hK.out _ _ (⟨hHeld.1, hHeld.2⟩) (fun hHeld2 => ?_)
      clear hK K hHeld; have hHeld := hHeld2; clear hHeld2
      try simp only [Act.put, List.setIfInBounds_toArray, List.set_cons_zero, List.set_cons_succ]
      refine held_one (i := 2) rfl (by kernel_rfl) (by rfl) (fun K hK => ?_)
      go_simp
      refine hK.out _ _ (⟨hHeld.1, hHeld.2⟩) (fun hHeld2 => ?_)
      clear hK K hHeld; have hHeld := hHeld2; clear hHeld2
      try simp only [Act.put, List.setIfInBounds_toArray, List.set_cons_zero, List.set_cons_succ]
      refine held_take (i := 6) (v := ?_) rfl (by kernel_rfl) (by kernel_rfl) (by kernel_rfl) (fun _ _ _ h => h) (by rfl) hHeld ?_ ?_
      rotate_left 1
      · (intro w hSw; (try dsimp only at hSw); go_simp; try (with_reducible rfl))
      try simp only [Act.put, List.setIfInBounds_toArray, List.set_cons_zero, List.set_cons_succ]
      refine held_take (i := 7) (v := ?_) rfl (by kernel_rfl) (by kernel_rfl) (by kernel_rfl) (fun _ _ _ h => h) (by rfl) hHeld ?_ ?_
      rotate_left 1
      · (intro w hSw; (try dsimp only at hSw); go_simp; try (with_reducible rfl))
      try simp only [Act.put, List.setIfInBounds_toArray, List.set_cons_zero, List.set_cons_succ]
      refine wpAnyH_done (by kernel_rfl) ?_ _
      have J8 := Lib.hid hHeld.1; have J9 := Lib.hid hHeld.2
      have JC : Hid (w6.cell? ⟨w2.heap.size, k, none⟩ = some (.int .i32 x)) := Lib.hid (by have := J8.out.cell k hks; rw [HX.out] at this; exact this)
      have hm8 := J8.out.lt; have hm9 := J9.out.lt
      have BW6 := Lib.hid (HBW.out.drew.trans (hbc.mono HBW.out.size))
      have hbd : Below w6.heap.size w6.drew w6.drew := Below.refl _ _
      clear hHeld hcv5 hcv6 hcv56 p5 q5
      go_wp2_with fail
      refine wp_region_held_drew (S := (fun w' => GA w' w2.heap.size 25 s ∧ GA w' w3.heap.size 25 u ∧ w'.cell? ⟨w2.heap.size, k, none⟩ = some (.int .i32 x))) (by kernel_rfl) (⟨J8.out.drew, J9.out.drew, JC.out⟩) (fun hHeld => ?_)
      refine held_take (i := 0) (v := ?_) rfl (by kernel_rfl) (by kernel_rfl) (by kernel_rfl) (fun _ _ _ h => h) (by rfl) hHeld ?_ ?_
      rotate_left 1
      · (intro w hSw; (try dsimp only at hSw); go_simp; try (with_reducible rfl))
      try simp only [Act.put, List.setIfInBounds_toArray, List.set_cons_zero, List.set_cons_succ]
      refine held_take (i := 1) (v := ?_) rfl (by kernel_rfl) (by kernel_rfl) (by kernel_rfl) (fun _ _ _ h => h) (by rfl) hHeld ?_ ?_
      rotate_left 1
      · (intro w hSw; (try dsimp only at hSw); go_simp; try (with_reducible rfl))
      try simp only [Act.put, List.setIfInBounds_toArray, List.set_cons_zero, List.set_cons_succ]
      refine held_take (i := 2) (v := ?_) rfl (by kernel_rfl) (by kernel_rfl) (by kernel_rfl) (fun _ _ _ h => h) (by rfl) hHeld ?_ ?_
      rotate_left 1
      · (intro w hSw; (try dsimp only at hSw); go_simp; try (with_reducible rfl))
      try simp only [Act.put, List.setIfInBounds_toArray, List.set_cons_zero, List.set_cons_succ]
      refine held_take (i := 3) (v := ?_) rfl (by kernel_rfl) (by kernel_rfl) (by kernel_rfl) (fun _ _ _ h => h) (by rfl) hHeld ?_ ?_
      rotate_left 1
      · (intro w hSw; (try dsimp only at hSw); go_simp; try (with_reducible rfl))
      try simp only [Act.put, List.setIfInBounds_toArray, List.set_cons_zero, List.set_cons_succ]
      refine held_take (i := 4) (v := ?_) rfl (by kernel_rfl) (by kernel_rfl) (by kernel_rfl) (fun _ _ _ h => h) (by rfl) hHeld ?_ ?_
      rotate_left 1
      · (intro w hSw; (try dsimp only at hSw); go_simp; try (with_reducible rfl))
      try simp only [Act.put, List.setIfInBounds_toArray, List.set_cons_zero, List.set_cons_succ]
      refine held_take (i := 5) (v := ?_) rfl (by kernel_rfl) (by kernel_rfl) (by kernel_rfl) (fun _ _ _ h => h) (by rfl) hHeld ?_ ?_
      rotate_left 1
      · (intro w hSw; (try dsimp only at hSw); go_simp; try (with_reducible rfl))
      try simp only [Act.put, List.setIfInBounds_toArray, List.set_cons_zero, List.set_cons_succ]
      refine held_take (i := 6) (v := ?_) rfl (by kernel_rfl) (by kernel_rfl) (by kernel_rfl) (fun _ _ _ h => h) (by rfl) hHeld ?_ ?_
      rotate_left 1
      · (intro w hSw; (try dsimp only at hSw); go_simp; try (with_reducible rfl))
      try simp only [Act.put, List.setIfInBounds_toArray, List.set_cons_zero, List.set_cons_succ]
      refine held_take (i := 7) (v := ?_) rfl (by kernel_rfl) (by kernel_rfl) (by kernel_rfl) (fun _ _ _ h => h) (by rfl) hHeld ?_ ?_
      rotate_left 1
      · (intro w hSw; (try dsimp only at hSw); go_simp; try (with_reducible rfl))
      try simp only [Act.put, List.setIfInBounds_toArray, List.set_cons_zero, List.set_cons_succ]
      refine held_take (i := 8) (v := ?_) rfl (by kernel_rfl) (by kernel_rfl) (by kernel_rfl) (fun _ _ _ h => h) (by rfl) hHeld ?_ ?_
      rotate_left 1
      · (intro w hSw; (try dsimp only at hSw); go_simp; try (with_reducible rfl))
      try simp only [Act.put, List.setIfInBounds_toArray, List.set_cons_zero, List.set_cons_succ]
      refine held_take (i := 9) (v := .agg (gC s)) rfl (by kernel_rfl) (by kernel_rfl) (by kernel_rfl) (fun _ _ _ h => h) (by rfl) hHeld (exec_load_g _ _ rfl w2.heap.size (by rfl) 25 s (fun w h => h.1) Tryd.underlying25 (by rw [hs32]; exact infoState)) ?_
      try simp only [Act.put, List.setIfInBounds_toArray, List.set_cons_zero, List.set_cons_succ]
      refine held_take (i := 10) (v := .agg (gC u)) rfl (by kernel_rfl) (by kernel_rfl) (by kernel_rfl) (fun _ _ _ h => h) (by rfl) hHeld (exec_load_g _ _ rfl w3.heap.size (by rfl) 25 u (fun w h => h.2.1) Tryd.underlying25 (by rw [hu32]; exact infoState)) ?_
      try simp only [Act.put, List.setIfInBounds_toArray, List.set_cons_zero, List.set_cons_succ]
      refine held_take (i := 11) (v := ?_) rfl (by kernel_rfl) (by kernel_rfl) (by kernel_rfl) (fun _ _ _ h => h) (by rfl) hHeld ?_ ?_
      rotate_left 1
      · (intro w hSw; (try dsimp only at hSw); go_simp; try (with_reducible rfl))
      try simp only [Act.put, List.setIfInBounds_toArray, List.set_cons_zero, List.set_cons_succ]
      refine held_take (i := 12) (v := ?_) rfl (by kernel_rfl) (by kernel_rfl) (by kernel_rfl) (fun _ _ _ h => h) (by rfl) hHeld ?_ ?_
      rotate_left 1
      · (intro w hSw; (try dsimp only at hSw); go_simp; try (with_reducible rfl))
      try simp only [Act.put, List.setIfInBounds_toArray, List.set_cons_zero, List.set_cons_succ]
      refine held_take (i := 13) (v := ?_) rfl (by kernel_rfl) (by kernel_rfl) (by kernel_rfl) (fun _ _ _ h => h) (by rfl) hHeld ?_ ?_
      rotate_left 1
      · (intro w hSw; (try dsimp only at hSw); go_simp; try (with_reducible rfl))
      try simp only [Act.put, List.setIfInBounds_toArray, List.set_cons_zero, List.set_cons_succ]
      refine held_take (i := 14) (v := ?_) rfl (by kernel_rfl) (by kernel_rfl) (by kernel_rfl) (fun _ _ _ h => h) (by rfl) hHeld ?_ ?_
      rotate_left 1
      · (intro w hSw; (try dsimp only at hSw); go_simp; try (with_reducible rfl))
      try simp only [Act.put, List.setIfInBounds_toArray, List.set_cons_zero, List.set_cons_succ]
      refine held_take (i := 15) (v := ?_) rfl (by kernel_rfl) (by kernel_rfl) (by kernel_rfl) (fun _ _ _ h => h) (by rfl) hHeld ?_ ?_
      rotate_left 1
      · (intro w hSw; (try dsimp only at hSw); go_simp; try (with_reducible rfl))
      try simp only [Act.put, List.setIfInBounds_toArray, List.set_cons_zero, List.set_cons_succ]
      refine held_take (i := 16) (v := ?_) rfl (by kernel_rfl) (by kernel_rfl) (by kernel_rfl) (fun _ _ _ h => h) (by rfl) hHeld ?_ ?_
      rotate_left 1
      · (intro w hSw; (try dsimp only at hSw); go_simp; try (with_reducible rfl))
      try simp only [Act.put, List.setIfInBounds_toArray, List.set_cons_zero, List.set_cons_succ]
      refine held_take (i := 17) (v := ?_) rfl (by kernel_rfl) (by kernel_rfl) (by kernel_rfl) (fun _ _ _ h => h) (by rfl) hHeld ?_ ?_
      rotate_left 1
      · (intro w hSw; (try dsimp only at hSw); go_simp; try (with_reducible rfl))
      try simp only [Act.put, List.setIfInBounds_toArray, List.set_cons_zero, List.set_cons_succ]
      refine held_off (i := 18) rfl (by kernel_rfl) (by kernel_rfl) (by kernel_rfl) (fun _ _ _ h => h) (by rfl) hHeld ?_
      try simp only [Act.put, List.setIfInBounds_toArray, List.set_cons_zero, List.set_cons_succ]
      refine held_off (i := 19) rfl (by kernel_rfl) (by kernel_rfl) (by kernel_rfl) (fun _ _ _ h => h) (by rfl) hHeld ?_
      try simp only [Act.put, List.setIfInBounds_toArray, List.set_cons_zero, List.set_cons_succ]
      refine held_off (i := 20) rfl (by kernel_rfl) (by kernel_rfl) (by kernel_rfl) (fun _ _ _ h => h) (by rfl) hHeld ?_
      try simp only [Act.put, List.setIfInBounds_toArray, List.set_cons_zero, List.set_cons_succ]
      refine held_off (i := 21) rfl (by kernel_rfl) (by kernel_rfl) (by kernel_rfl) (fun _ _ _ h => h) (by rfl) hHeld ?_
      try simp only [Act.put, List.setIfInBounds_toArray, List.set_cons_zero, List.set_cons_succ]
      refine held_off (i := 22) rfl (by kernel_rfl) (by kernel_rfl) (by kernel_rfl) (fun _ _ _ h => h) (by rfl) hHeld ?_
      try simp only [Act.put, List.setIfInBounds_toArray, List.set_cons_zero, List.set_cons_succ]
      refine held_take (i := 23) (v := ?_) rfl (by kernel_rfl) (by kernel_rfl) (by kernel_rfl) (fun _ _ _ h => h) (by rfl) hHeld ?_ ?_
      rotate_left 1
      · (intro w hSw; (try dsimp only at hSw); go_simp; try (with_reducible rfl))
      try simp only [Act.put, List.setIfInBounds_toArray, List.set_cons_zero, List.set_cons_succ]
      refine held_take (i := 24) (v := ?_) rfl (by kernel_rfl) (by kernel_rfl) (by kernel_rfl) (fun _ _ _ h => h) (by rfl) hHeld ?_ ?_
      rotate_left 1
      · (intro w hSw; (try dsimp only at hSw); go_simp; try (with_reducible rfl))
      try simp only [Act.put, List.setIfInBounds_toArray, List.set_cons_zero, List.set_cons_succ]
      refine held_take (i := 25) (v := ?_) rfl (by kernel_rfl) (by kernel_rfl) (by kernel_rfl) (fun _ _ _ h => h) (by rfl) hHeld ?_ ?_
      rotate_left 1
      · (intro w hSw; (try dsimp only at hSw); go_simp; try (with_reducible rfl))
      try simp only [Act.put, List.setIfInBounds_toArray, List.set_cons_zero, List.set_cons_succ]
      refine wpAnyH_done (by kernel_rfl) ?_ _
      go_wp2
      go_ret
      exact ⟨rfl, BW6.out.drew.trans (hbd.mono BW6.out.size)⟩

theorem twins_law (A : Option Addr) (l : List Int) (cap : Nat) (a v : Int) (w : World) (hT : TabW w) (hr : RG w w.heap.size A l) (hc : l.length ≤ cap) (hm : cap ≤ maxLen) (hz : ∀ z ∈ l, -2147483648 ≤ z ∧ z ≤ 2147483647) (hv : (Lit.int .i32 v).wf = true) :
    Calls Tryd.prog 4 #[.slice A l.length cap, .int .i64 a, .int .i32 v] w fun e w' => e = .returned (.bool true) ∧ Below w.heap.size w w' := by
  obtain ⟨v1, v2⟩ := bounds_i32 hv
  have h3 := Int.tmod_eq_emod (a := a) (b := 32)
  obtain ⟨m, hrm⟩ : ∃ m, a.tmod 32 = m := ⟨_, rfl⟩
  have hm12 : -32 < m ∧ m < 32 := by rw [← hrm]; split at h3 <;> omega
  have h4 := Int.tmod_eq_emod (a := m + 32) (b := 32)
  obtain ⟨n, hrn⟩ : ∃ n, (m + 32).tmod 32 = n := ⟨_, rfl⟩
  have hn12 : 0 ≤ n ∧ n < 32 := by rw [← hrn]; split at h4 <;> omega
  obtain ⟨k, rfl⟩ := Int.eq_ofNat_of_zero_le hn12.1
  have hk : k < 32 := by omega
  have hx : (ofL l)[k]? = some ((ofL l)[k]'(by rw [ofL_length]; omega)) := List.getElem?_eq_getElem _
  by_cases h : (ofL l)[k]'(by rw [ofL_length]; omega) = v
  · exact twins_same A l cap _ v k a w hT hr hc hm (ofL_bd l hz) v1 v2 m hm12.1 hm12.2 hrm hk hrn hx h
  · exact twins_diff A l cap _ v k a w hT hr hc hm (ofL_bd l hz) v1 v2 m hm12.1 hm12.2 hrm hk hrn hx h
end Go.Proofs.YtbhmageepocmcaaDoor
