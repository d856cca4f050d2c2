/- WALK: StatePages. -/
import Derived.Test.YtbhmageepocmcaaGg
import Derived.Test.YtbhmageepocmcaaGi
namespace Go.Proofs.Ytbhmageepocmcaa
open Go.RowKit
set_option linter.unusedVariables false
set_option linter.unusedSimpArgs false

/-- a game of which the last k pages are s's -/
def pt (s : List Int) (k : Nat) : List Int := zG (32 - 8 * k) ++ s.drop (32 - 8 * k)
theorem pt_length (s : List Int) (k : Nat) (hs : s.length = 32) : (pt s k).length = 32 := by unfold pt; simp [zG_length, hs]
theorem pt_zero (s : List Int) (hs : s.length = 32) : pt s 0 = zG 32 := by unfold pt; rw [List.drop_of_length_le (by omega)]; simp
theorem pt_four (s : List Int) : pt s 4 = s := by unfold pt; simp [zG]
theorem pt_math (s : List Int) (n : Nat) (hs : s.length = 32) (hn : n + 8 ≤ 32) : spl (zG (n + 8) ++ s.drop (n + 8)) n ((s.drop n).take 8) = zG n ++ s.drop n := by
  unfold spl
  rw [List.take_append_of_le_length (by rw [zG_length]; omega)]
  have h1 : (zG (n + 8)).take n = zG n := by unfold zG; rw [List.take_replicate, Nat.min_eq_left (by omega)]
  have h2 : ((s.drop n).take 8).length = 8 := by simp; omega
  have h3 : (zG (n + 8) ++ s.drop (n + 8)).drop (n + 8) = s.drop (n + 8) := by
    have : (zG (n + 8)).length = n + 8 := zG_length _
    rw [List.drop_append_of_le_length (by omega), List.drop_of_length_le (by omega)]; rfl
  rw [h1, h2, h3, List.append_assoc, ← List.drop_drop, List.take_append_drop]
theorem pt_step (s : List Int) (k : Nat) (hs : s.length = 32) (hk : k < 4) : withG (pt s k) (3 - (k : Int)) (pageG s (3 - (k : Int))) = pt s (k + 1) := by
  have hp : pgB (3 - (k : Int)) = true := by unfold pgB; simp; omega
  unfold withG pageG
  rw [hp, if_pos rfl, if_pos rfl]
  unfold pt
  have e1 : 8 * (3 - (k : Int)).toNat = 32 - 8 * (k + 1) := by omega
  have e2 : 32 - 8 * k = 32 - 8 * (k + 1) + 8 := by omega
  rw [e1, e2]
  exact pt_math s _ hs (by omega)
theorem infoGame : (Try.prog.info? 37).map (·.size) = some 32 := by kernel_rfl
theorem guardGame : Try.prog.eqGuardType Try.prog.depth 37 = false := by kernel_rfl

set_option maxHeartbeats 4000000 in
theorem pages_law (A : Option Addr) (l : List Int) (cap : Nat) (w : World) (hr : RG w w.heap.size A l) (hc : l.length ≤ cap) (hm : cap ≤ maxLen) :
    Calls Try.prog 4 #[.slice A l.length cap] w fun e w' => e = .returned (.bool true) ∧ Below w.heap.size w w' := by
  have hz := zeroState
  obtain ⟨s, hs⟩ : ∃ s, s = ofL l := ⟨_, rfl⟩
  have hs32 : s.length = 32 := by rw [hs]; exact ofL_length l
  have HO := Lib.hid (fun (w1 : World) (hr1 : RG w1 w1.heap.size A l) => hs ▸ of_any A l cap w1 hr1 hc hm)
  have HR := Lib.hid hr
  have hz32 : (zG 32).length = 32 := zG_length 32
  clear hr hc hm hs
  go_enter Try.func4, Try.ntmps4
  go_wp2_with (first
    | (go_at_call 5; refine (begun_any _).mono ?_; rintro e w1 ⟨rfl, R1⟩)
    | (go_at_call 9; refine (HO.out w1 ((HR.out.below R1).more R1.size)).mono ?_; rintro e w2 ⟨rfl, R2⟩
       have B2 := Lib.hid (R1.trans (R2.mono R1.size))
       have G3 : Hid (GA (w2.alloc (.cells (gC (zG 32)) 26)) w2.heap.size 26 (zG 32)) := Lib.hid (GA.new w2 _ _)
       have B3 := Lib.hid (B2.out.alloc B2.out.size (.cells (gC (zG 32)) 26)))
    | (with_reducible refine wpList_store_g rfl 26 (.tmp 4) (.tmp 11) rfl _ (by with_unfolding_all rfl) 26 (zG 32) s G3.out (by with_unfolding_all rfl) (by rw [hs32, hz32]) (by rw [hs32]; exact infoState) ?_; intro w3 G4 S4 R4
       have B4 := Lib.hid (B3.out.grown R4 B3.out.size (fun k hk => by have := Option.some.inj hk; have := B2.out.size; omega))
       replace G4 := Lib.hid G4
       clear G3 B3 R4 S4))
  have hb4 := G4.out.lt
  have H5 : Hid (GA (w3.alloc (.cells (gC (zG 32)) 26)) w3.heap.size 26 (zG 32)) := Lib.hid (GA.new w3 _ _)
  have H4 := Lib.hid (G4.out.alloc (.cells (gC (zG 32)) 26))
  have HB := Lib.hid (B4.out.alloc B4.out.size (.cells (gC (zG 32)) 26))
  have hw2 : w.heap.size ≤ w2.heap.size := B2.out.size
  have hw3 : w.heap.size ≤ w3.heap.size := B4.out.size
  have hne : w2.heap.size ≠ w3.heap.size := by omega
  clear hz G4 B4 B2 R2 R1
  go_loopw [6] (fun i wr => ∃ k : Nat, ∃ z : Int, i = .int .i64 z ∧ k ≤ 4 ∧ -1 ≤ z ∧ z ≤ 3 ∧ Hid (z = 3 - (k : Int)) ∧ Hid (GA wr w2.heap.size 26 s) ∧ Hid (GA wr w3.heap.size 26 (pt s k)) ∧ Hid (Below w.heap.size w wr)) (fun i _ => (intOf i + 1).toNat)
  case atStart => exact ⟨0, 3, rfl, by omega, by omega, by omega, by unfold Hid; omega, H4, by rw [pt_zero s hs32]; exact H5, HB⟩
  case round =>
    obtain ⟨k, z, rfl, hk, hz1, hz2, HZ, G4, G5, HBr⟩ := hrel
    by_cases h0 : 0 ≤ z
    · have hk4 : k < 4 := by have := HZ.out; omega
      obtain ⟨cur, hcur⟩ : ∃ cur, cur = pt s k := ⟨_, rfl⟩
      have hc32 : cur.length = 32 := by rw [hcur]; exact pt_length s k hs32
      obtain ⟨p, hp⟩ : ∃ p, p = pageG s z := ⟨_, rfl⟩
      have hp8 : p.length = 8 := by rw [hp]; exact pageG_length s z hs32
      obtain ⟨nx, hnx⟩ : ∃ nx, nx = pt s (k + 1) := ⟨_, rfl⟩
      have hn32 : nx.length = 32 := by rw [hnx]; exact pt_length s _ hs32
      have hst : withG cur z p = nx := by rw [hcur, hp, hnx, HZ.out]; exact pt_step s k hs32 hk4
      have KP := Lib.hid (fun w => hp ▸ page_any s z w hs32)
      have KW := Lib.hid (fun w => hst ▸ with_any cur p z w hc32 hp8)
      rw [← hcur] at G5
      have HN := Lib.hid hnx
      clear hcur hp hnx hst hk4
      have hb5 := G5.out.lt
      have hb4' := G4.out.lt
      have hbc : Below wr.heap.size wr.drew wr.drew := Below.refl _ _
      go_wp2_with fail
      refine wp_region_held_drew (S := (fun w' => GA w' w2.heap.size 26 s)) (by kernel_rfl) (G4.out.drew) (fun hHeld => ?_)
      refine held_take (i := 1) (v := ?_) rfl (by kernel_rfl) (by kernel_rfl) (by kernel_rfl) (fun _ _ _ h => h) (by rfl) hHeld ?_ ?_
      rotate_left 1
      · (intro w hSw; (try dsimp only at hSw); go_simp; try (with_reducible rfl))
      try simp only [Act.put, List.setIfInBounds_toArray, List.set_cons_zero, List.set_cons_succ]
      refine held_take (i := 2) (v := .agg (gC s)) rfl (by kernel_rfl) (by kernel_rfl) (by kernel_rfl) (fun _ _ _ h => h) (by rfl) hHeld (exec_load_g _ _ rfl w2.heap.size (by rfl) 26 s (fun w h => h) Try.underlying26 (by rw [hs32]; exact infoState)) ?_
      try simp only [Act.put, List.setIfInBounds_toArray, List.set_cons_zero, List.set_cons_succ]
      refine held_take (i := 3) (v := ?_) rfl (by kernel_rfl) (by kernel_rfl) (by kernel_rfl) (fun _ _ _ h => h) (by rfl) hHeld ?_ ?_
      rotate_left 1
      · (intro w hSw; (try dsimp only at hSw); go_simp; try (with_reducible rfl))
      try simp only [Act.put, List.setIfInBounds_toArray, List.set_cons_zero, List.set_cons_succ]
      refine held_two (i := 0) (j := 4) rfl rfl (by kernel_rfl) (by rfl) (by rfl) (fun K hK => ?_) (fun K hK => ?_)
      · refine wp_load_g _ _ rfl w3.heap.size (by rfl) 26 cur (G5.out.drew.below hbc hb5) Try.underlying26 (by rw [hc32]; exact infoState) ?_
        refine hK.out _ _ (G4.out.drew.below hbc hb4') (fun hHeld2 => ?_)
        clear hK K hHeld; have hHeld := hHeld2; clear hHeld2
        try simp only [Act.put, List.setIfInBounds_toArray, List.set_cons_zero, List.set_cons_succ]
        refine held_one (i := 4) rfl (by kernel_rfl) (by rfl) (fun K hK => ?_)
        go_simp
        refine (KP.out _).mono ?_
        rintro e w5 ⟨rfl, R5⟩
        replace hbc := hbc.trans (R5.mono hbc.size)
        refine hK.out _ _ (G4.out.drew.below hbc hb4') (fun hHeld2 => ?_)
        clear hK K hHeld; have hHeld := hHeld2; clear hHeld2
        try simp only [Act.put, List.setIfInBounds_toArray, List.set_cons_zero, List.set_cons_succ]
        refine held_one (i := 5) rfl (by kernel_rfl) (by rfl) (fun K hK => ?_)
        go_simp
        refine (KW.out _).mono ?_
        rintro e w5 ⟨rfl, R5⟩
        replace hbc := hbc.trans (R5.mono hbc.size)
        refine hK.out _ _ (G4.out.drew.below hbc hb4') (fun hHeld2 => ?_)
        clear hK K hHeld; have hHeld := hHeld2; clear hHeld2
        try simp only [Act.put, List.setIfInBounds_toArray, List.set_cons_zero, List.set_cons_succ]
        refine held_one (i := 6) rfl (by kernel_rfl) (by rfl) (fun K hK => ?_)
        refine wp_store_g _ _ _ rfl w3.heap.size (by rfl) 26 cur nx (G5.out.drew.below hbc hb5) (by rfl) (by rw [hn32, hc32]) (by rw [hn32]; exact infoState) ?_
        intro w7 G7 S7 R7
        refine hK.out _ _ (GA.grown (G4.out.drew.below hbc hb4') R7 (by simp; omega)) (fun hHeld2 => ?_)
        clear hK K hHeld; have hHeld := hHeld2; clear hHeld2
        try simp only [Act.put, List.setIfInBounds_toArray, List.set_cons_zero, List.set_cons_succ]
        refine wpAnyH_done (by kernel_rfl) ?_ _
        go_wp2
        go_round
        case rel => exact ⟨k + 1, z - 1, by go_num, by have := HZ.out; omega, by omega, by omega, by unfold Hid; have := HZ.out; omega, Lib.hid hHeld, by rw [← HN.out]; exact Lib.hid G7, (HBr.out.drew.trans (hbc.mono HBr.out.size)).grown R7 (Nat.le_trans HBr.out.size hbc.size) (fun j hj => by have := Option.some.inj hj; omega)⟩
        case measure => simp [intOf]; omega
      · go_simp
        refine (KP.out _).mono ?_
        rintro e w5 ⟨rfl, R5⟩
        replace hbc := hbc.trans (R5.mono hbc.size)
        refine hK.out _ _ (G4.out.drew.below hbc hb4') (fun hHeld2 => ?_)
        clear hK K hHeld; have hHeld := hHeld2; clear hHeld2
        try simp only [Act.put, List.setIfInBounds_toArray, List.set_cons_zero, List.set_cons_succ]
        refine held_one (i := 0) rfl (by kernel_rfl) (by rfl) (fun K hK => ?_)
        refine wp_load_g _ _ rfl w3.heap.size (by rfl) 26 cur (G5.out.drew.below hbc hb5) Try.underlying26 (by rw [hc32]; exact infoState) ?_
        refine hK.out _ _ (G4.out.drew.below hbc hb4') (fun hHeld2 => ?_)
        clear hK K hHeld; have hHeld := hHeld2; clear hHeld2
        try simp only [Act.put, List.setIfInBounds_toArray, List.set_cons_zero, List.set_cons_succ]
        refine held_one (i := 5) rfl (by kernel_rfl) (by rfl) (fun K hK => ?_)
        go_simp
        refine (KW.out _).mono ?_
        rintro e w5 ⟨rfl, R5⟩
        replace hbc := hbc.trans (R5.mono hbc.size)
        refine hK.out _ _ (G4.out.drew.below hbc hb4') (fun hHeld2 => ?_)
        clear hK K hHeld; have hHeld := hHeld2; clear hHeld2
        try simp only [Act.put, List.setIfInBounds_toArray, List.set_cons_zero, List.set_cons_succ]
        refine held_one (i := 6) rfl (by kernel_rfl) (by rfl) (fun K hK => ?_)
        refine wp_store_g _ _ _ rfl w3.heap.size (by rfl) 26 cur nx (G5.out.drew.below hbc hb5) (by rfl) (by rw [hn32, hc32]) (by rw [hn32]; exact infoState) ?_
        intro w7 G7 S7 R7
        refine hK.out _ _ (GA.grown (G4.out.drew.below hbc hb4') R7 (by simp; omega)) (fun hHeld2 => ?_)
        clear hK K hHeld; have hHeld := hHeld2; clear hHeld2
        try simp only [Act.put, List.setIfInBounds_toArray, List.set_cons_zero, List.set_cons_succ]
        refine wpAnyH_done (by kernel_rfl) ?_ _
        go_wp2
        go_round
        case rel => exact ⟨k + 1, z - 1, by go_num, by have := HZ.out; omega, by omega, by omega, by unfold Hid; have := HZ.out; omega, Lib.hid hHeld, by rw [← HN.out]; exact Lib.hid G7, (HBr.out.drew.trans (hbc.mono HBr.out.size)).grown R7 (Nat.le_trans HBr.out.size hbc.size) (fun j hj => by have := Option.some.inj hj; omega)⟩
        case measure => simp [intOf]; omega
    · have hk4 : k = 4 := by have := HZ.out; omega
      have G5' : Hid (GA wr w3.heap.size 26 s) := by have := G5.out; rw [hk4, pt_four] at this; exact this
      clear G5 HZ
      have hb5 := G5'.out.lt
      have hb4' := G4.out.lt
      have hbc : Below wr.heap.size wr.drew wr.drew := Below.refl _ _
      obtain ⟨p, hp⟩ : ∃ p, p = pageG s 0 := ⟨_, rfl⟩
      have hp8 : p.length = 8 := by rw [hp]; exact pageG_length s 0 hs32
      have K0 := Lib.hid (fun w => hp ▸ page_any s 0 w hs32)
      have K4 : Hid (∀ w, Calls Try.prog 11 #[.agg (gC s), .int .i64 4] w fun e w' => e = .returned (.agg (gC (zG 8))) ∧ Below w.heap.size w w') := Lib.hid (fun w => page_any s 4 w hs32)
      have K1 : Hid (∀ w, Calls Try.prog 11 #[.agg (gC s), .int .i64 (-1)] w fun e w' => e = .returned (.agg (gC (zG 8))) ∧ Below w.heap.size w w') := Lib.hid (fun w => page_any s (-1) w hs32)
      have KW : Hid (∀ w, Calls Try.prog 10 #[.agg (gC s), .int .i64 4, .agg (gC p)] w fun e w' => e = .returned (.agg (gC s)) ∧ Below w.heap.size w w') := Lib.hid (fun w => with_any s p 4 w hs32 hp8)
      have hx0 : ∀ w, (Instr.index 35 (.agg (gC (zG 8))) (.int .i64 0)).run Try.prog w = .ok (.int .i32 0) w := fun w => index_g (P := Try.prog) 35 (zG 8) Try.underlying35 Try.underlying21 rfl infoCell 0 (by rw [zG_length]; omega) (zG_length 8) w
      have hx7 : ∀ w, (Instr.index 35 (.agg (gC (zG 8))) (.int .i64 7)).run Try.prog w = .ok (.int .i32 0) w := fun w => index_g (P := Try.prog) 35 (zG 8) Try.underlying35 Try.underlying21 rfl infoCell 7 (by rw [zG_length]; omega) (zG_length 8) w
      have heq : ∀ w, (Op.equalIn 10000 37 (.agg (gC s)) (.agg (gC s))).run Try.prog w = .ok true w := fun w => by
        rw [equalIn_g (P := Try.prog) 37 Try.underlying37 Try.underlying21 infoCell s s hs32 hs32 w, decide_eq_true rfl]
      have hgd := guardGame
      clear hp
      go_wp2_with fail
      refine wp_region_held_drew (S := (fun w' => GA w' w2.heap.size 26 s ∧ GA w' w3.heap.size 26 s)) (by kernel_rfl) (⟨G4.out.drew, G5'.out.drew⟩) (fun hHeld => ?_)
      refine held_take (i := 0) (v := .agg (gC s)) rfl (by kernel_rfl) (by kernel_rfl) (by kernel_rfl) (fun _ _ _ h => h) (by rfl) hHeld (exec_load_g _ _ rfl w2.heap.size (by rfl) 26 s (fun w h => h.1) Try.underlying26 (by rw [hs32]; exact infoState)) ?_
      try simp only [Act.put, List.setIfInBounds_toArray, List.set_cons_zero, List.set_cons_succ]
      refine held_take (i := 1) (v := .agg (gC s)) rfl (by kernel_rfl) (by kernel_rfl) (by kernel_rfl) (fun _ _ _ h => h) (by rfl) hHeld (exec_load_g _ _ rfl w3.heap.size (by rfl) 26 s (fun w h => h.2) Try.underlying26 (by rw [hs32]; exact infoState)) ?_
      try simp only [Act.put, List.setIfInBounds_toArray, List.set_cons_zero, List.set_cons_succ]
      refine held_take (i := 2) (v := ?_) rfl (by kernel_rfl) (by kernel_rfl) (by kernel_rfl) (fun _ _ _ h => h) (by rfl) hHeld ?_ ?_
      rotate_left 1
      · (intro w hSw; (try dsimp only at hSw); go_simp; try (with_reducible rfl))
      try simp only [Act.put, List.setIfInBounds_toArray, List.set_cons_zero, List.set_cons_succ]
      refine held_take (i := 3) (v := ?_) rfl (by kernel_rfl) (by kernel_rfl) (by kernel_rfl) (fun _ _ _ h => h) (by rfl) hHeld ?_ ?_
      rotate_left 1
      · (intro w hSw; (try dsimp only at hSw); go_simp; try (with_reducible rfl))
      try simp only [Act.put, List.setIfInBounds_toArray, List.set_cons_zero, List.set_cons_succ]
      refine held_take (i := 4) (v := .agg (gC s)) rfl (by kernel_rfl) (by kernel_rfl) (by kernel_rfl) (fun _ _ _ h => h) (by rfl) hHeld (exec_load_g _ _ rfl w2.heap.size (by rfl) 26 s (fun w h => h.1) Try.underlying26 (by rw [hs32]; exact infoState)) ?_
      try simp only [Act.put, List.setIfInBounds_toArray, List.set_cons_zero, List.set_cons_succ]
      refine held_one (i := 5) rfl (by kernel_rfl) (by rfl) (fun K hK => ?_)
      go_simp
      refine (K4.out _).mono ?_
      rintro e w5 ⟨rfl, R5⟩
      replace hbc := hbc.trans (R5.mono hbc.size)
      refine hK.out _ _ (⟨G4.out.drew.below hbc hb4', G5'.out.drew.below hbc hb5⟩) (fun hHeld2 => ?_)
      clear hK K hHeld; have hHeld := hHeld2; clear hHeld2
      try simp only [Act.put, List.setIfInBounds_toArray, List.set_cons_zero, List.set_cons_succ]
      refine held_take (i := 6) (v := ?_) rfl (by kernel_rfl) (by kernel_rfl) (by kernel_rfl) (fun _ _ _ h => h) (by rfl) hHeld ?_ ?_
      rotate_left 1
      · (intro w hSw; (try dsimp only at hSw); go_simp; try (with_reducible rfl))
      try simp only [Act.put, List.setIfInBounds_toArray, List.set_cons_zero, List.set_cons_succ]
      refine held_take (i := 7) (v := ?_) rfl (by kernel_rfl) (by kernel_rfl) (by kernel_rfl) (fun _ _ _ h => h) (by rfl) hHeld ?_ ?_
      rotate_left 1
      · (intro w hSw; (try dsimp only at hSw); go_simp; try (with_reducible rfl))
      try simp only [Act.put, List.setIfInBounds_toArray, List.set_cons_zero, List.set_cons_succ]
      refine held_take (i := 8) (v := ?_) rfl (by kernel_rfl) (by kernel_rfl) (by kernel_rfl) (fun _ _ _ h => h) (by rfl) hHeld ?_ ?_
      rotate_left 1
      · (intro w hSw; (try dsimp only at hSw); go_simp; try (with_reducible rfl))
      try simp only [Act.put, List.setIfInBounds_toArray, List.set_cons_zero, List.set_cons_succ]
      refine held_take (i := 9) (v := ?_) rfl (by kernel_rfl) (by kernel_rfl) (by kernel_rfl) (fun _ _ _ h => h) (by rfl) hHeld ?_ ?_
      rotate_left 1
      · (intro w hSw; (try dsimp only at hSw); go_simp; try (with_reducible rfl))
      try simp only [Act.put, List.setIfInBounds_toArray, List.set_cons_zero, List.set_cons_succ]
      refine held_take (i := 10) (v := .agg (gC s)) rfl (by kernel_rfl) (by kernel_rfl) (by kernel_rfl) (fun _ _ _ h => h) (by rfl) hHeld (exec_load_g _ _ rfl w2.heap.size (by rfl) 26 s (fun w h => h.1) Try.underlying26 (by rw [hs32]; exact infoState)) ?_
      try simp only [Act.put, List.setIfInBounds_toArray, List.set_cons_zero, List.set_cons_succ]
      refine held_one (i := 11) rfl (by kernel_rfl) (by rfl) (fun K hK => ?_)
      go_simp
      refine (K1.out _).mono ?_
      rintro e w5 ⟨rfl, R5⟩
      replace hbc := hbc.trans (R5.mono hbc.size)
      refine hK.out _ _ (⟨G4.out.drew.below hbc hb4', G5'.out.drew.below hbc hb5⟩) (fun hHeld2 => ?_)
      clear hK K hHeld; have hHeld := hHeld2; clear hHeld2
      try simp only [Act.put, List.setIfInBounds_toArray, List.set_cons_zero, List.set_cons_succ]
      refine held_take (i := 12) (v := ?_) rfl (by kernel_rfl) (by kernel_rfl) (by kernel_rfl) (fun _ _ _ h => h) (by rfl) hHeld ?_ ?_
      rotate_left 1
      · (intro w hSw; (try dsimp only at hSw); go_simp; try (with_reducible rfl))
      try simp only [Act.put, List.setIfInBounds_toArray, List.set_cons_zero, List.set_cons_succ]
      refine held_take (i := 13) (v := ?_) rfl (by kernel_rfl) (by kernel_rfl) (by kernel_rfl) (fun _ _ _ h => h) (by rfl) hHeld ?_ ?_
      rotate_left 1
      · (intro w hSw; (try dsimp only at hSw); go_simp; try (with_reducible rfl))
      try simp only [Act.put, List.setIfInBounds_toArray, List.set_cons_zero, List.set_cons_succ]
      refine held_take (i := 14) (v := ?_) rfl (by kernel_rfl) (by kernel_rfl) (by kernel_rfl) (fun _ _ _ h => h) (by rfl) hHeld ?_ ?_
      rotate_left 1
      · (intro w hSw; (try dsimp only at hSw); go_simp; try (with_reducible rfl))
      try simp only [Act.put, List.setIfInBounds_toArray, List.set_cons_zero, List.set_cons_succ]
      refine held_take (i := 15) (v := ?_) rfl (by kernel_rfl) (by kernel_rfl) (by kernel_rfl) (fun _ _ _ h => h) (by rfl) hHeld ?_ ?_
      rotate_left 1
      · (intro w hSw; (try dsimp only at hSw); go_simp; try (with_reducible rfl))
      try simp only [Act.put, List.setIfInBounds_toArray, List.set_cons_zero, List.set_cons_succ]
      refine held_take (i := 16) (v := .agg (gC s)) rfl (by kernel_rfl) (by kernel_rfl) (by kernel_rfl) (fun _ _ _ h => h) (by rfl) hHeld (exec_load_g _ _ rfl w2.heap.size (by rfl) 26 s (fun w h => h.1) Try.underlying26 (by rw [hs32]; exact infoState)) ?_
      try simp only [Act.put, List.setIfInBounds_toArray, List.set_cons_zero, List.set_cons_succ]
      refine held_take (i := 17) (v := .agg (gC s)) rfl (by kernel_rfl) (by kernel_rfl) (by kernel_rfl) (fun _ _ _ h => h) (by rfl) hHeld (exec_load_g _ _ rfl w2.heap.size (by rfl) 26 s (fun w h => h.1) Try.underlying26 (by rw [hs32]; exact infoState)) ?_
      try simp only [Act.put, List.setIfInBounds_toArray, List.set_cons_zero, List.set_cons_succ]
      refine held_take (i := 20) (v := .agg (gC s)) rfl (by kernel_rfl) (by kernel_rfl) (by kernel_rfl) (fun _ _ _ h => h) (by rfl) hHeld (exec_load_g _ _ rfl w2.heap.size (by rfl) 26 s (fun w h => h.1) Try.underlying26 (by rw [hs32]; exact infoState)) ?_
      try simp only [Act.put, List.setIfInBounds_toArray, List.set_cons_zero, List.set_cons_succ]
      refine held_one (i := 18) rfl (by kernel_rfl) (by rfl) (fun K hK => ?_)
      go_simp
      refine (K0.out _).mono ?_
      rintro e w5 ⟨rfl, R5⟩
      replace hbc := hbc.trans (R5.mono hbc.size)
      refine hK.out _ _ (⟨G4.out.drew.below hbc hb4', G5'.out.drew.below hbc hb5⟩) (fun hHeld2 => ?_)
      clear hK K hHeld; have hHeld := hHeld2; clear hHeld2
      try simp only [Act.put, List.setIfInBounds_toArray, List.set_cons_zero, List.set_cons_succ]
      refine held_one (i := 19) rfl (by kernel_rfl) (by rfl) (fun K hK => ?_)
      go_simp
      refine (KW.out _).mono ?_
      rintro e w5 ⟨rfl, R5⟩
      replace hbc := hbc.trans (R5.mono hbc.size)
      refine hK.out _ _ (⟨G4.out.drew.below hbc hb4', G5'.out.drew.below hbc hb5⟩) (fun hHeld2 => ?_)
      clear hK K hHeld; have hHeld := hHeld2; clear hHeld2
      try simp only [Act.put, List.setIfInBounds_toArray, List.set_cons_zero, List.set_cons_succ]
      refine held_take (i := 21) (v := ?_) rfl (by kernel_rfl) (by kernel_rfl) (by kernel_rfl) (fun _ _ _ h => h) (by rfl) hHeld ?_ ?_
      rotate_left 1
      · (intro w hSw; (try dsimp only at hSw); go_simp; try (with_reducible rfl))
      try simp only [Act.put, List.setIfInBounds_toArray, List.set_cons_zero, List.set_cons_succ]
      refine held_take (i := 22) (v := ?_) rfl (by kernel_rfl) (by kernel_rfl) (by kernel_rfl) (fun _ _ _ h => h) (by rfl) hHeld ?_ ?_
      rotate_left 1
      · (intro w hSw; (try dsimp only at hSw); go_simp; try (with_reducible rfl))
      try simp only [Act.put, List.setIfInBounds_toArray, List.set_cons_zero, List.set_cons_succ]
      refine held_take (i := 23) (v := ?_) rfl (by kernel_rfl) (by kernel_rfl) (by kernel_rfl) (fun _ _ _ h => h) (by rfl) hHeld ?_ ?_
      rotate_left 1
      · (intro w hSw; (try dsimp only at hSw); go_simp; try (with_reducible rfl))
      try simp only [Act.put, List.setIfInBounds_toArray, List.set_cons_zero, List.set_cons_succ]
      refine wpAnyH_done (by kernel_rfl) ?_ _
      go_wp2
      go_ret
      exact ⟨rfl, HBr.out.drew.trans (hbc.mono HBr.out.size)⟩
end Go.Proofs.Ytbhmageepocmcaa
