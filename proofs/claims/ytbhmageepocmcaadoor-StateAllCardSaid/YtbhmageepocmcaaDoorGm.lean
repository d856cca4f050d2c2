/- WALK: StateAll. -/
import Derived.Test.YtbhmageepocmcaaDoorGk
import Derived.Test.YtbhmageepocmcaaDoorKc
import Derived.OpenShut
namespace Go.Proofs.YtbhmageepocmcaaDoor
open Go.RowKit
set_option linter.unusedVariables false
set_option linter.unusedSimpArgs false

theorem zeroGame (w : World) : (zeroValue 27).run Tryd.prog w = .ok (.agg (gC (zG 32))) w :=
  (zero_of_info (P := Tryd.prog) (t := 27) (v := .agg (gC (zG 32))) (n := 32) (by kernel_rfl)).1 w
theorem ofL_bd' (l : List Int) (h : ∀ z ∈ l, -2147483648 ≤ z ∧ z ≤ 2147483647) : Bd (ofL l) := fun x hx => by
  unfold ofL at hx
  rcases List.mem_append.1 hx with h1 | h1
  · exact h x (List.mem_of_mem_take h1)
  · rw [(List.mem_replicate.1 h1).2]; omega
theorem fresh {w w' : World} {o : Obj} (h : (w.alloc o).grownBy w' (some w.heap.size)) : Below w.heap.size w w' :=
  ((Below.refl w.heap.size w).alloc (Nat.le_refl _) o).grown h (by simp) (fun k e => by have := Option.some.inj e; omega)
theorem pageG_in (s : List Int) (n r : Nat) (hs : s.length = 32) (hn : n < 4) (hr : r < 8) : (pageG s (n : Int))[r]? = s[8 * n + r]? := by
  have hp : pgB (n : Int) = true := by unfold pgB; simp; omega
  unfold pageG
  rw [hp, if_pos rfl, List.getElem?_take, if_pos hr, List.getElem?_drop, Int.toNat_natCast]
theorem pageG_out (s : List Int) (i : Int) (r : Nat) (hi : pgB i = false) (hr : r < 8) : (pageG s i)[r]? = some 0 := by
  unfold pageG
  rw [hi, if_neg (by simp)]
  unfold zG; rw [List.getElem?_replicate, if_pos hr]
theorem withG_out (s p : List Int) (j : Int) (k : Nat) (hs : s.length = 32) (hp : p.length = 8) (h : pgB j = false ∨ ((k / 8 : Nat) : Int) ≠ j) : (withG s j p)[k]? = s[k]? := by
  unfold withG
  by_cases hj : pgB j = true
  · rw [if_pos hj]
    have hne : ((k / 8 : Nat) : Int) ≠ j := by rcases h with h | h <;> simp_all
    have hb := hj; unfold pgB at hb; simp at hb
    unfold spl
    rw [hp, List.append_assoc]
    by_cases h1 : k < 8 * j.toNat
    · rw [List.getElem?_append_left (by simp; omega), List.getElem?_take, if_pos h1]
    · rw [List.getElem?_append_right (by simp; omega), List.getElem?_append_right (by simp; omega), List.getElem?_drop]
      congr 1
      simp; omega
  · rw [if_neg hj]
theorem withG_in (s p : List Int) (q k : Nat) (hs : s.length = 32) (hp : p.length = 8) (hq : q < 4) (h : k / 8 = q) : (withG s (q : Int) p)[k]? = p[k % 8]? := by
  have hj : pgB (q : Int) = true := by unfold pgB; simp; omega
  unfold withG
  rw [hj, if_pos rfl]
  unfold spl
  rw [List.append_assoc, List.getElem?_append_right (by simp; omega), List.getElem?_append_left (by simp; omega)]
  congr 1
  simp; omega

set_option maxHeartbeats 8000000 in
theorem all_law (A : Option Addr) (l : List Int) (cap : Nat) (i j : Int) (w : World) (hT : TabW w) (hr : RG w w.heap.size A l) (hc : l.length ≤ cap) (hm : cap ≤ maxLen) (hzz : ∀ z ∈ l, -2147483648 ≤ z ∧ z ≤ 2147483647) :
    Calls Tryd.prog 3 #[.slice A l.length cap, .int .i64 i, .int .i64 j] w fun e w' => e = .returned (.bool true) ∧ Below w.heap.size w w' := by
  have hz := zeroState
  have hzg := zeroGame
  have hzp := zeroPage
  have hbd := ofL_bd' l hzz
  obtain ⟨s, hs⟩ : ∃ s, s = ofL l := ⟨_, rfl⟩
  have hs32 : s.length = 32 := by rw [hs]; exact ofL_length l
  have HO := Lib.hid (fun (w1 : World) (hr1 : RG w1 w1.heap.size A l) => hs ▸ of_any A l cap w1 hr1 hc hm)
  rw [← hs] at hbd
  have HR := Lib.hid hr; have HT := Lib.hid hT
  have hz32 : (zG 32).length = 32 := zG_length 32
  have hz8 : (zG 8).length = 8 := zG_length 8
  obtain ⟨L, hL⟩ : ∃ L, L = encG s := ⟨_, rfl⟩
  have HA1 : Hid (encG s = L) := Lib.hid hL.symm
  have HL1 : Hid (L.length = 128) := Lib.hid (by rw [hL, encG_length, hs32])
  have HL3 : Hid (decG L = s) := Lib.hid (by rw [hL]; exact decG_encG s hs32 hbd)
  obtain ⟨p, hp⟩ : ∃ p, p = pageG s i := ⟨_, rfl⟩
  have hp8 : p.length = 8 := by rw [hp]; exact pageG_length s i hs32
  obtain ⟨u, hu⟩ : ∃ u, u = withG s j p := ⟨_, rfl⟩
  have hu32 : u.length = 32 := by rw [hu]; exact withG_length s j p hs32 hp8
  have HP := Lib.hid hp; have HU := Lib.hid hu
  have KE := Lib.hid (fun w => encode_any s w hs32 hbd)
  have KB := Lib.hid (fun w => refbytes_any s w hs32 hbd)
  have KS : Hid (∀ w, TabW w → Calls Tryd.prog 10 #[.agg (gC s)] w fun e w' => e = .returned (.int .u32 (tn (sumL L))) ∧ Below w.heap.size w w') := Lib.hid (fun w h => hL ▸ gsum_any s w hs32 hbd h)
  have KR : Hid (∀ w, Calls Tryd.prog 11 #[.agg (gC s)] w fun e w' => e = .returned (.int .u32 (tn (sumL L))) ∧ Below w.heap.size w w') := Lib.hid (fun w => hL ▸ refsumof_any s w hs32 hbd)
  have KP := Lib.hid (fun w => hp ▸ page_any s i w hs32)
  have KW := Lib.hid (fun w => hu ▸ with_any s p j w hs32 hp8)
  clear hr hc hm hs hbd hT hzz hL hp hu
  go_enter Tryd.func3, Tryd.ntmps3
  go_wp2_with (first
    | (go_at_call 5; refine (begun_any _).mono ?_; rintro e w1 ⟨rfl, R1⟩)
    | (go_at_call 6; refine (HO.out w1 ((HR.out.below R1).more R1.size)).mono ?_; rintro e w2 ⟨rfl, R2⟩
       have B2 := Lib.hid (R1.trans (R2.mono R1.size))
       have hw2 : w.heap.size ≤ w2.heap.size := B2.out.size
       have G3 : Hid (GA (w2.alloc (.cells (gC (zG 32)) 25)) w2.heap.size 25 (zG 32)) := Lib.hid (GA.new w2 _ _))
    | (with_reducible refine wpList_store_g rfl 25 (.tmp 8) (.tmp 21) rfl _ (by with_unfolding_all rfl) 25 (zG 32) s G3.out (by with_unfolding_all rfl) (by rw [hs32, hz32]) (by rw [hs32]; exact infoState) ?_; intro w3 G4 S4 R4
       have B4 := Lib.hid (B2.out.trans ((fresh R4).mono hw2))
       have h83 := G4.lt
       replace G4 := Lib.hid G4
       have hw3 : w.heap.size ≤ w3.heap.size := B4.out.size
       have G5 : Hid (GA (w3.alloc (.cells (gC (zG 32)) 27)) w3.heap.size 27 (zG 32)) := Lib.hid (GA.new w3 _ _)
       clear G3 R4 S4)
    | (with_reducible refine wpList_load_g rfl 25 (.tmp 8) rfl _ (by with_unfolding_all rfl) 25 s G4.out Tryd.underlying25 (by rw [hs32]; exact infoState) ?_)
    | (with_reducible refine wpList_store_g rfl 27 (.tmp 9) (.tmp 22) rfl _ (by with_unfolding_all rfl) 27 (zG 32) s G5.out (by with_unfolding_all rfl) (by rw [hs32, hz32]) (by rw [hs32]; exact infoGame) ?_; intro w4 G7 S7 R7
       have F7 := fresh R7
       have B7 := Lib.hid (B4.out.trans (F7.mono hw3))
       have G8 := Lib.hid (G4.out.below F7 h83)
       have h94 := G7.lt
       have h84 := G8.out.lt
       replace G7 := Lib.hid G7
       clear G5 G4 R7 S7 F7)
    | (with_reducible refine wpList_load_g rfl 25 (.tmp 8) rfl _ (by with_unfolding_all rfl) 25 s G8.out Tryd.underlying25 (by rw [hs32]; exact infoState) ?_)
    | (go_at_call 7; refine (KE.out _).mono ?_; rintro e w5 ⟨v5, rfl, O5, R5⟩
       rw [HA1.out] at O5
       obtain ⟨b10, cap10, rfl, q1, q2, q3, q4, q5, q6⟩ := OB.row O5 HL1.out (by omega)
       have B8 := Lib.hid (B7.out.trans (R5.mono B7.out.size))
       have M8 := Lib.hid (G8.out.below R5 h84)
       have M9 := Lib.hid (G7.out.below R5 h94)
       have h85 := M8.out.lt
       have h95 := M9.out.lt
       have HD := Lib.hid (decode_good (some ⟨b10, 0, none⟩) L cap10 w5 q5 q3 q4 HL1.out)
       have HRB := Lib.hid q5
       clear O5 q5 q6 G7 G8)
    | (go_at_call 8; refine HD.out.mono ?_; rintro e w6 ⟨rfl, R6⟩
       rw [HL3.out]
       have B9 := Lib.hid (B8.out.trans (R6.mono B8.out.size))
       have N8 := Lib.hid (M8.out.below R6 h85)
       have N9 := Lib.hid (M9.out.below R6 h95)
       have h86 := N8.out.lt
       have h96 := N9.out.lt
       have hs56 : w5.heap.size ≤ w6.heap.size := R6.size
       have HRB6 := Lib.hid (HRB.out.below R6)
       have hw6 : w.heap.size ≤ w6.heap.size := B9.out.size
       have G11 : Hid (GA (w6.alloc (.cells (gC (zG 32)) 25)) w6.heap.size 25 (zG 32)) := Lib.hid (GA.new w6 _ _)
       clear M8 M9 HD R6 HRB)
    | (with_reducible refine wpList_store_g rfl 25 (.tmp 11) (.tmp 28) rfl _ (by with_unfolding_all rfl) 25 (zG 32) s G11.out (by with_unfolding_all rfl) (by rw [hs32, hz32]) (by rw [hs32]; exact infoState) ?_; intro w7 G12 S12 R12
       have F12 := fresh R12
       have B12 := Lib.hid (B9.out.trans (F12.mono hw6))
       have J8 := Lib.hid (N8.out.below F12 h86)
       have J9 := Lib.hid (N9.out.below F12 h96)
       have JB := Lib.hid ((HRB6.out.below (F12.mono hs56)))
       replace G12 := Lib.hid G12
       clear G11 N8 N9 R12 S12 F12 HRB6))
  have h87 := J8.out.lt
  have h97 := J9.out.lt
  have h117 := G12.out.lt
  have hs57 : w5.heap.size ≤ w7.heap.size := by omega
  have hbc : Below w7.heap.size w7.drew w7.drew := Below.refl _ _
  refine wp_region_held_drew (S := (fun w' => GA w' w2.heap.size 25 s ∧ GA w' w3.heap.size 27 s ∧ GA w' w6.heap.size 25 s ∧ (convert 28 9 (.slice (some ⟨b10, 0, none⟩) 128 cap10)).run Tryd.prog w' = .ok (.string (str L)) w')) (by kernel_rfl) (⟨J8.out.drew, J9.out.drew, G12.out.drew, conv_bytes w7.drew b10 0 cap10 L _ JB.out 128 HL1.out⟩) (fun hHeld => ?_)
  refine held_take (i := 0) (v := ?_) rfl (by kernel_rfl) (by kernel_rfl) (by kernel_rfl) (fun _ _ _ h => h) (by rfl) hHeld ?_ ?_
  rotate_left 1
  · (intro w hSw; (try dsimp only at hSw); go_simp; try (with_reducible rfl))
  try simp only [Act.put, List.setIfInBounds_toArray, List.set_cons_zero, List.set_cons_succ]
  refine held_take (i := 1) (v := ?_) rfl (by kernel_rfl) (by kernel_rfl) (by kernel_rfl) (fun _ _ _ h => h) (by rfl) hHeld ?_ ?_
  rotate_left 1
  · (intro w hSw; (try dsimp only at hSw); go_simp; try (with_reducible rfl))
  try simp only [Act.put, List.setIfInBounds_toArray, List.set_cons_zero, List.set_cons_succ]
  refine held_take (i := 2) (v := .agg (gC s)) rfl (by kernel_rfl) (by kernel_rfl) (by kernel_rfl) (fun _ _ _ h => h) (by rfl) hHeld (exec_load_g _ _ rfl w3.heap.size (by rfl) 27 s (fun w h => h.2.1) Tryd.underlying27 (by rw [hs32]; exact infoGame)) ?_
  try simp only [Act.put, List.setIfInBounds_toArray, List.set_cons_zero, List.set_cons_succ]
  refine held_one (i := 3) rfl (by kernel_rfl) (by rfl) (fun K hK => ?_)
  go_simp
  refine (KB.out _).mono ?_
  rintro e wa ⟨va, rfl, Oa, Ra⟩
  replace hbc := hbc.trans (Ra.mono hbc.size)
  rw [HA1.out] at Oa
  obtain ⟨ba, capa, rfl, p1, p2, p3, p4, p5, p6⟩ := OB.row Oa HL1.out (by omega)
  have hcva := conv_bytes wa ba 0 capa L _ p5 128 HL1.out
  clear p6 Oa
  refine hK.out _ _ (⟨J8.out.drew.below hbc h87, J9.out.drew.below hbc h97, G12.out.drew.below hbc h117, conv_bytes _ b10 0 cap10 L _ (JB.out.below (w := w7.drew) (hbc.mono hs57)) 128 HL1.out⟩) (fun hHeld2 => ?_)
  clear hK K hHeld; have hHeld := hHeld2; clear hHeld2
  try simp only [Act.put, List.setIfInBounds_toArray, List.set_cons_zero, List.set_cons_succ]
  refine held_one (i := 4) rfl (by kernel_rfl) (by rfl) (fun K hK => ?_)
  go_simp
  refine hK.out _ _ (⟨hHeld.1, hHeld.2.1, hHeld.2.2.1, hHeld.2.2.2⟩) (fun hHeld2 => ?_)
  clear hK K hHeld; have hHeld := hHeld2; clear hHeld2
  try simp only [Act.put, List.setIfInBounds_toArray, List.set_cons_zero, List.set_cons_succ]
  refine held_take (i := 5) (v := ?_) rfl (by kernel_rfl) (by kernel_rfl) (by kernel_rfl) (fun _ _ _ h => h) (by rfl) hHeld ?_ ?_
  rotate_left 1
  · (intro w hSw; (try dsimp only at hSw); go_simp; try (with_reducible rfl))
  try simp only [Act.put, List.setIfInBounds_toArray, List.set_cons_zero, List.set_cons_succ]
  refine held_take (i := 6) (v := ?_) rfl (by kernel_rfl) (by kernel_rfl) (by kernel_rfl) (fun _ _ _ h => h) (by rfl) hHeld ?_ ?_
  rotate_left 1
  · (intro w hSw; (try dsimp only at hSw); go_simp; try (with_reducible rfl))
  try simp only [Act.put, List.setIfInBounds_toArray, List.set_cons_zero, List.set_cons_succ]
  refine held_take (i := 7) (v := .agg (gC s)) rfl (by kernel_rfl) (by kernel_rfl) (by kernel_rfl) (fun _ _ _ h => h) (by rfl) hHeld (exec_load_g _ _ rfl w2.heap.size (by rfl) 25 s (fun w h => h.1) Tryd.underlying25 (by rw [hs32]; exact infoState)) ?_
  try simp only [Act.put, List.setIfInBounds_toArray, List.set_cons_zero, List.set_cons_succ]
  refine held_take (i := 9) (v := .agg (gC s)) rfl (by kernel_rfl) (by kernel_rfl) (by kernel_rfl) (fun _ _ _ h => h) (by rfl) hHeld (exec_load_g _ _ rfl w3.heap.size (by rfl) 27 s (fun w h => h.2.1) Tryd.underlying27 (by rw [hs32]; exact infoGame)) ?_
  try simp only [Act.put, List.setIfInBounds_toArray, List.set_cons_zero, List.set_cons_succ]
  refine held_one (i := 8) rfl (by kernel_rfl) (by rfl) (fun K hK => ?_)
  go_simp
  refine (KS.out _ (HT.out.below (B12.out.drew.trans (hbc.mono B12.out.size)) HT.out.lt)).mono ?_
  rintro e wb ⟨rfl, Rb⟩
  replace hbc := hbc.trans (Rb.mono hbc.size)
  refine hK.out _ _ (⟨J8.out.drew.below hbc h87, J9.out.drew.below hbc h97, G12.out.drew.below hbc h117, conv_bytes _ b10 0 cap10 L _ (JB.out.below (w := w7.drew) (hbc.mono hs57)) 128 HL1.out⟩) (fun hHeld2 => ?_)
  clear hK K hHeld; have hHeld := hHeld2; clear hHeld2
  try simp only [Act.put, List.setIfInBounds_toArray, List.set_cons_zero, List.set_cons_succ]
  refine held_one (i := 10) rfl (by kernel_rfl) (by rfl) (fun K hK => ?_)
  go_simp
  refine (KR.out _).mono ?_
  rintro e wc ⟨rfl, Rc⟩
  replace hbc := hbc.trans (Rc.mono hbc.size)
  refine hK.out _ _ (⟨J8.out.drew.below hbc h87, J9.out.drew.below hbc h97, G12.out.drew.below hbc h117, conv_bytes _ b10 0 cap10 L _ (JB.out.below (w := w7.drew) (hbc.mono hs57)) 128 HL1.out⟩) (fun hHeld2 => ?_)
  clear hK K hHeld; have hHeld := hHeld2; clear hHeld2
  try simp only [Act.put, List.setIfInBounds_toArray, List.set_cons_zero, List.set_cons_succ]
  refine held_take (i := 11) (v := ?_) rfl (by kernel_rfl) (by kernel_rfl) (by kernel_rfl) (fun _ _ _ h => h) (by rfl) hHeld ?_ ?_
  rotate_left 1
  · (intro w hSw; (try dsimp only at hSw); go_simp; try (with_reducible rfl))
  try simp only [Act.put, List.setIfInBounds_toArray, List.set_cons_zero, List.set_cons_succ]
  refine held_take (i := 12) (v := ?_) rfl (by kernel_rfl) (by kernel_rfl) (by kernel_rfl) (fun _ _ _ h => h) (by rfl) hHeld ?_ ?_
  rotate_left 1
  · (intro w hSw; (try dsimp only at hSw); go_simp; try (with_reducible rfl))
  try simp only [Act.put, List.setIfInBounds_toArray, List.set_cons_zero, List.set_cons_succ]
  refine held_take (i := 13) (v := ?_) rfl (by kernel_rfl) (by kernel_rfl) (by kernel_rfl) (fun _ _ _ h => h) (by rfl) hHeld ?_ ?_
  rotate_left 1
  · (intro w hSw; (try dsimp only at hSw); go_simp; try (with_reducible rfl))
  try simp only [Act.put, List.setIfInBounds_toArray, List.set_cons_zero, List.set_cons_succ]
  refine held_take (i := 14) (v := ?_) rfl (by kernel_rfl) (by kernel_rfl) (by kernel_rfl) (fun _ _ _ h => h) (by rfl) hHeld ?_ ?_
  rotate_left 1
  · (intro w hSw; (try dsimp only at hSw); go_simp; try (with_reducible rfl))
  try simp only [Act.put, List.setIfInBounds_toArray, List.set_cons_zero, List.set_cons_succ]
  refine held_take (i := 15) (v := ?_) rfl (by kernel_rfl) (by kernel_rfl) (by kernel_rfl) (fun _ _ _ h => h) (by rfl) hHeld ?_ ?_
  rotate_left 1
  · (intro w hSw; (try dsimp only at hSw); go_simp; try (with_reducible rfl))
  try simp only [Act.put, List.setIfInBounds_toArray, List.set_cons_zero, List.set_cons_succ]
  refine held_take (i := 16) (v := ?_) rfl (by kernel_rfl) (by kernel_rfl) (by kernel_rfl) (fun _ _ _ h => h) (by rfl) hHeld ?_ ?_
  rotate_left 1
  · (intro w hSw; (try dsimp only at hSw); go_simp; try (with_reducible rfl))
  try simp only [Act.put, List.setIfInBounds_toArray, List.set_cons_zero, List.set_cons_succ]
  refine wpAnyH_done (by kernel_rfl) ?_ _
  have K8 := Lib.hid hHeld.1
  have K11 := Lib.hid hHeld.2.2.1
  have BC := Lib.hid (B12.out.drew.trans (hbc.mono B12.out.size))
  have k8 := K8.out.lt
  have k11 := K11.out.lt
  have hwc : w.heap.size ≤ wc.heap.size := BC.out.size
  clear hHeld hbc J8 J9 JB G12 B12 h87 h97 h117 hs57 hcva p5
  go_wp2_with (first
    | (with_reducible refine wpList_load_g rfl 25 (.tmp 8) rfl _ (by with_unfolding_all rfl) 25 s K8.out Tryd.underlying25 (by rw [hs32]; exact infoState) ?_)
    | (go_at_call 12; refine (KP.out _).mono ?_; rintro e wd ⟨rfl, Rd⟩
       have BD := Lib.hid (BC.out.trans (Rd.mono BC.out.size))
       have D8 := Lib.hid (K8.out.below Rd k8)
       have D11 := Lib.hid (K11.out.below Rd k11)
       have d8 := D8.out.lt
       have d11 := D11.out.lt
       have hwd : w.heap.size ≤ wd.heap.size := BD.out.size
       have G13 : Hid (GA (wd.alloc (.cells (gC (zG 8)) 37)) wd.heap.size 37 (zG 8)) := Lib.hid (GA.new wd _ _)
       clear K8 K11 Rd)
    | (with_reducible refine wpList_store_g rfl 37 (.tmp 13) (.tmp 49) rfl _ (by with_unfolding_all rfl) 37 (zG 8) p G13.out (by with_unfolding_all rfl) (by rw [hp8, hz8]) (by rw [hp8]; exact infoPage) ?_; intro we E13 S13 R13
       have F13 := fresh R13
       have BE := Lib.hid (BD.out.trans (F13.mono hwd))
       have E8 := Lib.hid (D8.out.below F13 d8)
       have E11 := Lib.hid (D11.out.below F13 d11)
       have e8 := E8.out.lt
       have e11 := E11.out.lt
       replace E13 := Lib.hid E13
       clear G13 D8 D11 R13 S13 F13)
    | (with_reducible refine wpList_load_g rfl 25 (.tmp 8) rfl _ (by with_unfolding_all rfl) 25 s E8.out Tryd.underlying25 (by rw [hs32]; exact infoState) ?_)
    | (with_reducible refine wpList_load_g rfl 37 (.tmp 13) rfl _ (by with_unfolding_all rfl) 37 p E13.out Tryd.underlying37 (by rw [hp8]; exact infoPage) ?_)
    | (go_at_call 13; refine (KW.out _).mono ?_; rintro e wf ⟨rfl, Rf⟩
       have BF := Lib.hid (BE.out.trans (Rf.mono BE.out.size))
       have P8 := Lib.hid (E8.out.below Rf e8)
       have P11 := Lib.hid (E11.out.below Rf e11)
       have p8 := P8.out.lt
       have p11 := P11.out.lt
       have hwf : w.heap.size ≤ wf.heap.size := BF.out.size
       have G14 : Hid (GA (wf.alloc (.cells (gC (zG 32)) 25)) wf.heap.size 25 (zG 32)) := Lib.hid (GA.new wf _ _)
       clear E8 E11 E13 Rf)
    | (with_reducible refine wpList_store_g rfl 25 (.tmp 14) (.tmp 53) rfl _ (by with_unfolding_all rfl) 25 (zG 32) u G14.out (by with_unfolding_all rfl) (by rw [hu32, hz32]) (by rw [hu32]; exact infoState) ?_; intro wg Q14 S14 R14
       have F14 := fresh R14
       have BG := Lib.hid (BF.out.trans (F14.mono hwf))
       have Q8 := Lib.hid (P8.out.below F14 p8)
       have Q11 := Lib.hid (P11.out.below F14 p11)
       replace Q14 := Lib.hid Q14
       clear G14 P8 P11 R14 S14 F14))
  clear hz hzg hzp
  go_loopw [15] (fun x wr => ∃ k : Nat, x = .int .i64 k ∧ k ≤ 32 ∧ Hid (GA wr w2.heap.size 25 s) ∧ Hid (GA wr w6.heap.size 25 s) ∧ Hid (GA wr wf.heap.size 25 u) ∧ Hid (Below w.heap.size w wr)) (fun x _ => 32 - (intOf x).toNat)
  case atStart => exact ⟨0, rfl, by omega, Q8, Q11, Q14, BG⟩
  case round =>
    obtain ⟨k, rfl, hk, H8, H11, H14, HB⟩ := hrel
    by_cases h1 : k < 32
    · have hk32 : (k : Int) < 32 := by omega
      have hk0 : (0 : Int) ≤ (k : Int) := by omega
      obtain ⟨x, hx⟩ : ∃ x, s[k]? = some x := ⟨_, List.getElem?_eq_getElem (by omega)⟩
      obtain ⟨y, hy⟩ : ∃ y, u[k]? = some y := ⟨_, List.getElem?_eq_getElem (by omega)⟩
      have c8 : wr.cell? ⟨w2.heap.size, k, none⟩ = some (.int .i32 x) := by rw [H8.out.cell k (by omega), (List.getElem?_eq_some_iff.1 hx).2]
      have c11 : wr.cell? ⟨w6.heap.size, k, none⟩ = some (.int .i32 x) := by rw [H11.out.cell k (by omega), (List.getElem?_eq_some_iff.1 hx).2]
      have c14 : wr.cell? ⟨wf.heap.size, k, none⟩ = some (.int .i32 y) := by rw [H14.out.cell k (by omega), (List.getElem?_eq_some_iff.1 hy).2]
      obtain ⟨q, hq⟩ : ∃ q, k / 8 = q := ⟨_, rfl⟩
      obtain ⟨r, hrr⟩ : ∃ r, k % 8 = r := ⟨_, rfl⟩
      have hq4 : q < 4 := by omega
      have hr8 : r < 8 := by omega
      by_cases hin : j = (q : Int)
      · have hyp : p[r]? = some y := by rw [← hrr, ← hy, HU.out, hin]; exact (withG_in s p q k hs32 hp8 hq4 hq).symm
        by_cases hi : pgB i = true
        · obtain ⟨n, hn⟩ : ∃ n : Nat, i = (n : Int) := ⟨i.toNat, by unfold pgB at hi; simp at hi; omega⟩
          have hn4 : n < 4 := by rw [hn] at hi; unfold pgB at hi; simp at hi; omega
          have hys : s[8 * n + r]? = some y := by rw [← hyp, HP.out, hn]; exact (pageG_in s n r hs32 hn4 hr8).symm
          have cz : wr.cell? ⟨w2.heap.size, 8 * n + r, none⟩ = some (.int .i32 y) := by rw [H8.out.cell (8 * n + r) (by omega), (List.getElem?_eq_some_iff.1 hys).2]
          have hdiv : (k : Int) / 8 = (q : Int) := by omega
          have htdiv : (k : Int).tdiv 8 = (q : Int) := by rw [Int.tdiv_eq_ediv_of_nonneg hk0]; exact hdiv
          have hmod : (k : Int) % 8 = (r : Int) := by omega
          have htmod : (k : Int).tmod 8 = (r : Int) := by rw [Int.tmod_eq_emod_of_nonneg hk0]; exact hmod
          have hto : (8 * (n : Int) + (r : Int)).toNat = 8 * n + r := by omega
          have hq4c : (q : Int) < 4 := by omega
          have hq0 : (0 : Int) ≤ (q : Int) := by omega
          have hn4c : (n : Int) < 4 := by omega
          have hn0 : (0 : Int) ≤ (n : Int) := by omega
          have hr8c : (r : Int) < 8 := by omega
          have hr0 : (0 : Int) ≤ (r : Int) := by omega
          rw [hn, hin]
          clear hx hy hyp hys hq hrr hi hin hn
          go_wp2_with fail
          go_region_held3 (fun w' => w'.cell? ⟨w2.heap.size, k, none⟩ = some (.int .i32 x) ∧ w'.cell? ⟨w6.heap.size, k, none⟩ = some (.int .i32 x) ∧ w'.cell? ⟨wf.heap.size, k, none⟩ = some (.int .i32 y)) (first | exact ⟨c8, c11, c14⟩ | go_keep) (fail)
          all_goals
            go_wp2
            go_round
            case rel => exact ⟨k + 1, by go_num, by omega, H8.out.drew, H11.out.drew, H14.out.drew, HB.out.drew⟩
            case measure => simp [intOf]; omega
        · have hi0 : pgB i = false := by simpa using hi
          have hy0 : y = 0 := by
            have := pageG_out s i r hi0 hr8
            rw [← HP.out, hyp] at this
            exact Option.some.inj this
          subst hy0
          have hdiv : (k : Int) / 8 = (q : Int) := by omega
          have htdiv : (k : Int).tdiv 8 = (q : Int) := by rw [Int.tdiv_eq_ediv_of_nonneg hk0]; exact hdiv
          have hq4c : (q : Int) < 4 := by omega
          have hq0 : (0 : Int) ≤ (q : Int) := by omega
          rw [hin]
          by_cases hi1 : 0 ≤ i
          · have hi2 : ¬ i < 4 := by intro h; unfold pgB at hi0; simp [hi1, h] at hi0
            clear hx hy hyp hq hrr hi hi0 hin
            go_wp2_with fail
            go_region_held3 (fun w' => w'.cell? ⟨w2.heap.size, k, none⟩ = some (.int .i32 x) ∧ w'.cell? ⟨w6.heap.size, k, none⟩ = some (.int .i32 x) ∧ w'.cell? ⟨wf.heap.size, k, none⟩ = some (.int .i32 0)) (first | exact ⟨c8, c11, c14⟩ | go_keep) (fail)
            all_goals
              go_wp2
              go_round
              case rel => exact ⟨k + 1, by go_num, by omega, H8.out.drew, H11.out.drew, H14.out.drew, HB.out.drew⟩
              case measure => simp [intOf]; omega
          · clear hx hy hyp hq hrr hi hi0 hin
            go_wp2_with fail
            go_region_held3 (fun w' => w'.cell? ⟨w2.heap.size, k, none⟩ = some (.int .i32 x) ∧ w'.cell? ⟨w6.heap.size, k, none⟩ = some (.int .i32 x) ∧ w'.cell? ⟨wf.heap.size, k, none⟩ = some (.int .i32 0)) (first | exact ⟨c8, c11, c14⟩ | go_keep) (fail)
            all_goals
              go_wp2
              go_round
              case rel => exact ⟨k + 1, by go_num, by omega, H8.out.drew, H11.out.drew, H14.out.drew, HB.out.drew⟩
              case measure => simp [intOf]; omega
      · have hyx : y = x := by
          have := withG_out s p j k hs32 hp8 (.inr (by rw [hq]; exact fun e => hin e.symm))
          rw [← HU.out, hy, hx] at this
          exact Option.some.inj this
        subst hyx
        have hdiv : (k : Int) / 8 = (q : Int) := by omega
        have htdiv : (k : Int).tdiv 8 = (q : Int) := by rw [Int.tdiv_eq_ediv_of_nonneg hk0]; exact hdiv
        have hbq : (((q : Int) == j) : Bool) = false := by rw [beq_eq_false_iff_ne]; exact fun e => hin e.symm
        have hqj : ¬ (q : Int) = j := fun e => hin e.symm
        by_cases hj1 : 0 ≤ j
        · by_cases hj2 : j < 4
          · clear hx hy hq hrr hin
            go_wp2_with fail
            go_region_held3 (fun w' => w'.cell? ⟨w2.heap.size, k, none⟩ = some (.int .i32 y) ∧ w'.cell? ⟨w6.heap.size, k, none⟩ = some (.int .i32 y) ∧ w'.cell? ⟨wf.heap.size, k, none⟩ = some (.int .i32 y)) (first | exact ⟨c8, c11, c14⟩ | go_keep) (fail)
            all_goals
              go_wp2
              go_round
              case rel => exact ⟨k + 1, by go_num, by omega, H8.out.drew, H11.out.drew, H14.out.drew, HB.out.drew⟩
              case measure => simp [intOf]; omega
          · clear hx hy hq hrr hin
            go_wp2_with fail
            go_region_held3 (fun w' => w'.cell? ⟨w2.heap.size, k, none⟩ = some (.int .i32 y) ∧ w'.cell? ⟨w6.heap.size, k, none⟩ = some (.int .i32 y) ∧ w'.cell? ⟨wf.heap.size, k, none⟩ = some (.int .i32 y)) (first | exact ⟨c8, c11, c14⟩ | go_keep) (fail)
            all_goals
              go_wp2
              go_round
              case rel => exact ⟨k + 1, by go_num, by omega, H8.out.drew, H11.out.drew, H14.out.drew, HB.out.drew⟩
              case measure => simp [intOf]; omega
        · clear hx hy hq hrr hin
          go_wp2_with fail
          go_region_held3 (fun w' => w'.cell? ⟨w2.heap.size, k, none⟩ = some (.int .i32 y) ∧ w'.cell? ⟨w6.heap.size, k, none⟩ = some (.int .i32 y) ∧ w'.cell? ⟨wf.heap.size, k, none⟩ = some (.int .i32 y)) (first | exact ⟨c8, c11, c14⟩ | go_keep) (fail)
          all_goals
            go_wp2
            go_round
            case rel => exact ⟨k + 1, by go_num, by omega, H8.out.drew, H11.out.drew, H14.out.drew, HB.out.drew⟩
            case measure => simp [intOf]; omega
    · obtain rfl : k = 32 := by omega
      have h1c : ¬ ((32 : Nat) : Int) < 32 := by omega
      go_wp2
      go_ret
      exact ⟨rfl, HB.out⟩
end Go.Proofs.YtbhmageepocmcaaDoor
