/- WALK of the law VmOnly. -/
import Derived.Test.YtkfbepkejdmaeaaVa
namespace Go.Proofs.Ytkfbepkejdmaeaa
set_option maxRecDepth 100000
open Go.RowKit
set_option linter.unusedVariables false

set_option maxHeartbeats 8000000 in
theorem only_law (t : ByteArray) (A : Option Addr) (os : List O4) (cap : Nat) (AL : Option Addr) (l : List Int) (capl : Nat) (fr : Int) (PA : Option Addr) (pr : List UInt8) (pc : Nat) (w : World)
    (hr : RO w w.heap.size A os) (hc : os.length ≤ cap) (hm : cap ≤ maxLen) (ht : t.size ≤ 1048576) (hrl : RG w w.heap.size AL l) (hcl : l.length ≤ capl) (hml : capl ≤ maxLen) (hlz : ∀ z ∈ l, -2147483648 ≤ z ∧ z ≤ 2147483647)
    (hrp : RB w w.heap.size PA pr) (hcp : pr.length ≤ pc) (hmp : pc ≤ maxLen) :
    Calls Try.prog 11 #[progV t A os.length cap, .slice AL l.length capl, .int .i64 fr, .slice PA pr.length pc] w fun e w' => e = .returned (.bool true) ∧ Below w.heap.size w w' := by
  have hmx := hm
  unfold maxLen at hmx
  have hmpx := hmp
  unfold maxLen at hmpx
  have hz := zeroState
  have HB := Lib.hid begun9_any
  have HOf := Lib.hid (fun W (h : RG W W.heap.size AL l) => of_any AL l capl W h hcl hml)
  have HGM : Hid (gam (ofL l)) := gam.ofL hlz
  obtain ⟨g, hg⟩ : ∃ g, g = ofL l := ⟨_, rfl⟩
  rw [← hg] at HOf HGM
  have HR := Lib.hid hr; have HRL := Lib.hid hrl; have HRP := Lib.hid hrp
  have b0 : Below w.heap.size w (w.alloc (.cells #[.string t, .slice A os.length cap] 24)) := (Below.refl _ _).alloc (Nat.le_refl _) _
  have e0 : (w.alloc (.cells #[.string t, .slice A os.length cap] 24)).cell? ⟨w.heap.size, 0, none⟩ = some (.string t) := by simp [go_sem]
  have e1 : (w.alloc (.cells #[.string t, .slice A os.length cap] 24)).cell? ⟨w.heap.size, 1, none⟩ = some (.slice A os.length cap) := by simp [go_sem]
  have hlt0 : w.heap.size < (w.alloc (.cells #[.string t, .slice A os.length cap] 24)).heap.size := by simp
  have E0 := Lib.hid e0; have E1 := Lib.hid e1
  clear hr hrl hrp hlz hg e0 e1
  have hbeg : ∀ (W : World), Below (w.alloc (.cells #[.string t, .slice A os.length cap] 24)).heap.size (w.alloc (.cells #[.string t, .slice A os.length cap] 24)) W → Hid (W.cell? ⟨w.heap.size, 0, none⟩ = some (.string t) ∧ W.cell? ⟨w.heap.size, 1, none⟩ = some (.slice A os.length cap) ∧ RO W w.heap.size A os ∧ RB W w.heap.size PA pr ∧ RG W w.heap.size AL l ∧ Below w.heap.size w W ∧ w.heap.size < W.heap.size) := fun W hb =>
    ⟨(hb.cell (p := ⟨w.heap.size, 0, none⟩) hlt0).trans E0.out, (hb.cell (p := ⟨w.heap.size, 1, none⟩) hlt0).trans E1.out, HR.out.below (b0.trans (hb.mono (Nat.le_of_lt hlt0))), HRP.out.below (b0.trans (hb.mono (Nat.le_of_lt hlt0))), HRL.out.below (b0.trans (hb.mono (Nat.le_of_lt hlt0))), b0.trans (hb.mono (Nat.le_of_lt hlt0)), Nat.lt_of_lt_of_le hlt0 hb.size⟩
  have HBG := Lib.hid hbeg
  clear hbeg HR HRL HRP E0 E1
  unfold progV
  by_cases g1 : os.length > 80
  · have g1c : (os.length : Int) > 80 := by omega
    go_enter Try.func11, Try.ntmps11
    go_wp2_with (go_at_call 13; refine (HB.out _).mono ?_; rintro e w1 ⟨rfl, b1⟩; obtain ⟨x0, x1, -, -, -, bw, hl1⟩ := (HBG.out _ b1).out)
    go_ret
    exact ⟨rfl, bw⟩
  have g1c : ¬ (os.length : Int) > 80 := by omega
  have HFt : Hid (∀ W : World, RO W w.heap.size A os → w.heap.size ≤ W.heap.size → Calls Try.prog 26 #[.agg #[.string t, .slice A os.length cap]] W fun e w' => e = .returned (.int .i64 (faultN (titB t) os)) ∧ Below W.heap.size W w') := fun W ro hW => reffault_any t A os cap w.heap.size W ro hW hc hm (by omega)
  by_cases g2 : faultN (titB t) os = -1
  · rw [g2] at HFt
    go_enter Try.func11, Try.ntmps11
    go_wp2_with (first
      | (go_at_call 13; refine (HB.out _).mono ?_; rintro e w1 ⟨rfl, b1⟩; obtain ⟨x0, x1, ro1, -, -, bw, hl1⟩ := (HBG.out _ b1).out; have R1 := Lib.hid ro1; clear ro1)
      | (go_at_call 26; refine (HFt.out _ R1.out (Nat.le_of_lt hl1)).mono ?_; rintro e w2 ⟨rfl, b2⟩))
    go_ret
    exact ⟨rfl, bw.trans (b2.mono (Nat.le_of_lt hl1))⟩
  have HNF := Lib.hid g2
  have hzz : (faultN (titB t) os == -1) = false := by rw [beq_eq_false_iff_ne]; exact g2
  obtain ⟨z, hze⟩ : ∃ z, z = faultN (titB t) os := ⟨_, rfl⟩
  rw [← hze] at hzz HFt
  clear hze g2
  by_cases g3 : pr.length > 20
  · have g3c : (pr.length : Int) > 20 := by omega
    go_enter Try.func11, Try.ntmps11
    go_wp2_with (first
      | (go_at_call 13; refine (HB.out _).mono ?_; rintro e w1 ⟨rfl, b1⟩; obtain ⟨x0, x1, ro1, -, -, bw, hl1⟩ := (HBG.out _ b1).out; have R1 := Lib.hid ro1; clear ro1)
      | (go_at_call 26; refine (HFt.out _ R1.out (Nat.le_of_lt hl1)).mono ?_; rintro e w2 ⟨rfl, b2⟩))
    go_ret
    exact ⟨rfl, bw.trans (b2.mono (Nat.le_of_lt hl1))⟩
  have g3c : ¬ (pr.length : Int) > 20 := by omega
  go_enter Try.func11, Try.ntmps11
  go_upto_region 6 with (first
      | (go_at_call 13; refine (HB.out _).mono ?_; rintro e w1 ⟨rfl, b1⟩; obtain ⟨x0, x1, ro1, -, -, bw, hl1⟩ := (HBG.out _ b1).out; have R1 := Lib.hid ro1; clear ro1)
      | (go_at_call 26; refine (HFt.out _ R1.out (Nat.le_of_lt hl1)).mono ?_; rintro e w2 ⟨rfl, b2⟩))
  obtain ⟨y0, y1, ro2, rb2, rg2, bw2, hl2⟩ := (HBG.out _ (b1.trans (b2.mono b1.size))).out
  have HK := Lib.hid (fun W (hb : Below w2.heap.size w2 W) => (HBG.out _ ((b1.trans (b2.mono b1.size)).trans (hb.mono (Nat.le_trans b1.size b2.size)))).out)
  have HRG := Lib.hid (rg2.more (Nat.le_of_lt hl2))
  clear x0 x1 y0 y1 ro2 rb2 rg2 b1 b2 R1 HFt HBG HB bw
  go_wp2_with fail
  refine (HOf.out _ HRG.out).mono ?_
  rintro e w4 ⟨rfl, b4⟩
  have hs4 := b4.size
  have GN4 := Lib.hid (GA.new w4 31 (zG 32))
  have HGL := Lib.hid HGM.out.1
  have HGZ := Lib.hid (gam_len HGM.out)
  clear HRG HOf
  go_wp2_with (first
    | (with_reducible refine wpList_store_g rfl 31 (.tmp 10) (.tmp 30) rfl w4.heap.size (by with_unfolding_all rfl) 31 (zG 32) g GN4.out (by with_unfolding_all rfl) HGZ.out (by rw [HGL.out]; exact infoState) ?_; intro w5 G S R; have G5 := Lib.hid G; have S5 := Lib.hid S; have R5 := Lib.hid R; clear G S R)
    | (with_reducible refine wpList_load_g rfl 31 (.tmp 10) rfl w4.heap.size (by with_unfolding_all rfl) 31 g G5.out Try.underlying31 (by rw [HGL.out]; exact infoState) ?_)
    | (with_reducible refine wpList_build_mem rfl (.tmp 31) rfl g (by with_unfolding_all rfl) HGL.out ?_))
  have hs5 : Hid (w5.heap.size = w4.heap.size + 1) := by have := S5.out; simp at this; exact this
  obtain ⟨W, hW⟩ : ∃ W, W = w5.alloc (.cells (gM g [.bool false]) 39) := ⟨_, rfl⟩
  rw [← hW]
  have b25 : Below w2.heap.size w2 w5 := b4.trans ((made_below R5.out).mono hs4)
  have b5W : Below w5.heap.size w5 W := by rw [hW]; exact (Below.refl _ _).alloc (Nat.le_refl _) _
  have b2W := b25.trans (b5W.mono b25.size)
  have GW : Hid (GA W w4.heap.size 31 g) := G5.out.below b5W (by have := hs5.out; omega)
  have MW : Hid (GH W w5.heap.size 39 g [.bool false]) := by rw [hW]; exact GH.new_m w5 _ _ _
  obtain ⟨x0, x1, ro, rb, -, bwW, hlW⟩ := HK.out _ b2W
  have X0 := Lib.hid x0; have X1 := Lib.hid x1
  have hWs : w5.heap.size < W.heap.size := by rw [hW]; simp
  have hfn : ∀ g2 : List Int, frameN ⟨t, fr, pr⟩ os g2 = (g2, 0) := fun g2 => by
    unfold frameN
    rw [if_neg HNF.out]
  have HRn : Hid (Calls Try.prog 19 #[.agg #[.string t, .slice A os.length cap], .iface 37 (.pointer (some ⟨w5.heap.size, 0, none⟩)), .int .i64 fr, .slice PA pr.length pc] W.drew fun e w' => e = .returned (.int .i64 0) ∧ GH w' w5.heap.size 39 g [.bool false] ∧ W.drew.grownBy w' (some w5.heap.size)) := by
    have h := run_m W.drew w5.heap.size g ⟨t, fr, pr⟩ A os cap w.heap.size PA pc (ro.below (Below.refl _ W).drew) (Nat.le_of_lt hlW) hc hm (show t.size ≤ 549755813888 by omega) MW.out.drew HGM.out ((rb.below (Below.refl _ W).drew).more (Nat.le_of_lt hlW)) hcp hmp
    rw [hfn] at h
    exact h
  have HSt : Hid (∀ V : World, RO V w.heap.size A os → RB V w.heap.size PA pr → w.heap.size ≤ V.heap.size → Calls Try.prog 18 #[.agg #[.string t, .slice A os.length cap], .agg (gC g), .int .i64 fr, .slice PA pr.length pc] V fun e w' => e = .returned (.agg (gC g)) ∧ Below V.heap.size V w') := fun V rv bv hV => by
    have h := step_any V g ⟨t, fr, pr⟩ A os cap w.heap.size PA pc rv hV hc hm (show t.size ≤ 549755813888 by omega) HGM.out (bv.more hV) hcp hmp
    rw [hfn] at h
    exact h
  have heq : ∀ w, (Op.equalIn 10000 33 (.agg (gC g)) (.agg (gC g))).run Try.prog w = .ok true w := fun w => by
    rw [equalIn_g (P := Try.prog) 33 Try.underlying33 Try.underlying21 cell_i32 g g HGL.out HGL.out w, decide_eq_true rfl]
  have hgd := guardGame9
  have hlt4 : w4.heap.size < w5.heap.size := by have := hs5.out; omega
  have hlt45 : w4.heap.size < W.heap.size := by omega
  have hPw5 : w.heap.size < w5.heap.size := by have := (HK.out _ b25).2.2.2.2.2.2; exact this
  have HRO := Lib.hid ro; have HRB := Lib.hid rb
  have HBW := Lib.hid bwW
  clear hW x0 x1 ro rb hfn G5 S5 R5 GN4 b25 b5W b2W hz HK b4 bwW
  refine wp_region_held_drew (S := (fun w' => w'.cell? ⟨w.heap.size, 0, none⟩ = some (.string t) ∧ w'.cell? ⟨w.heap.size, 1, none⟩ = some (.slice A os.length cap) ∧ GA w' w4.heap.size 31 g ∧ GH w' w5.heap.size 39 g [.bool false])) (by kernel_rfl) (⟨X0.out, X1.out, GW.out.drew, MW.out.drew⟩) (fun hHeld => ?_)
  refine held_take (i := 0) (v := ?_) rfl (by kernel_rfl) (by kernel_rfl) (by kernel_rfl) (fun _ _ _ h => h) (by rfl) hHeld ?_ ?_
  rotate_left 1
  · (intro w hSw; (try dsimp only at hSw); go_simp; try (with_reducible rfl))
  try simp only [Act.put, List.setIfInBounds_toArray, List.set_cons_zero, List.set_cons_succ]
  refine held_take (i := 1) (v := ?_) rfl (by kernel_rfl) (by kernel_rfl) (by kernel_rfl) (fun _ _ _ h => h) (by rfl) hHeld ?_ ?_
  rotate_left 1
  · (intro w hSw; (try dsimp only at hSw); go_simp; try (with_reducible rfl))
  try simp only [Act.put, List.setIfInBounds_toArray, List.set_cons_zero, List.set_cons_succ]
  refine held_take (i := 2) (v := ?_) rfl (by kernel_rfl) (by kernel_rfl) (by kernel_rfl) (fun _ _ _ h => h) (by rfl) hHeld ?_ ?_
  rotate_left 1
  · (intro w hSw; (try dsimp only at hSw); go_simp; try (with_reducible rfl))
  try simp only [Act.put, List.setIfInBounds_toArray, List.set_cons_zero, List.set_cons_succ]
  refine held_take (i := 3) (v := ?_) rfl (by kernel_rfl) (by kernel_rfl) (by kernel_rfl) (fun _ _ _ h => h) (by rfl) hHeld ?_ ?_
  rotate_left 1
  · (intro w hSw; (try dsimp only at hSw); go_simp; try (with_reducible rfl))
  try simp only [Act.put, List.setIfInBounds_toArray, List.set_cons_zero, List.set_cons_succ]
  refine held_take (i := 4) (v := ?_) rfl (by kernel_rfl) (by kernel_rfl) (by kernel_rfl) (fun _ _ _ h => h) (by rfl) hHeld ?_ ?_
  rotate_left 1
  · (intro w hSw; (try dsimp only at hSw); go_simp; try (with_reducible rfl))
  try simp only [Act.put, List.setIfInBounds_toArray, List.set_cons_zero, List.set_cons_succ]
  refine held_one (i := 5) rfl (by kernel_rfl) (by rfl) (fun K hK => ?_)
  go_simp
  refine HRn.out.mono ?_
  rintro e w6 ⟨rfl, h6, r6⟩
  have Y0 := Lib.hid (grown_cell r6 X0.out (by simp; omega))
  have Y1 := Lib.hid (grown_cell r6 X1.out (by simp; omega))
  have G6 := Lib.hid (GW.out.drew.grown r6 (by simp; omega))
  have M6 := Lib.hid h6
  have RR6 := Lib.hid r6
  clear h6 r6
  refine hK.out _ _ (⟨Y0.out, Y1.out, G6.out, M6.out⟩) (fun hHeld2 => ?_)
  clear hK K hHeld; have hHeld := hHeld2; clear hHeld2
  try simp only [Act.put, List.setIfInBounds_toArray, List.set_cons_zero, List.set_cons_succ]
  refine held_take (i := 6) (v := ?_) rfl (by kernel_rfl) (by kernel_rfl) (by kernel_rfl) (fun _ _ _ h => h) (by rfl) hHeld ?_ ?_
  rotate_left 1
  · (intro w hSw; (try dsimp only at hSw); go_simp; try (with_reducible rfl))
  try simp only [Act.put, List.setIfInBounds_toArray, List.set_cons_zero, List.set_cons_succ]
  refine held_take (i := 7) (v := ?_) rfl (by kernel_rfl) (by kernel_rfl) (by kernel_rfl) (fun _ _ _ h => h) (by rfl) hHeld ?_ ?_
  rotate_left 1
  · (intro w hSw; (try dsimp only at hSw); go_simp; try (with_reducible rfl))
  try simp only [Act.put, List.setIfInBounds_toArray, List.set_cons_zero, List.set_cons_succ]
  refine held_take (i := 8) (v := ?_) rfl (by kernel_rfl) (by kernel_rfl) (by kernel_rfl) (fun _ _ _ h => h) (by rfl) hHeld ?_ ?_
  rotate_left 1
  · (intro w hSw; (try dsimp only at hSw); go_simp; try (with_reducible rfl))
  try simp only [Act.put, List.setIfInBounds_toArray, List.set_cons_zero, List.set_cons_succ]
  refine held_take (i := 9) (v := ?_) rfl (by kernel_rfl) (by kernel_rfl) (by kernel_rfl) (fun _ _ _ h => h) (by rfl) hHeld ?_ ?_
  rotate_left 1
  · (intro w hSw; (try dsimp only at hSw); go_simp; try (with_reducible rfl))
  try simp only [Act.put, List.setIfInBounds_toArray, List.set_cons_zero, List.set_cons_succ]
  refine held_take (i := 10) (v := ?_) rfl (by kernel_rfl) (by kernel_rfl) (by kernel_rfl) (fun _ _ _ h => h) (by rfl) hHeld ?_ ?_
  rotate_left 1
  · (intro w hSw; (try dsimp only at hSw); go_simp; try (with_reducible rfl))
  try simp only [Act.put, List.setIfInBounds_toArray, List.set_cons_zero, List.set_cons_succ]
  refine held_take (i := 11) (v := .agg (gC g)) rfl (by kernel_rfl) (by kernel_rfl) (by kernel_rfl) (fun _ _ _ h => h) (by rfl) hHeld (exec_load_h 31 _ rfl w5.heap.size (by rfl) 39 g [.bool false] (fun w h => h.2.2.2) Try.underlying31 (by rw [HGL.out]; exact infoState)) ?_
  try simp only [Act.put, List.setIfInBounds_toArray, List.set_cons_zero, List.set_cons_succ]
  refine held_take (i := 12) (v := .agg (gC g)) rfl (by kernel_rfl) (by kernel_rfl) (by kernel_rfl) (fun _ _ _ h => h) (by rfl) hHeld (exec_load_g _ _ rfl w4.heap.size (by rfl) 31 g (fun w h => h.2.2.1) Try.underlying31 (by rw [HGL.out]; exact infoState)) ?_
  try simp only [Act.put, List.setIfInBounds_toArray, List.set_cons_zero, List.set_cons_succ]
  refine held_take (i := 13) (v := ?_) rfl (by kernel_rfl) (by kernel_rfl) (by kernel_rfl) (fun _ _ _ h => h) (by rfl) hHeld ?_ ?_
  rotate_left 1
  · (intro w hSw; (try dsimp only at hSw); go_simp; try (with_reducible rfl))
  try simp only [Act.put, List.setIfInBounds_toArray, List.set_cons_zero, List.set_cons_succ]
  refine held_take (i := 14) (v := ?_) rfl (by kernel_rfl) (by kernel_rfl) (by kernel_rfl) (fun _ _ _ h => h) (by rfl) hHeld ?_ ?_
  rotate_left 1
  · (intro w hSw; (try dsimp only at hSw); go_simp; try (with_reducible rfl))
  try simp only [Act.put, List.setIfInBounds_toArray, List.set_cons_zero, List.set_cons_succ]
  refine held_take (i := 15) (v := ?_) rfl (by kernel_rfl) (by kernel_rfl) (by kernel_rfl) (fun _ _ _ h => h) (by rfl) hHeld ?_ ?_
  rotate_left 1
  · (intro w hSw; (try dsimp only at hSw); go_simp; try (with_reducible rfl))
  try simp only [Act.put, List.setIfInBounds_toArray, List.set_cons_zero, List.set_cons_succ]
  refine held_take (i := 16) (v := ?_) rfl (by kernel_rfl) (by kernel_rfl) (by kernel_rfl) (fun _ _ _ h => h) (by rfl) hHeld ?_ ?_
  rotate_left 1
  · (intro w hSw; (try dsimp only at hSw); go_simp; try (with_reducible rfl))
  try simp only [Act.put, List.setIfInBounds_toArray, List.set_cons_zero, List.set_cons_succ]
  refine held_take (i := 17) (v := .agg (gC g)) rfl (by kernel_rfl) (by kernel_rfl) (by kernel_rfl) (fun _ _ _ h => h) (by rfl) hHeld (exec_load_g _ _ rfl w4.heap.size (by rfl) 31 g (fun w h => h.2.2.1) Try.underlying31 (by rw [HGL.out]; exact infoState)) ?_
  try simp only [Act.put, List.setIfInBounds_toArray, List.set_cons_zero, List.set_cons_succ]
  refine held_take (i := 18) (v := ?_) rfl (by kernel_rfl) (by kernel_rfl) (by kernel_rfl) (fun _ _ _ h => h) (by rfl) hHeld ?_ ?_
  rotate_left 1
  · (intro w hSw; (try dsimp only at hSw); go_simp; try (with_reducible rfl))
  try simp only [Act.put, List.setIfInBounds_toArray, List.set_cons_zero, List.set_cons_succ]
  refine held_take (i := 19) (v := ?_) rfl (by kernel_rfl) (by kernel_rfl) (by kernel_rfl) (fun _ _ _ h => h) (by rfl) hHeld ?_ ?_
  rotate_left 1
  · (intro w hSw; (try dsimp only at hSw); go_simp; try (with_reducible rfl))
  try simp only [Act.put, List.setIfInBounds_toArray, List.set_cons_zero, List.set_cons_succ]
  refine held_take (i := 21) (v := .agg (gC g)) rfl (by kernel_rfl) (by kernel_rfl) (by kernel_rfl) (fun _ _ _ h => h) (by rfl) hHeld (exec_load_g _ _ rfl w4.heap.size (by rfl) 31 g (fun w h => h.2.2.1) Try.underlying31 (by rw [HGL.out]; exact infoState)) ?_
  try simp only [Act.put, List.setIfInBounds_toArray, List.set_cons_zero, List.set_cons_succ]
  refine held_one (i := 20) rfl (by kernel_rfl) (by rfl) (fun K hK => ?_)
  go_simp
  have bW6 : Below w5.heap.size W w6 := (Below.refl _ _).drew.trans ⟨RR6.out.os, RR6.out.tape, RR6.out.output, RR6.out.size, fun k hk => RR6.out.block k (Nat.lt_trans hk hWs) (fun e => by have := Option.some.inj e; omega)⟩
  have hs6 := bW6.size
  refine (HSt.out _ (HRO.out.below (bW6.mono (Nat.le_of_lt hPw5))) (HRB.out.below (bW6.mono (Nat.le_of_lt hPw5))) (by omega)).mono ?_
  rintro e w7 ⟨rfl, b7⟩
  have hfin := HBW.out.trans ((bW6.mono (Nat.le_of_lt hPw5)).trans (b7.mono (by omega)))
  refine hK.out _ _ (⟨(b7.cell (p := ⟨w.heap.size, 0, none⟩) (cell_lt Y0.out)).trans Y0.out, (b7.cell (p := ⟨w.heap.size, 1, none⟩) (cell_lt Y1.out)).trans Y1.out, G6.out.below b7 G6.out.lt, M6.out.below b7 M6.out.lt⟩) (fun hHeld2 => ?_)
  clear hK K hHeld; have hHeld := hHeld2; clear hHeld2
  try simp only [Act.put, List.setIfInBounds_toArray, List.set_cons_zero, List.set_cons_succ]
  refine held_take (i := 22) (v := ?_) rfl (by kernel_rfl) (by kernel_rfl) (by kernel_rfl) (fun _ _ _ h => h) (by rfl) hHeld ?_ ?_
  rotate_left 1
  · (intro w hSw; (try dsimp only at hSw); go_simp; try (with_reducible rfl))
  try simp only [Act.put, List.setIfInBounds_toArray, List.set_cons_zero, List.set_cons_succ]
  refine held_take (i := 23) (v := ?_) rfl (by kernel_rfl) (by kernel_rfl) (by kernel_rfl) (fun _ _ _ h => h) (by rfl) hHeld ?_ ?_
  rotate_left 1
  · (intro w hSw; (try dsimp only at hSw); go_simp; try (with_reducible rfl))
  try simp only [Act.put, List.setIfInBounds_toArray, List.set_cons_zero, List.set_cons_succ]
  refine held_take (i := 24) (v := ?_) rfl (by kernel_rfl) (by kernel_rfl) (by kernel_rfl) (fun _ _ _ h => h) (by rfl) hHeld ?_ ?_
  rotate_left 1
  · (intro w hSw; (try dsimp only at hSw); go_simp; try (with_reducible rfl))
  try simp only [Act.put, List.setIfInBounds_toArray, List.set_cons_zero, List.set_cons_succ]
  refine wpAnyH_done (by kernel_rfl) ?_ _
  go_wp2
  go_ret
  exact ⟨rfl, hfin⟩
end Go.Proofs.Ytkfbepkejdmaeaa
