/- WALK of the law VmStep. -/
import Derived.Test.YtkfbepkejdmaeaaMr
import Derived.Test.YtkfbepkejdmaeaaMo
import Derived.Test.YtkfbepkejdmaeaaMx
import Derived.Test.YtkfbepkejdmaeaaKr
import Derived.Test.YtkfbepkejdmaeaaKj
namespace Go.Proofs.Ytkfbepkejdmaeaa
set_option maxRecDepth 100000
open Go.RowKit
set_option linter.unusedVariables false

theorem guardGame9 : Try.prog.eqGuardType Try.prog.depth 33 = false := by kernel_rfl
theorem cell_i32 : (Try.prog.info? 21).map (·.size) = some 1 := by kernel_rfl
/-- a block made and stored into -/
theorem made_below {w w3 : World} {o : Obj} (R : (w.alloc o).grownBy w3 (some w.heap.size)) : Below w.heap.size w w3 := ((Below.refl _ _).alloc (Nat.le_refl _) o).grown R (by simp) (by simp)
theorem GH.range {w : World} {b : Nat} {t : TypeId} {g : List Int} {rs : List Value} (h : GH w b t g rs) : w.rangeAt b 0 (gC g).toList := fun j v hv => by
  have hj : j < g.length := by
    rcases Nat.lt_or_ge j g.length with h1 | h1
    · exact h1
    · rw [List.getElem?_eq_none (by unfold gC; simp; exact h1)] at hv; cases hv
  rw [Nat.zero_add, h.cell j hj]
  unfold gC at hv
  simp [hj, vi] at hv
  rw [← hv]
theorem exec_load_h {P : Program} {S : World → Prop} {op : Oper} {a : Act} (ty : TypeId) (x : Operand) (ho : op.op = .load ty x)
    (b : Nat) (hx : a.eval x = .pointer (some ⟨b, 0, none⟩)) (t : TypeId) (g : List Int) (rs : List Value) (hS : ∀ w, S w → GH w b t g rs) {n : Nat} {e : TypeId} (hu : P.underlying ty = some (.array n e)) (hi : (P.info? ty).map (·.size) = some g.length) (w : World) (hw : S w) :
    (execOp a.eval op).run P w = .ok (.value (.agg (gC g))) w := by
  have := run_loadVar_mid (P := P) w b 0 ty (gC g).toList _ (hS w hw).range hu rfl (by rw [hi]; simp [gC_size])
  unfold execOp
  simp only [ho, hx, Instr.loadAt, Instr.sureAddr, Sem.run_bind, Sem.run_pure, Result.andThen_ok, this]
theorem lcut64_any (t : ByteArray) (A : Option Addr) (os : List O4) (cap : Nat) (w : World) (hc : os.length ≤ cap) (hm : cap ≤ maxLen) :
    Calls Try.prog 14 #[.agg #[.string t, .slice A os.length cap], .int .i64 64] w fun e w' => ∃ u os', Hid (u = cutT t) ∧ Hid (os' = os.take 64) ∧ e = .returned (.agg #[.string u, .slice A os'.length cap]) ∧ Below w.heap.size w w' :=
  lcut_named t A os cap 64 64 rfl w (by omega) (by omega) hc hm

set_option maxHeartbeats 8000000 in
theorem step_law (t : ByteArray) (A : Option Addr) (os : List O4) (cap : Nat) (AL : Option Addr) (l : List Int) (capl : Nat) (fr : Int) (PA : Option Addr) (pr : List UInt8) (pc : Nat) (w : World)
    (hr : RO w w.heap.size A os) (hc : os.length ≤ cap) (hm : cap ≤ maxLen) (hrl : RG w w.heap.size AL l) (hcl : l.length ≤ capl) (hml : capl ≤ maxLen) (hlz : ∀ z ∈ l, -2147483648 ≤ z ∧ z ≤ 2147483647)
    (hrp : RB w w.heap.size PA pr) (hcp : pr.length ≤ pc) (hmp : pc ≤ maxLen) :
    Calls Try.prog 3 #[progV t A os.length cap, .slice AL l.length capl, .int .i64 fr, .slice PA pr.length pc] w fun e w' => e = .returned (.bool true) ∧ Below w.heap.size w w' := by
  have hz := zeroState
  have hzg := zeroGame
  have HB := Lib.hid begun9_any
  have HCu := Lib.hid (fun W => lcut64_any t A os cap W hc hm)
  have HSh := Lib.hid (fun W => lshort_ten PA pr pc W hcp hmp)
  have HOf := Lib.hid (fun W (h : RG W W.heap.size AL l) => of_any AL l capl W h hcl hml)
  have HGM : Hid (gam (ofL l)) := gam.ofL hlz
  obtain ⟨g, hg⟩ : ∃ g, g = ofL l := ⟨_, rfl⟩
  rw [← hg] at HOf HGM
  have HR := Lib.hid hr; have HRL := Lib.hid hrl; have HRP := Lib.hid hrp
  have b0 : Below w.heap.size w (w.alloc (.cells #[.string t, .slice A os.length cap] 24)) := (Below.refl _ _).alloc (Nat.le_refl _) _
  have e0 : (w.alloc (.cells #[.string t, .slice A os.length cap] 24)).cell? ⟨w.heap.size, 0, none⟩ = some (.string t) := by simp [go_sem]
  have e1 : (w.alloc (.cells #[.string t, .slice A os.length cap] 24)).cell? ⟨w.heap.size, 1, none⟩ = some (.slice A os.length cap) := by simp [go_sem]
  have ef0 : (w.alloc (.cells #[.string t, .slice A os.length cap] 24)).frozen? ⟨w.heap.size, 0, none⟩ = false := by simp [go_sem]
  have ef1 : (w.alloc (.cells #[.string t, .slice A os.length cap] 24)).frozen? ⟨w.heap.size, 1, none⟩ = false := by simp [go_sem]
  have hlt0 : w.heap.size < (w.alloc (.cells #[.string t, .slice A os.length cap] 24)).heap.size := by simp
  have E0 := Lib.hid e0; have E1 := Lib.hid e1; have EF0 := Lib.hid ef0; have EF1 := Lib.hid ef1
  clear hr hrl hrp hlz hg e0 e1 ef0 ef1
  unfold progV
  go_enter Try.func3, Try.ntmps3
  go_upto_region 5 with (first
    | (go_at_call 13; refine (HB.out _).mono ?_; rintro e w1 ⟨rfl, b1⟩; have x0 := (b1.cell (p := ⟨w.heap.size, 0, none⟩) hlt0).trans E0.out; have x1 := (b1.cell (p := ⟨w.heap.size, 1, none⟩) hlt0).trans E1.out)
    | (go_at_call 14; refine (HCu.out _).mono ?_; rintro e w2 ⟨u, os', hu, hos, rfl, b2⟩; have hlt1 : w.heap.size < w1.heap.size := Nat.lt_of_lt_of_le hlt0 b1.size; have y0 := (b2.cell (p := ⟨w.heap.size, 0, none⟩) hlt1).trans x0; have y1 := (b2.cell (p := ⟨w.heap.size, 1, none⟩) hlt1).trans x1; have yf0 := (b2.frozen (p := ⟨w.heap.size, 0, none⟩) hlt1).trans ((b1.frozen (p := ⟨w.heap.size, 0, none⟩) hlt0).trans EF0.out); have yf1 := (b2.frozen (p := ⟨w.heap.size, 1, none⟩) hlt1).trans ((b1.frozen (p := ⟨w.heap.size, 1, none⟩) hlt0).trans EF1.out))
    | (go_at_call 15; refine (HSh.out _).mono ?_; rintro e w2' ⟨pr', hpr, rfl, rfl⟩))
  obtain ⟨z0, z1, bst, hst⟩ := stored2 (w := w2) (u := .string u) (v := .slice A os'.length cap) y0 y1 w.heap.size (Nat.le_refl _)
  obtain ⟨W3, hW3⟩ : ∃ W3, W3 = (w2.setCell ⟨w.heap.size, 0, none⟩ (.string u)).setCell ⟨w.heap.size, 1, none⟩ (.slice A os'.length cap) := ⟨_, rfl⟩
  rw [← hW3] at z0 z1 bst hst
  rw [← hW3]
  have hb3 : Below w.heap.size w W3 := ((b0.trans (b1.mono (Nat.le_of_lt hlt0))).trans (b2.mono (Nat.le_of_lt hlt1))).trans bst
  have hs3 : w.heap.size < W3.heap.size := by have := b2.size; omega
  have hut : u.size ≤ 40 := by rw [hu.out]; exact cutT_size _
  have hol : os'.length ≤ cap := by rw [hos.out, List.length_take]; omega
  have hpl : pr'.length ≤ pc := by rw [hpr.out, List.length_take]; omega
  have HRO : Hid (RO W3 w.heap.size A os') := by rw [hos.out]; exact (HR.out.below hb3).take 64
  have HRB : Hid (RB W3 w.heap.size PA pr') := by rw [hpr.out]; exact (HRP.out.below hb3).take 10
  have HRG := Lib.hid ((HRL.out.below hb3).more (Nat.le_of_lt hs3))
  have HK := Lib.hid (fun W (hb : Below W3.heap.size W3 W) => And.intro ((hb.cell (p := ⟨w.heap.size, 0, none⟩) hs3).trans z0) (And.intro ((hb.cell (p := ⟨w.heap.size, 1, none⟩) hs3).trans z1) (And.intro (HRO.out.below (hb.mono (Nat.le_of_lt hs3))) (HRB.out.below (hb.mono (Nat.le_of_lt hs3))))))
  have HB3 := Lib.hid hb3
  clear hW3 y0 y1 yf0 yf1 x0 x1 z0 z1 bst hst hb3 b0 b1 b2 HR HRL HRP E0 E1 EF0 EF1 HB HCu HSh HRO HRB hlt1 hlt0
  go_wp2_with fail
  refine (HOf.out _ HRG.out).mono ?_
  rintro e w4 ⟨rfl, b4⟩
  have hs4 := b4.size
  have GN4 := Lib.hid (GA.new w4 31 (zG 32))
  have HGL := Lib.hid HGM.out.1
  have HGZ := Lib.hid (gam_len HGM.out)
  clear HRG HOf
  go_wp2_with (first
    | (with_reducible refine wpList_store_g rfl 31 (.tmp 10) (.tmp 24) rfl w4.heap.size (by with_unfolding_all rfl) 31 (zG 32) g GN4.out (by with_unfolding_all rfl) HGZ.out (by rw [HGL.out]; exact infoState) ?_; intro w5 G S R; have G5 := Lib.hid G; have S5 := Lib.hid S; have R5 := Lib.hid R; clear G S R; have K5 := Lib.hid (b4.trans ((made_below R5.out).mono hs4)); obtain ⟨x0, x1, rox, rbx⟩ := HK.out _ K5.out; have RO5 := Lib.hid rox; have RB5 := Lib.hid rbx; clear rox rbx)
    | (with_reducible refine wpList_load_g rfl 31 (.tmp 10) rfl w4.heap.size (by with_unfolding_all rfl) 31 g G5.out Try.underlying31 (by rw [HGL.out]; exact infoState) ?_))
  have hs5 : w5.heap.size = w4.heap.size + 1 := by have := S5.out; simp at this; exact this
  obtain ⟨G, hG⟩ : ∃ G, G = (frameN ⟨u, fr, pr'⟩ os' g).1 := ⟨_, rfl⟩
  obtain ⟨N, hN⟩ : ∃ N : Int, N = (((frameN ⟨u, fr, pr'⟩ os' g).2 : Nat) : Int) := ⟨_, rfl⟩
  have HFG : Hid (gam G) := by rw [hG]; exact frameN_gam _ _ HGM.out
  have HFL := Lib.hid HFG.out.1
  have HFZ := Lib.hid (gam_len HFG.out)
  have HRs := Lib.hid (refstep_any w5 g ⟨u, fr, pr'⟩ A os' cap PA pc (RO5.out.more (by omega)) hol hm (show u.size ≤ 1000000 by omega) HGM.out (RB5.out.more (by omega)) hpl hmp)
  rw [← hG, ← hN] at HRs
  have HGe := Lib.hid hG; have HNe := Lib.hid hN
  clear hG hN
  unfold progV at HRs
  refine HRs.out.mono ?_
  rintro e w6 ⟨rfl, b6⟩
  have hs6 := b6.size
  have GN6 := Lib.hid (GA.new w6 33 (zG 32))
  have K6 := Lib.hid (K5.out.trans (b6.mono K5.out.size))
  have G5s := Lib.hid (G5.out.below b6 (by omega))
  clear HRs x0 x1 RO5 RB5 R5 S5 GN4 G5
  go_wp2_with (first
    | (with_reducible refine wpList_store_g rfl 33 (.tmp 11) (.tmp 31) rfl w6.heap.size (by with_unfolding_all rfl) 33 (zG 32) G GN6.out (by with_unfolding_all rfl) HFZ.out (by rw [HFL.out]; exact infoGame) ?_; intro w7 G S R; have G7 := Lib.hid G; have S7 := Lib.hid S; have R7 := Lib.hid R; clear G S R; have K7 := Lib.hid (K6.out.trans ((made_below R7.out).mono K6.out.size)); obtain ⟨x0, x1, rox, rbx⟩ := HK.out _ K7.out; have RO7 := Lib.hid rox; have RB7 := Lib.hid rbx; clear rox rbx; have G57 := Lib.hid (G5s.out.below (made_below R7.out) (by omega)))
    | (with_reducible refine wpList_load_g rfl 31 (.tmp 10) rfl w4.heap.size (by with_unfolding_all rfl) 31 g G57.out Try.underlying31 (by rw [HGL.out]; exact infoState) ?_))
  have hs7 : w7.heap.size = w6.heap.size + 1 := by have := S7.out; simp at this; exact this
  have HSt := Lib.hid (step_any w7 g ⟨u, fr, pr'⟩ A os' cap w.heap.size PA pc RO7.out (by omega) hol hm (show u.size ≤ 549755813888 by omega) HGM.out (RB7.out.more (by omega)) hpl hmp)
  rw [← HGe.out] at HSt
  unfold progV at HSt
  refine HSt.out.mono ?_
  rintro e w8 ⟨rfl, b8⟩
  have hs8 := b8.size
  have GN8 := Lib.hid (GA.new w8 31 (zG 32))
  have K8 := Lib.hid (K7.out.trans (b8.mono K7.out.size))
  have G58 := Lib.hid (G57.out.below b8 (by omega))
  have G78 := Lib.hid (G7.out.below b8 (by omega))
  clear HSt x0 x1 RO7 RB7 R7 S7 GN6 G57 G7 G5s
  go_wp2_with (first
    | (with_reducible refine wpList_store_g rfl 31 (.tmp 13) (.tmp 37) rfl w8.heap.size (by with_unfolding_all rfl) 31 (zG 32) G GN8.out (by with_unfolding_all rfl) HFZ.out (by rw [HFL.out]; exact infoState) ?_; intro w9 G S R; have G9 := Lib.hid G; have S9 := Lib.hid S; have R9 := Lib.hid R; clear G S R; have K9 := Lib.hid (K8.out.trans ((made_below R9.out).mono K8.out.size)); have G59 := Lib.hid (G58.out.below (made_below R9.out) (by omega)); have G79 := Lib.hid (G78.out.below (made_below R9.out) (by omega)); have bM := (Below.refl w9.heap.size w9).alloc (Nat.le_refl _) (.cells (gM g [.bool false]) 39); have K10 := Lib.hid (K9.out.trans (bM.mono K9.out.size)); obtain ⟨x0, x1, rox, rbx⟩ := HK.out _ K10.out; have RO10 := Lib.hid rox; have RB10 := Lib.hid rbx; clear rox rbx)
    | (with_reducible refine wpList_load_g rfl 31 (.tmp 10) rfl w4.heap.size (by with_unfolding_all rfl) 31 g G59.out Try.underlying31 (by rw [HGL.out]; exact infoState) ?_)
    | (with_reducible refine wpList_build_mem rfl (.tmp 38) rfl g (by with_unfolding_all rfl) HGL.out ?_))
  have hs9 : w9.heap.size = w8.heap.size + 1 := by have := S9.out; simp at this; exact this
  have HM : Hid (Calls Try.prog 19 #[.agg #[.string u, .slice A os'.length cap], .iface 37 (.pointer (some ⟨w9.heap.size, 0, none⟩)), .int .i64 fr, .slice PA pr'.length pc] (w9.alloc (.cells (gM g [.bool false]) 39)) fun e w' => e = .returned (.int .i64 N) ∧ GH w' w9.heap.size 39 G [.bool false] ∧ (w9.alloc (.cells (gM g [.bool false]) 39)).grownBy w' (some w9.heap.size)) := by
    have h := run_m (w9.alloc (.cells (gM g [.bool false]) 39)) w9.heap.size g ⟨u, fr, pr'⟩ A os' cap w.heap.size PA pc RO10.out (by have := bM.size; omega) hol hm (show u.size ≤ 549755813888 by omega) (GH.new_m w9 _ _ _) HGM.out (RB10.out.more (by have := bM.size; omega)) hpl hmp
    rw [← HGe.out, ← HNe.out] at h
    exact h
  refine HM.out.mono ?_
  rintro e w11 ⟨rfl, h11, r11⟩
  have b911 : Below w9.heap.size w9 w11 := made_below r11
  have T11 := Lib.hid (G9.out.below b911 (by omega))
  have Q11 := Lib.hid (G79.out.below b911 (by omega))
  have M11 := Lib.hid h11
  have C11 := Lib.hid (h11.bad_of HFL.out)
  have K11 := Lib.hid (K9.out.trans (b911.mono K9.out.size))
  have heq : ∀ w, (Op.equalIn 10000 33 (.agg (gC G)) (.agg (gC G))).run Try.prog w = .ok true w := fun w => by
    rw [equalIn_g (P := Try.prog) 33 Try.underlying33 Try.underlying21 cell_i32 G G HFL.out HFL.out w, decide_eq_true rfl]
  have hgd := guardGame9
  clear hs5 hs7 hs9 HM h11 r11 x0 x1 RO10 RB10 bM K10 G9 R9 S9 G79 G59 G58 GN8 b911 hz hzg
  go_wp2_with fail
  refine wp_region_held_drew (S := (fun w' => GA w' w8.heap.size 31 G ∧ GA w' w6.heap.size 33 G ∧ GH w' w9.heap.size 39 G [.bool false] ∧ w'.cell? ⟨w9.heap.size, 32, none⟩ = some (.bool false))) (by kernel_rfl) (⟨T11.out.drew, Q11.out.drew, M11.out.drew, C11.out⟩) (fun hHeld => ?_)
  refine held_take (i := 0) (v := ?_) rfl (by kernel_rfl) (by kernel_rfl) (by kernel_rfl) (fun _ _ _ h => h) (by rfl) hHeld ?_ ?_
  rotate_left 1
  · (intro w hSw; (try dsimp only at hSw); go_simp; try (with_reducible rfl))
  try simp only [Act.put, List.setIfInBounds_toArray, List.set_cons_zero, List.set_cons_succ]
  refine held_take (i := 1) (v := ?_) rfl (by kernel_rfl) (by kernel_rfl) (by kernel_rfl) (fun _ _ _ h => h) (by rfl) hHeld ?_ ?_
  rotate_left 1
  · (intro w hSw; (try dsimp only at hSw); go_simp; try (with_reducible rfl))
  try simp only [Act.put, List.setIfInBounds_toArray, List.set_cons_zero, List.set_cons_succ]
  refine held_take (i := 2) (v := ?_) rfl (by kernel_rfl) (by kernel_rfl) (by kernel_rfl) (fun _ _ _ h => h) (by rfl) hHeld ?_ ?_
  rotate_left 1
  · (intro w hSw; (try dsimp only at hSw); go_simp; try (with_reducible rfl))
  try simp only [Act.put, List.setIfInBounds_toArray, List.set_cons_zero, List.set_cons_succ]
  refine held_take (i := 3) (v := ?_) rfl (by kernel_rfl) (by kernel_rfl) (by kernel_rfl) (fun _ _ _ h => h) (by rfl) hHeld ?_ ?_
  rotate_left 1
  · (intro w hSw; (try dsimp only at hSw); go_simp; try (with_reducible rfl))
  try simp only [Act.put, List.setIfInBounds_toArray, List.set_cons_zero, List.set_cons_succ]
  refine held_take (i := 4) (v := ?_) rfl (by kernel_rfl) (by kernel_rfl) (by kernel_rfl) (fun _ _ _ h => h) (by rfl) hHeld ?_ ?_
  rotate_left 1
  · (intro w hSw; (try dsimp only at hSw); go_simp; try (with_reducible rfl))
  try simp only [Act.put, List.setIfInBounds_toArray, List.set_cons_zero, List.set_cons_succ]
  refine held_take (i := 5) (v := ?_) rfl (by kernel_rfl) (by kernel_rfl) (by kernel_rfl) (fun _ _ _ h => h) (by rfl) hHeld ?_ ?_
  rotate_left 1
  · (intro w hSw; (try dsimp only at hSw); go_simp; try (with_reducible rfl))
  try simp only [Act.put, List.setIfInBounds_toArray, List.set_cons_zero, List.set_cons_succ]
  refine held_take (i := 6) (v := ?_) rfl (by kernel_rfl) (by kernel_rfl) (by kernel_rfl) (fun _ _ _ h => h) (by rfl) hHeld ?_ ?_
  rotate_left 1
  · (intro w hSw; (try dsimp only at hSw); go_simp; try (with_reducible rfl))
  try simp only [Act.put, List.setIfInBounds_toArray, List.set_cons_zero, List.set_cons_succ]
  refine held_take (i := 7) (v := ?_) rfl (by kernel_rfl) (by kernel_rfl) (by kernel_rfl) (fun _ _ _ h => h) (by rfl) hHeld ?_ ?_
  rotate_left 1
  · (intro w hSw; (try dsimp only at hSw); go_simp; try (with_reducible rfl))
  try simp only [Act.put, List.setIfInBounds_toArray, List.set_cons_zero, List.set_cons_succ]
  refine held_take (i := 8) (v := ?_) rfl (by kernel_rfl) (by kernel_rfl) (by kernel_rfl) (fun _ _ _ h => h) (by rfl) hHeld ?_ ?_
  rotate_left 1
  · (intro w hSw; (try dsimp only at hSw); go_simp; try (with_reducible rfl))
  try simp only [Act.put, List.setIfInBounds_toArray, List.set_cons_zero, List.set_cons_succ]
  refine held_take (i := 9) (v := ?_) rfl (by kernel_rfl) (by kernel_rfl) (by kernel_rfl) (fun _ _ _ h => h) (by rfl) hHeld ?_ ?_
  rotate_left 1
  · (intro w hSw; (try dsimp only at hSw); go_simp; try (with_reducible rfl))
  try simp only [Act.put, List.setIfInBounds_toArray, List.set_cons_zero, List.set_cons_succ]
  refine held_take (i := 10) (v := ?_) rfl (by kernel_rfl) (by kernel_rfl) (by kernel_rfl) (fun _ _ _ h => h) (by rfl) hHeld ?_ ?_
  rotate_left 1
  · (intro w hSw; (try dsimp only at hSw); go_simp; try (with_reducible rfl))
  try simp only [Act.put, List.setIfInBounds_toArray, List.set_cons_zero, List.set_cons_succ]
  refine held_take (i := 11) (v := .agg (gC G)) rfl (by kernel_rfl) (by kernel_rfl) (by kernel_rfl) (fun _ _ _ h => h) (by rfl) hHeld (exec_load_g _ _ rfl w8.heap.size (by rfl) 31 G (fun w h => h.1) Try.underlying31 (by rw [HFL.out]; exact infoState)) ?_
  try simp only [Act.put, List.setIfInBounds_toArray, List.set_cons_zero, List.set_cons_succ]
  refine held_take (i := 12) (v := .agg (gC G)) rfl (by kernel_rfl) (by kernel_rfl) (by kernel_rfl) (fun _ _ _ h => h) (by rfl) hHeld (exec_load_g _ _ rfl w6.heap.size (by rfl) 33 G (fun w h => h.2.1) Try.underlying33 (by rw [HFL.out]; exact infoGame)) ?_
  try simp only [Act.put, List.setIfInBounds_toArray, List.set_cons_zero, List.set_cons_succ]
  refine held_take (i := 13) (v := ?_) rfl (by kernel_rfl) (by kernel_rfl) (by kernel_rfl) (fun _ _ _ h => h) (by rfl) hHeld ?_ ?_
  rotate_left 1
  · (intro w hSw; (try dsimp only at hSw); go_simp; try (with_reducible rfl))
  try simp only [Act.put, List.setIfInBounds_toArray, List.set_cons_zero, List.set_cons_succ]
  refine held_take (i := 14) (v := ?_) rfl (by kernel_rfl) (by kernel_rfl) (by kernel_rfl) (fun _ _ _ h => h) (by rfl) hHeld ?_ ?_
  rotate_left 1
  · (intro w hSw; (try dsimp only at hSw); go_simp; try (with_reducible rfl))
  try simp only [Act.put, List.setIfInBounds_toArray, List.set_cons_zero, List.set_cons_succ]
  refine held_take (i := 15) (v := ?_) rfl (by kernel_rfl) (by kernel_rfl) (by kernel_rfl) (fun _ _ _ h => h) (by rfl) hHeld ?_ ?_
  rotate_left 1
  · (intro w hSw; (try dsimp only at hSw); go_simp; try (with_reducible rfl))
  try simp only [Act.put, List.setIfInBounds_toArray, List.set_cons_zero, List.set_cons_succ]
  refine held_take (i := 16) (v := ?_) rfl (by kernel_rfl) (by kernel_rfl) (by kernel_rfl) (fun _ _ _ h => h) (by rfl) hHeld ?_ ?_
  rotate_left 1
  · (intro w hSw; (try dsimp only at hSw); go_simp; try (with_reducible rfl))
  try simp only [Act.put, List.setIfInBounds_toArray, List.set_cons_zero, List.set_cons_succ]
  refine held_take (i := 17) (v := ?_) rfl (by kernel_rfl) (by kernel_rfl) (by kernel_rfl) (fun _ _ _ h => h) (by rfl) hHeld ?_ ?_
  rotate_left 1
  · (intro w hSw; (try dsimp only at hSw); go_simp; try (with_reducible rfl))
  try simp only [Act.put, List.setIfInBounds_toArray, List.set_cons_zero, List.set_cons_succ]
  refine held_take (i := 18) (v := ?_) rfl (by kernel_rfl) (by kernel_rfl) (by kernel_rfl) (fun _ _ _ h => h) (by rfl) hHeld ?_ ?_
  rotate_left 1
  · (intro w hSw; (try dsimp only at hSw); go_simp; try (with_reducible rfl))
  try simp only [Act.put, List.setIfInBounds_toArray, List.set_cons_zero, List.set_cons_succ]
  refine held_take (i := 19) (v := .agg (gC G)) rfl (by kernel_rfl) (by kernel_rfl) (by kernel_rfl) (fun _ _ _ h => h) (by rfl) hHeld (exec_load_h 31 _ rfl w9.heap.size (by rfl) 39 G [.bool false] (fun w h => h.2.2.1) Try.underlying31 (by rw [HFL.out]; exact infoState)) ?_
  try simp only [Act.put, List.setIfInBounds_toArray, List.set_cons_zero, List.set_cons_succ]
  refine held_take (i := 20) (v := .agg (gC G)) rfl (by kernel_rfl) (by kernel_rfl) (by kernel_rfl) (fun _ _ _ h => h) (by rfl) hHeld (exec_load_g _ _ rfl w6.heap.size (by rfl) 33 G (fun w h => h.2.1) Try.underlying33 (by rw [HFL.out]; exact infoGame)) ?_
  try simp only [Act.put, List.setIfInBounds_toArray, List.set_cons_zero, List.set_cons_succ]
  refine held_take (i := 21) (v := ?_) rfl (by kernel_rfl) (by kernel_rfl) (by kernel_rfl) (fun _ _ _ h => h) (by rfl) hHeld ?_ ?_
  rotate_left 1
  · (intro w hSw; (try dsimp only at hSw); go_simp; try (with_reducible rfl))
  try simp only [Act.put, List.setIfInBounds_toArray, List.set_cons_zero, List.set_cons_succ]
  refine held_take (i := 22) (v := ?_) rfl (by kernel_rfl) (by kernel_rfl) (by kernel_rfl) (fun _ _ _ h => h) (by rfl) hHeld ?_ ?_
  rotate_left 1
  · (intro w hSw; (try dsimp only at hSw); go_simp; try (with_reducible rfl))
  try simp only [Act.put, List.setIfInBounds_toArray, List.set_cons_zero, List.set_cons_succ]
  refine held_take (i := 23) (v := ?_) rfl (by kernel_rfl) (by kernel_rfl) (by kernel_rfl) (fun _ _ _ h => h) (by rfl) hHeld ?_ ?_
  rotate_left 1
  · (intro w hSw; (try dsimp only at hSw); go_simp; try (with_reducible rfl))
  try simp only [Act.put, List.setIfInBounds_toArray, List.set_cons_zero, List.set_cons_succ]
  refine wpAnyH_done (by kernel_rfl) ?_ _
  go_wp2
  go_ret
  exact ⟨rfl, HB3.out.trans (K11.out.drew.mono (Nat.le_of_lt hs3))⟩
end Go.Proofs.Ytkfbepkejdmaeaa
