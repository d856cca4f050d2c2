/- WALK of the law VmTwice. -/
import Derived.Test.YtkfbepkejdmaeaaVa
import Derived.Deep.RegionWith
import Derived.Deep.DeepCutAuto
namespace Go.Proofs.Ytkfbepkejdmaeaa
set_option maxRecDepth 100000
open Go.RowKit
set_option linter.unusedVariables false

set_option maxHeartbeats 8000000 in
theorem twice_law (t1 t2 : ByteArray) (A1 A2 : Option Addr) (x y : List O4) (c1 c2 : Nat) (AL : Option Addr) (l : List Int) (capl : Nat) (fr : Int) (PA : Option Addr) (pr : List UInt8) (pc : Nat) (w : World)
    (h1 : RO w w.heap.size A1 x) (h2 : RO w w.heap.size A2 y) (k1 : x.length ≤ c1) (k2 : y.length ≤ c2) (m1 : c1 ≤ maxLen) (m2 : c2 ≤ maxLen) (hrl : RG w w.heap.size AL l) (hcl : l.length ≤ capl) (hml : capl ≤ maxLen) (hlz : ∀ z ∈ l, -2147483648 ≤ z ∧ z ≤ 2147483647)
    (hrp : RB w w.heap.size PA pr) (hcp : pr.length ≤ pc) (hmp : pc ≤ maxLen) :
    Calls Try.prog 4 #[progV t1 A1 x.length c1, progV t2 A2 y.length c2, .slice AL l.length capl, .int .i64 fr, .slice PA pr.length pc] w fun e w' => e = .returned (.bool true) ∧ Below w.heap.size w w' := by
  have hz := zeroState
  have HB := Lib.hid begun9_any
  have HC1 := Lib.hid (fun W => lcut64_any t1 A1 x c1 W k1 m1)
  have HC2 := Lib.hid (fun W => lcut64_any t2 A2 y c2 W k2 m2)
  have HSh := Lib.hid (fun W => lshort_ten PA pr pc W hcp hmp)
  have HOf := Lib.hid (fun W (h : RG W W.heap.size AL l) => of_any AL l capl W h hcl hml)
  have HGM : Hid (gam (ofL l)) := gam.ofL hlz
  obtain ⟨g, hg⟩ : ∃ g, g = ofL l := ⟨_, rfl⟩
  rw [← hg] at HOf HGM
  have H1 := Lib.hid h1; have H2 := Lib.hid h2; have HRL := Lib.hid hrl; have HRP := Lib.hid hrp
  clear h1 h2 hrl hrp hlz hg
  unfold progV
  have b0 : Below w.heap.size w ((w.alloc (.cells #[.string t1, .slice A1 x.length c1] 24)).alloc (.cells #[.string t2, .slice A2 y.length c2] 24)) := ((Below.refl _ _).alloc (Nat.le_refl _) _).alloc (by simp) _
  go_enter Try.func4, Try.ntmps4
  go_wp2_with fail
  refine (HB.out _).mono ?_
  rintro e w1 ⟨rfl, hb1⟩
  have hs1 := hb1.size
  simp only [World.size_alloc] at hs1
  have p0 := hb1.cell (p := ⟨w.heap.size, 0, none⟩) (by simp; omega)
  have p1 := hb1.cell (p := ⟨w.heap.size, 1, none⟩) (by simp; omega)
  have q0 := hb1.cell (p := ⟨(w.heap.size + 1), 0, none⟩) (by simp)
  have q1 := hb1.cell (p := ⟨(w.heap.size + 1), 1, none⟩) (by simp)
  have fp0 := hb1.frozen (p := ⟨w.heap.size, 0, none⟩) (by simp; omega)
  have fp1 := hb1.frozen (p := ⟨w.heap.size, 1, none⟩) (by simp; omega)
  have fq0 := hb1.frozen (p := ⟨(w.heap.size + 1), 0, none⟩) (by simp)
  have fq1 := hb1.frozen (p := ⟨(w.heap.size + 1), 1, none⟩) (by simp)
  simp at p0 p1 q0 q1 fp0 fp1 fq0 fq1
  have hb2 := b0.trans (hb1.mono (by simp; omega))
  clear hb1 b0 HB
  go_upto_region 4 with fail
  have hs2 : w.heap.size + 1 + 1 ≤ w1.drew.heap.size := hs1
  clear hs1
  have hs1 := hs2
  clear hs2
  replace hb2 := hb2.drew
  go_cut [4] (fun s4 wc => ∃ u1 x' u2 y' pr', s4 = .slice PA (pr' : List UInt8).length pc ∧ Hid (u1 = cutT t1) ∧ Hid (x' = x.take 64) ∧ Hid (u2 = cutT t2) ∧ Hid (y' = y.take 64) ∧ Hid (pr' = pr.take 10) ∧ wc.cell? ⟨w.heap.size, 0, none⟩ = some (.string u1) ∧ wc.cell? ⟨w.heap.size, 1, none⟩ = some (.slice A1 x'.length c1) ∧ wc.cell? ⟨(w.heap.size + 1), 0, none⟩ = some (.string u2) ∧ wc.cell? ⟨(w.heap.size + 1), 1, none⟩ = some (.slice A2 y'.length c2) ∧ Below w.heap.size w wc ∧ w.heap.size + 2 ≤ wc.heap.size)
  case first =>
   go_region_with (first
    | (go_at_call 14; ((with_reducible refine (HC1.out _).mono ?_); rintro e w2 ⟨u1, x', hu1, hx', rfl, hb3⟩; (replace p0 := (hb3.cell (p := ⟨w.heap.size, 0, none⟩) (show w.heap.size < _ by omega)).trans p0); (replace p1 := (hb3.cell (p := ⟨w.heap.size, 1, none⟩) (show w.heap.size < _ by omega)).trans p1); (replace q0 := (hb3.cell (p := ⟨(w.heap.size + 1), 0, none⟩) (show (w.heap.size + 1) < _ by omega)).trans q0); (replace q1 := (hb3.cell (p := ⟨(w.heap.size + 1), 1, none⟩) (show (w.heap.size + 1) < _ by omega)).trans q1); (replace fp0 := (hb3.frozen (p := ⟨w.heap.size, 0, none⟩) (show w.heap.size < _ by omega)).trans fp0); (replace fp1 := (hb3.frozen (p := ⟨w.heap.size, 1, none⟩) (show w.heap.size < _ by omega)).trans fp1); (replace fq0 := (hb3.frozen (p := ⟨(w.heap.size + 1), 0, none⟩) (show (w.heap.size + 1) < _ by omega)).trans fq0); (replace fq1 := (hb3.frozen (p := ⟨(w.heap.size + 1), 1, none⟩) (show (w.heap.size + 1) < _ by omega)).trans fq1); replace hb2 := hb2.trans (hb3.mono (by omega)); replace hs1 := Nat.le_trans hs1 hb3.size))
    | (go_at_call 14; ((with_reducible refine (HC2.out _).mono ?_); rintro e w3 ⟨u2, y', hu2, hy', rfl, hb4⟩; (replace p0 := (hb4.cell (p := ⟨w.heap.size, 0, none⟩) (show w.heap.size < _ by omega)).trans p0); (replace p1 := (hb4.cell (p := ⟨w.heap.size, 1, none⟩) (show w.heap.size < _ by omega)).trans p1); (replace q0 := (hb4.cell (p := ⟨(w.heap.size + 1), 0, none⟩) (show (w.heap.size + 1) < _ by omega)).trans q0); (replace q1 := (hb4.cell (p := ⟨(w.heap.size + 1), 1, none⟩) (show (w.heap.size + 1) < _ by omega)).trans q1); (replace fp0 := (hb4.frozen (p := ⟨w.heap.size, 0, none⟩) (show w.heap.size < _ by omega)).trans fp0); (replace fp1 := (hb4.frozen (p := ⟨w.heap.size, 1, none⟩) (show w.heap.size < _ by omega)).trans fp1); (replace fq0 := (hb4.frozen (p := ⟨(w.heap.size + 1), 0, none⟩) (show (w.heap.size + 1) < _ by omega)).trans fq0); (replace fq1 := (hb4.frozen (p := ⟨(w.heap.size + 1), 1, none⟩) (show (w.heap.size + 1) < _ by omega)).trans fq1); replace hb2 := hb2.trans (hb4.mono (by omega)); replace hs1 := Nat.le_trans hs1 hb4.size))
    | (go_at_call 15; ((with_reducible refine (HSh.out _).mono ?_); rintro e w9 ⟨pr', hpr, rfl, rfl⟩)))
   all_goals
     go_wp2_with fail
     go_meet
     refine ⟨u1, x', u2, y', pr', rfl, hu1, hx', hu2, hy', hpr, ?_, ?_, ?_, ?_, ?_, ?_⟩
     · go_simp
     · go_simp
     · go_simp
     · go_simp
     · repeat (first | exact hb2 | refine Below.setCell ?_ (by first | omega | (simp; done) | (simp; omega)) _)
     · go_simp
  case rest =>
    obtain ⟨u1, x', u2, y', pr', rfl, hu1, hx', hu2, hy', hpr, z0, z1, y0, y1, hb3, hs3⟩ := hcut
    have hut1 : u1.size ≤ 40 := by rw [hu1.out]; exact cutT_size _
    have hut2 : u2.size ≤ 40 := by rw [hu2.out]; exact cutT_size _
    have hol1 : x'.length ≤ c1 := by rw [hx'.out, List.length_take]; omega
    have hol2 : y'.length ≤ c2 := by rw [hy'.out, List.length_take]; omega
    have hpl : pr'.length ≤ pc := by rw [hpr.out, List.length_take]; omega
    have HRO1 : Hid (RO wc w.heap.size A1 x') := by rw [hx'.out]; exact (H1.out.below hb3).take 64
    have HRO2 : Hid (RO wc w.heap.size A2 y') := by rw [hy'.out]; exact (H2.out.below hb3).take 64
    have HRB : Hid (RB wc w.heap.size PA pr') := by rw [hpr.out]; exact (HRP.out.below hb3).take 10
    have HRG := Lib.hid (HRL.out.below hb3)
    have hlt1 : w.heap.size < wc.heap.size := by omega
    have hlt2 : (w.heap.size + 1) < wc.heap.size := by omega
    have HK := Lib.hid (fun W (hb : Below wc.heap.size wc W) => And.intro ((hb.cell (p := ⟨w.heap.size, 0, none⟩) hlt1).trans z0) (And.intro ((hb.cell (p := ⟨w.heap.size, 1, none⟩) hlt1).trans z1) (And.intro ((hb.cell (p := ⟨(w.heap.size + 1), 0, none⟩) hlt2).trans y0) (And.intro ((hb.cell (p := ⟨(w.heap.size + 1), 1, none⟩) hlt2).trans y1) (And.intro (HRO1.out.below (hb.mono (Nat.le_of_lt hlt1))) (And.intro (HRO2.out.below (hb.mono (Nat.le_of_lt hlt1))) (And.intro (HRB.out.below (hb.mono (Nat.le_of_lt hlt1))) (HRG.out.below (hb.mono (Nat.le_of_lt hlt1))))))))))
    have HB3 := Lib.hid hb3
    clear z0 z1 y0 y1 hb3 H1 H2 HRL HRP HC1 HC2 HSh HRO1 HRO2 HRB hb2 hs1 p0 p1 q0 q1 fp0 fp1 fq0 fq1 hu1 hx' hu2 hy' hpr
    go_wp2_with fail
    refine (HOf.out _ (HRG.out.more (by omega))).mono ?_
    rintro e w4 ⟨rfl, b4⟩
    have hs4 := b4.size
    have GN4 := Lib.hid (GA.new w4 31 (zG 32))
    have HGL := Lib.hid HGM.out.1
    have HGZ := Lib.hid (gam_len HGM.out)
    obtain ⟨G, hG⟩ : ∃ G, G = (frameN ⟨u1, fr, pr'⟩ x' g).1 := ⟨_, rfl⟩
    have HFG : Hid (gam G) := by rw [hG]; exact frameN_gam _ _ HGM.out
    have HFL := Lib.hid HFG.out.1
    have HFZ := Lib.hid (gam_len HFG.out)
    have HST : Hid (∀ W, RO W w.heap.size A1 x' → RB W w.heap.size PA pr' → w.heap.size ≤ W.heap.size → Calls Try.prog 18 #[.agg #[.string u1, .slice A1 x'.length c1], .agg (gC g), .int .i64 fr, .slice PA pr'.length pc] W fun e w' => e = .returned (.agg (gC G)) ∧ Below W.heap.size W w') := fun W ro rb hW => by
      have h := step_any W g ⟨u1, fr, pr'⟩ A1 x' c1 w.heap.size PA pc ro hW hol1 m1 (show u1.size ≤ 549755813888 by omega) HGM.out (rb.more hW) hpl hmp
      rw [← hG] at h
      exact h
    have HSQ : Hid (∀ W g2, gam g2 → RO W w.heap.size A2 y' → RB W w.heap.size PA pr' → w.heap.size ≤ W.heap.size → Calls Try.prog 18 #[.agg #[.string u2, .slice A2 y'.length c2], .agg (gC g2), .int .i64 fr, .slice PA pr'.length pc] W fun e w' => (∃ v, e = .returned v) ∧ Below W.heap.size W w') := fun W g2 hg2 ro rb hW => by
      refine (step_any W g2 ⟨u2, fr, pr'⟩ A2 y' c2 w.heap.size PA pc ro hW hol2 m2 (show u2.size ≤ 549755813888 by omega) hg2 (rb.more hW) hpl hmp).mono ?_
      rintro e w' ⟨he, hb⟩
      exact ⟨⟨_, he⟩, hb⟩
    clear hG HRG
    go_wp2_with (first
      | (with_reducible refine wpList_store_g rfl 31 (.tmp 12) (.tmp 25) rfl w4.heap.size (by with_unfolding_all rfl) 31 (zG 32) g GN4.out (by with_unfolding_all rfl) HGZ.out (by rw [HGL.out]; exact infoState) ?_; intro w5 G S R; have G5 := Lib.hid G; have S5 := Lib.hid S; have R5 := Lib.hid R; clear G S R; have K5 := Lib.hid (b4.trans ((made_below R5.out).mono hs4)); obtain ⟨x0, x1, x2, x3, ro1, ro2, rb, rg⟩ := HK.out _ K5.out; have O5 := Lib.hid ro1; have B5 := Lib.hid rb; clear ro1 ro2 rb rg)
      | (with_reducible refine wpList_load_g rfl 31 (.tmp 12) rfl w4.heap.size (by with_unfolding_all rfl) 31 g G5.out Try.underlying31 (by rw [HGL.out]; exact infoState) ?_))
    have hs5 : Hid (w5.heap.size = w4.heap.size + 1) := by have := S5.out; simp at this; exact this
    refine (HST.out _ O5.out B5.out (by have := hs5.out; omega)).mono ?_
    rintro e w6 ⟨rfl, b6⟩
    have hs6 := b6.size
    have GN6 := Lib.hid (GA.new w6 31 (zG 32))
    have K6 := Lib.hid (K5.out.trans (b6.mono K5.out.size))
    have G5s := Lib.hid (G5.out.below b6 (by have := hs5.out; omega))
    have h46 : w4.heap.size < w6.heap.size := by have := hs5.out; omega
    clear x0 x1 x2 x3 O5 B5 R5 S5 GN4 G5
    go_wp2_with (first
      | (with_reducible refine wpList_store_g rfl 31 (.tmp 13) (.tmp 30) rfl w6.heap.size (by with_unfolding_all rfl) 31 (zG 32) G GN6.out (by with_unfolding_all rfl) HFZ.out (by rw [HFL.out]; exact infoState) ?_; intro w7 G S R; have G7 := Lib.hid G; have S7 := Lib.hid S; have R7 := Lib.hid R; clear G S R; have K7 := Lib.hid (K6.out.trans ((made_below R7.out).mono K6.out.size)); obtain ⟨x0, x1, x2, x3, ro1, ro2, rb, rg⟩ := HK.out _ K7.out; have O7 := Lib.hid ro2; have B7 := Lib.hid rb; clear ro1 ro2 rb rg; have G57 := Lib.hid (G5s.out.below (made_below R7.out) h46))
      | (with_reducible refine wpList_load_g rfl 31 (.tmp 12) rfl w4.heap.size (by with_unfolding_all rfl) 31 g G57.out Try.underlying31 (by rw [HGL.out]; exact infoState) ?_))
    have hs7 : Hid (w7.heap.size = w6.heap.size + 1) := by have := S7.out; simp at this; exact this
    refine (HSQ.out _ g HGM.out O7.out B7.out (by have := hs7.out; omega)).mono ?_
    rintro e w8 ⟨⟨v8, rfl⟩, b8⟩
    have hs8 := b8.size
    have K8 := Lib.hid (K7.out.trans (b8.mono K7.out.size))
    have G58 := Lib.hid (G57.out.below b8 (by have := hs7.out; omega))
    have G78 := Lib.hid (G7.out.below b8 (by have := hs7.out; omega))
    have h68 : w6.heap.size < w8.heap.size := by have := hs7.out; omega
    obtain ⟨x0', x1', x2', x3', ro1, ro2, rb, rg⟩ := HK.out _ K8.out
    have O8 := Lib.hid ro2; have B8 := Lib.hid rb
    clear ro1 ro2 rb rg x0 x1 x2 x3 O7 B7 R7 S7 GN6 G57 G7 G5s
    go_wp2_with (with_reducible refine wpList_load_g rfl 31 (.tmp 13) rfl w6.heap.size (by with_unfolding_all rfl) 31 G G78.out Try.underlying31 (by rw [HFL.out]; exact infoState) ?_)
    refine (HSQ.out _ G HFG.out O8.out B8.out (by have := hs7.out; omega)).mono ?_
    rintro e w9 ⟨⟨v9, rfl⟩, b9⟩
    have hs9 := b9.size
    have K9 := Lib.hid (K8.out.trans (b9.mono K8.out.size))
    have G59 := Lib.hid (G58.out.below b9 (by omega))
    have G79 := Lib.hid (G78.out.below b9 (by omega))
    obtain ⟨x0, x1, x2, x3, ro1, ro2, rb, rg⟩ := HK.out _ K9.out
    have O9 := Lib.hid ro1; have B9 := Lib.hid rb
    clear ro1 ro2 rb rg x0' x1' x2' x3' O8 B8 G58 G78
    go_wp2_with (with_reducible refine wpList_load_g rfl 31 (.tmp 12) rfl w4.heap.size (by with_unfolding_all rfl) 31 g G59.out Try.underlying31 (by rw [HGL.out]; exact infoState) ?_)
    refine (HST.out _ O9.out B9.out (by have := hs7.out; omega)).mono ?_
    rintro e w10 ⟨rfl, b10⟩
    have hs10 := b10.size
    have K10 := Lib.hid (K9.out.trans (b10.mono K9.out.size))
    have G510 := Lib.hid (G59.out.below b10 (by omega))
    have G710 := Lib.hid (G79.out.below b10 (by omega))
    have GN10 := Lib.hid (GA.new w10 31 (zG 32))
    have h410 : w4.heap.size < w10.heap.size := by omega
    have h610 : w6.heap.size < w10.heap.size := by omega
    clear x0 x1 x2 x3 O9 B9 G59 G79
    go_wp2_with (with_reducible refine wpList_store_g rfl 31 (.tmp 14) (.tmp 45) rfl w10.heap.size (by with_unfolding_all rfl) 31 (zG 32) G GN10.out (by with_unfolding_all rfl) HFZ.out (by rw [HFL.out]; exact infoState) ?_; intro w11 G S R; have G11 := Lib.hid G; have S11 := Lib.hid S; have R11 := Lib.hid R; clear G S R)
    have bm := made_below R11.out
    have K11 := Lib.hid (K10.out.trans (bm.mono K10.out.size))
    have T11 := Lib.hid (G510.out.below bm h410)
    have U11 := Lib.hid (G710.out.below bm h610)
    obtain ⟨x0, x1, x2, x3, ro1, ro2, rb, rg⟩ := HK.out _ K11.out
    have RG11 : Hid (RG w11.drew w11.drew.heap.size AL l) := rg.more (by have h := K11.out.size; show w.heap.size ≤ w11.heap.size; omega)
    have heq1 : ∀ w, (Op.equalIn 10000 33 (.agg (gC G)) (.agg (gC G))).run Try.prog w = .ok true w := fun w => by
      rw [equalIn_g (P := Try.prog) 33 Try.underlying33 Try.underlying21 cell_i32 G G HFL.out HFL.out w, decide_eq_true rfl]
    have heq2 : ∀ w, (Op.equalIn 10000 33 (.agg (gC g)) (.agg (gC g))).run Try.prog w = .ok true w := fun w => by
      rw [equalIn_g (P := Try.prog) 33 Try.underlying33 Try.underlying21 cell_i32 g g HGL.out HGL.out w, decide_eq_true rfl]
    have hgd := guardGame9
    have hbd : Below w11.heap.size w11.drew w11.drew := Below.refl _ _
    have l4 := T11.out.lt; have l6 := U11.out.lt; have l10 := G11.out.lt
    clear ro1 ro2 rb rg x0 x1 x2 x3 R11 S11 GN10 G510 G710 bm K10 HST HSQ hz
    go_wp2_with fail
    refine wp_region_held_drew (S := (fun w' => GA w' w4.heap.size 31 g ∧ GA w' w6.heap.size 31 G ∧ GA w' w10.heap.size 31 G)) (by kernel_rfl) (⟨T11.out.drew, U11.out.drew, G11.out.drew⟩) (fun hHeld => ?_)
    refine held_take (i := 0) (v := .agg (gC G)) rfl (by kernel_rfl) (by kernel_rfl) (by kernel_rfl) (fun _ _ _ h => h) (by rfl) hHeld (exec_load_g _ _ rfl w6.heap.size (by rfl) 31 G (fun w h => h.2.1) Try.underlying31 (by rw [HFL.out]; exact infoState)) ?_
    try simp only [Act.put, List.setIfInBounds_toArray, List.set_cons_zero, List.set_cons_succ]
    refine held_take (i := 1) (v := .agg (gC G)) rfl (by kernel_rfl) (by kernel_rfl) (by kernel_rfl) (fun _ _ _ h => h) (by rfl) hHeld (exec_load_g _ _ rfl w10.heap.size (by rfl) 31 G (fun w h => h.2.2) Try.underlying31 (by rw [HFL.out]; exact infoState)) ?_
    try simp only [Act.put, List.setIfInBounds_toArray, List.set_cons_zero, List.set_cons_succ]
    refine held_take (i := 2) (v := ?_) rfl (by kernel_rfl) (by kernel_rfl) (by kernel_rfl) (fun _ _ _ h => h) (by rfl) hHeld ?_ ?_
    rotate_left 1
    · (intro w hSw; (try dsimp only at hSw); go_simp; try (with_reducible rfl))
    try simp only [Act.put, List.setIfInBounds_toArray, List.set_cons_zero, List.set_cons_succ]
    refine held_take (i := 3) (v := ?_) rfl (by kernel_rfl) (by kernel_rfl) (by kernel_rfl) (fun _ _ _ h => h) (by rfl) hHeld ?_ ?_
    rotate_left 1
    · (intro w hSw; (try dsimp only at hSw); go_simp; try (with_reducible rfl))
    try simp only [Act.put, List.setIfInBounds_toArray, List.set_cons_zero, List.set_cons_succ]
    refine held_take (i := 4) (v := .agg (gC g)) rfl (by kernel_rfl) (by kernel_rfl) (by kernel_rfl) (fun _ _ _ h => h) (by rfl) hHeld (exec_load_g _ _ rfl w4.heap.size (by rfl) 31 g (fun w h => h.1) Try.underlying31 (by rw [HGL.out]; exact infoState)) ?_
    try simp only [Act.put, List.setIfInBounds_toArray, List.set_cons_zero, List.set_cons_succ]
    refine held_take (i := 5) (v := ?_) rfl (by kernel_rfl) (by kernel_rfl) (by kernel_rfl) (fun _ _ _ h => h) (by rfl) hHeld ?_ ?_
    rotate_left 1
    · (intro w hSw; (try dsimp only at hSw); go_simp; try (with_reducible rfl))
    try simp only [Act.put, List.setIfInBounds_toArray, List.set_cons_zero, List.set_cons_succ]
    refine held_one (i := 6) rfl (by kernel_rfl) (by rfl) (fun K hK => ?_)
    go_simp
    refine (HOf.out _ RG11.out).mono ?_
    rintro e w12 ⟨rfl, R12⟩
    replace hbd := hbd.trans (R12.mono hbd.size)
    refine hK.out _ _ (⟨T11.out.drew.below hbd l4, U11.out.drew.below hbd l6, G11.out.drew.below hbd l10⟩) (fun hHeld2 => ?_)
    clear hK K hHeld; have hHeld := hHeld2; clear hHeld2
    try simp only [Act.put, List.setIfInBounds_toArray, List.set_cons_zero, List.set_cons_succ]
    refine held_take (i := 7) (v := ?_) rfl (by kernel_rfl) (by kernel_rfl) (by kernel_rfl) (fun _ _ _ h => h) (by rfl) hHeld ?_ ?_
    rotate_left 1
    · (intro w hSw; (try dsimp only at hSw); go_simp; try (with_reducible rfl))
    try simp only [Act.put, List.setIfInBounds_toArray, List.set_cons_zero, List.set_cons_succ]
    refine held_take (i := 8) (v := ?_) rfl (by kernel_rfl) (by kernel_rfl) (by kernel_rfl) (fun _ _ _ h => h) (by rfl) hHeld ?_ ?_
    rotate_left 1
    · (intro w hSw; (try dsimp only at hSw); go_simp; try (with_reducible rfl))
    try simp only [Act.put, List.setIfInBounds_toArray, List.set_cons_zero, List.set_cons_succ]
    refine held_take (i := 9) (v := ?_) rfl (by kernel_rfl) (by kernel_rfl) (by kernel_rfl) (fun _ _ _ h => h) (by rfl) hHeld ?_ ?_
    rotate_left 1
    · (intro w hSw; (try dsimp only at hSw); go_simp; try (with_reducible rfl))
    try simp only [Act.put, List.setIfInBounds_toArray, List.set_cons_zero, List.set_cons_succ]
    refine wpAnyH_done (by kernel_rfl) ?_ _
    go_wp2
    go_ret
    exact ⟨rfl, HB3.out.trans ((K11.out.drew.trans ((hbd.mono K11.out.size))).mono (Nat.le_of_lt hlt1))⟩
end Go.Proofs.Ytkfbepkejdmaeaa
