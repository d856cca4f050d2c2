/- WALKS of the laws VmPress, VmRunes. -/
import Derived.Test.YtkfbepkejdmaeaaMq
namespace Go.Proofs.Ytkfbepkejdmaeaa
set_option maxRecDepth 100000
open Go.RowKit
set_option linter.unusedVariables false

theorem gC_set (g : List Int) (k : Nat) (x : Int) : (gC g).setIfInBounds k (.int .i32 x) = gC (g.set k x) := by unfold gC; rw [List.map_set]; simp [vi]
theorem lshort_ten (A : Option Addr) (l : List UInt8) (cap : Nat) (w : World) (hc : l.length ≤ cap) (hc2 : cap ≤ maxLen) :
    Calls Try.prog 15 #[.slice A l.length cap, .int .i64 10] w fun e w' => ∃ l', Hid (l' = l.take 10) ∧ e = .returned (.slice A l'.length cap) ∧ w = w' := by
  unfold maxLen at hc2
  by_cases h : 10 < l.length
  · have hq : Hid ((l.take 10).length = 10) := by unfold Hid; rw [List.length_take]; omega
    go_enter Try.func15, Try.ntmps15
    go_wp2
    go_ret
    exact ⟨_, rfl, by rw [hq.out]; rfl, rfl⟩
  · have hq : Hid (l.take 10 = l) := List.take_of_length_le (by omega)
    go_enter Try.func15, Try.ntmps15
    go_wp2
    go_ret
    exact ⟨l, hq.out.symm, rfl, rfl⟩
/-- a game of two cells -/
def gTwo (x y : Int) : List Int := ((zG 32).set 0 x).set 1 y
theorem gTwo_gam (x y : Int) (hx : in32 x) (hy : in32 y) : gam (gTwo x y) := (gam.zero.set 0 hx).set 1 hy
theorem gTwo_new (w : World) (x y : Int) : GA (w.alloc (.cells (((gC (zG 32)).setIfInBounds 0 (.int .i32 x)).setIfInBounds 1 (.int .i32 y)) 31)) w.heap.size 31 (gTwo x y) := by
  rw [gC_set, gC_set]; exact GA.new w _ _
theorem gTwo_cel (x y : Int) : cel (gTwo x y) 0 = x := by unfold cel gTwo zG; rfl

set_option maxHeartbeats 2000000 in
theorem press_law (A : Option Addr) (l : List UInt8) (cap : Nat) (who : Int) (w : World) (hr : RB w w.heap.size A l) (hc : l.length ≤ cap) (hm : cap ≤ maxLen) (hwho : in32 who) :
    Calls Try.prog 6 #[.slice A l.length cap, .int .i32 who] w fun e w' => e = .returned (.bool true) ∧ Below w.heap.size w w' := by
  have hz := zeroState
  have HB := Lib.hid (begun9_any w)
  have HSh := Lib.hid (fun W => lshort_ten A l cap W hc hm)
  have HR := Lib.hid hr
  have HGM := Lib.hid (gTwo_gam who (-7) hwho (by unfold in32; omega))
  have HWH := Lib.hid hwho
  clear hr hwho
  go_enter Try.func6, Try.ntmps6
  go_upto_region 6 with (first | (go_at_call 13; refine HB.out.mono ?_; rintro e w1 ⟨rfl, b1⟩) | (go_at_call 15; refine (HSh.out _).mono ?_; rintro e w1' ⟨l', hl', rfl, rfl⟩))
  obtain ⟨W, hW⟩ : ∃ W, W = (w1.alloc (.cells #[.int .i64 11, .int .i64 1, .int .i64 0, .int .i64 0] 44)).alloc (.cells #[.string ⟨#[105, 110]⟩, .slice (some ⟨w1.heap.size, 0, none⟩) 1 1] 24) := ⟨_, rfl⟩
  rw [← hW]
  obtain ⟨ro, pp0, pp1, bW, hs⟩ := one_new w1 11 1 0 0 _ W hW
  have G0 := Lib.hid (GA.new W 31 (zG 32))
  have G1 := Lib.hid (gTwo_new W who (-7))
  have c0 : (W.alloc (.cells (gC (zG 32)) 31)).cell? ⟨W.heap.size, 0, none⟩ = some (.int .i32 0) := G0.out.cell 0 (by rw [zG_length]; omega)
  have f0 : (W.alloc (.cells (gC (zG 32)) 31)).frozen? ⟨W.heap.size, 0, none⟩ = false := G0.out.frozen 0
  have c1 : (W.alloc (.cells (gC (zG 32)) 31)).cell? ⟨W.heap.size, 1, none⟩ = some (.int .i32 0) := G0.out.cell 1 (by rw [zG_length]; omega)
  have f1 : (W.alloc (.cells (gC (zG 32)) 31)).frozen? ⟨W.heap.size, 1, none⟩ = false := G0.out.frozen 1
  have bA : Below W.heap.size W (W.alloc (.cells (((gC (zG 32)).setIfInBounds 0 (.int .i32 who)).setIfInBounds 1 (.int .i32 (-7))) 31)) := (Below.refl _ _).alloc (Nat.le_refl _) _
  have p0 := (bA.cell (p := ⟨w1.heap.size + 1, 0, none⟩) (cell_lt pp0)).trans pp0
  have p1 := (bA.cell (p := ⟨w1.heap.size + 1, 1, none⟩) (cell_lt pp1)).trans pp1
  have hgl : Hid ((gTwo who (-7)).length = 32) := HGM.out.1
  have bw1 := b1.trans (bW.mono b1.size)
  have hsz1 := b1.size
  have hll : l'.length ≤ l.length := by rw [hl'.out, List.length_take]; omega
  have HR2 : Hid (RB (W.alloc (.cells (((gC (zG 32)).setIfInBounds 0 (.int .i32 who)).setIfInBounds 1 (.int .i32 (-7))) 31)) w.heap.size A l') := by
    have h := HR.out.below (bw1.trans (bA.mono (by omega)))
    unfold Hid; rw [hl'.out]; exact h.take 10
  have hbase := bw1.trans (bA.mono (by omega))
  have HS := Lib.hid (step_any (W.alloc (.cells (((gC (zG 32)).setIfInBounds 0 (.int .i32 who)).setIfInBounds 1 (.int .i32 (-7))) 31)) (gTwo who (-7)) ⟨⟨#[105, 110]⟩, 0, l'⟩ (some ⟨w1.heap.size, 0, none⟩) [⟨11, 1, 0, 0⟩] 1 W.heap.size A cap (ro.below bA) bA.size (Nat.le_refl _) (by unfold maxLen; omega) (show ByteArray.size ⟨#[105, 110]⟩ ≤ 549755813888 by decide) HGM.out (HR2.out.more (by have := bA.size; omega)) (show l'.length ≤ cap by omega) hm)
  have hfr : (frameN ⟨⟨#[105, 110]⟩, 0, l'⟩ [⟨11, 1, 0, 0⟩] (gTwo who (-7))).1 = (gTwo who (-7)).set 1 (pressN l' who) := by
    rw [frame_one ⟨⟨#[105, 110]⟩, 0, l'⟩ ⟨11, 1, 0, 0⟩ _ (show faultN (titB ⟨#[105, 110]⟩) [⟨11, 1, 0, 0⟩] = -1 by decide +kernel) (Nat.le_refl _)]
    show (gTwo who (-7)).set 1 (pressN l' (cel (gTwo who (-7)) 0)) = _
    rw [gTwo_cel]
  rw [hfr] at HS
  have HHS := Lib.hid hs
  clear hfr hs hW ro pp0 pp1 bW bw1 b1
  go_wp2_with (with_reducible refine wpList_load_g rfl 31 (.tmp 7) rfl W.heap.size (by with_unfolding_all rfl) 31 (gTwo who (-7)) G1.out Try.underlying31 (by rw [hgl.out]; exact infoState) ?_)
  refine HS.mono ?_
  rintro e w2 ⟨rfl, b2⟩
  have bA2 := bA.size
  have bw2 := hbase.trans (b2.mono (by have := HHS.out; omega))
  have hs2 := b2.size
  have hss := HHS.out
  have hbase2 := bw2.size
  have HR3 := Lib.hid (HR2.out.below (b2.mono (by omega)))
  obtain ⟨o0, o1⟩ := HWH.out
  clear HS b2 hbase bA G0 G1 c0 f0 c1 f1 p0 p1 HB HSh HR HR2
  by_cases h0 : who ≥ 0
  · by_cases h1 : who < (l'.length : Int)
    · obtain ⟨k, hk⟩ := Int.eq_ofNat_of_zero_le (show 0 ≤ who by omega)
      have hkl : k < l'.length := by omega
      have hq : pressN l' who = ((l'[k]'hkl).toNat : Int) := by rw [hk]; exact pressed_some l' k hkl
      have hu := (l'[k]'hkl).toNat_lt
      obtain ⟨bb, off, rfl, hbB, hcell⟩ := HR3.out (by omega)
      have HV := Lib.hid (hcell k hkl)
      unfold vb at HV
      rw [hq]
      have u0 : 0 ≤ (((l'[k]'hkl).toNat : Nat) : Int) := by omega
      have u1 : (((l'[k]'hkl).toNat : Nat) : Int) ≤ 255 := by omega
      have h4 : who.toNat = k := by omega
      clear hk hcell hq hu
      generalize (((l'[k]'hkl).toNat : Nat) : Int) = u at *
      have G2 := Lib.hid (GA.new w2 31 (zG 32))
      have HZ1 : Hid (((gTwo who (-7)).set 1 u).length = (zG 32).length) := by unfold Hid; rw [List.length_set, hgl.out, zG_length]
      have HL1 : Hid (((gTwo who (-7)).set 1 u).length = 32) := by unfold Hid; rw [List.length_set, hgl.out]
      have X0 : Hid (((gTwo who (-7)).set 1 u)[0]? = some who) := by unfold Hid gTwo zG; simp
      have X1 : Hid (((gTwo who (-7)).set 1 u)[1]? = some u) := by unfold Hid gTwo zG; simp
      obtain ⟨g', hg'⟩ : ∃ g', g' = (gTwo who (-7)).set 1 u := ⟨_, rfl⟩
      rw [← hg'] at HZ1 HL1 X0 X1
      rw [← hg']
      clear hg'
      go_wp2_with (first
        | (with_reducible refine wpList_store_g rfl 31 (.tmp 8) (.tmp 24) rfl w2.heap.size (by with_unfolding_all rfl) 31 (zG 32) g' G2.out (by with_unfolding_all rfl) HZ1.out (by rw [HL1.out]; exact infoState) ?_; intro w3 G3 S3 R3; have H3 := Lib.hid G3; have SS := Lib.hid S3; have RR := Lib.hid R3; clear G3 S3 R3; have x0 := H3.out.cell_of X0.out; have x1 := H3.out.cell_of X1.out; have hb3 := Lib.hid ((bw2.alloc (by omega) _).grown RR.out (by simp; omega) (by simp; omega)); have hv := grown_cell RR.out (((Below.refl w2.heap.size w2).alloc (Nat.le_refl _) (.cells (gC (zG 32)) 31)).cell (p := ⟨bb, off + k, none⟩) (cell_lt HV.out) |>.trans HV.out) (by simp; have := cell_lt HV.out; omega)))
      go_ret
      exact ⟨rfl, hb3.out⟩
    · rw [pressed_none l' who (.inr (by omega))]
      have G2 := Lib.hid (GA.new w2 31 (zG 32))
      have HZ1 : Hid (((gTwo who (-7)).set 1 0).length = (zG 32).length) := by unfold Hid; rw [List.length_set, hgl.out, zG_length]
      have HL1 : Hid (((gTwo who (-7)).set 1 0).length = 32) := by unfold Hid; rw [List.length_set, hgl.out]
      have X0 : Hid (((gTwo who (-7)).set 1 0)[0]? = some who) := by unfold Hid gTwo zG; simp
      have X1 : Hid (((gTwo who (-7)).set 1 0)[1]? = some 0) := by unfold Hid gTwo zG; simp
      obtain ⟨g', hg'⟩ : ∃ g', g' = (gTwo who (-7)).set 1 0 := ⟨_, rfl⟩
      rw [← hg'] at HZ1 HL1 X0 X1
      rw [← hg']
      clear hg'
      go_wp2_with (first
        | (with_reducible refine wpList_store_g rfl 31 (.tmp 8) (.tmp 24) rfl w2.heap.size (by with_unfolding_all rfl) 31 (zG 32) g' G2.out (by with_unfolding_all rfl) HZ1.out (by rw [HL1.out]; exact infoState) ?_; intro w3 G3 S3 R3; have H3 := Lib.hid G3; have SS := Lib.hid S3; have RR := Lib.hid R3; clear G3 S3 R3; have x0 := H3.out.cell_of X0.out; have x1 := H3.out.cell_of X1.out; have hb3 := Lib.hid ((bw2.alloc (by omega) _).grown RR.out (by simp; omega) (by simp; omega))))
      go_ret
      exact ⟨rfl, hb3.out⟩
  · rw [pressed_none l' who (.inl (by omega))]
    have G2 := Lib.hid (GA.new w2 31 (zG 32))
    have HZ1 : Hid (((gTwo who (-7)).set 1 0).length = (zG 32).length) := by unfold Hid; rw [List.length_set, hgl.out, zG_length]
    have HL1 : Hid (((gTwo who (-7)).set 1 0).length = 32) := by unfold Hid; rw [List.length_set, hgl.out]
    have X0 : Hid (((gTwo who (-7)).set 1 0)[0]? = some who) := by unfold Hid gTwo zG; simp
    have X1 : Hid (((gTwo who (-7)).set 1 0)[1]? = some 0) := by unfold Hid gTwo zG; simp
    obtain ⟨g', hg'⟩ : ∃ g', g' = (gTwo who (-7)).set 1 0 := ⟨_, rfl⟩
    rw [← hg'] at HZ1 HL1 X0 X1
    rw [← hg']
    clear hg'
    go_wp2_with (first
      | (with_reducible refine wpList_store_g rfl 31 (.tmp 8) (.tmp 24) rfl w2.heap.size (by with_unfolding_all rfl) 31 (zG 32) g' G2.out (by with_unfolding_all rfl) HZ1.out (by rw [HL1.out]; exact infoState) ?_; intro w3 G3 S3 R3; have H3 := Lib.hid G3; have SS := Lib.hid S3; have RR := Lib.hid R3; clear G3 S3 R3; have x0 := H3.out.cell_of X0.out; have x1 := H3.out.cell_of X1.out; have hb3 := Lib.hid ((bw2.alloc (by omega) _).grown RR.out (by simp; omega) (by simp; omega))))
    go_ret
    exact ⟨rfl, hb3.out⟩
end Go.Proofs.Ytkfbepkejdmaeaa
