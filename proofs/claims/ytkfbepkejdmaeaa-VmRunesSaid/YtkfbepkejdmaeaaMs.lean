/- WALK of the law VmRunes. -/
import Derived.Test.YtkfbepkejdmaeaaMr
import Derived.Test.YtkfbepkejdmaeaaRk
namespace Go.Proofs.Ytkfbepkejdmaeaa
set_option maxRecDepth 100000
open Go.RowKit
set_option linter.unusedVariables false

/-- what the program tells -/
def runeN (t : ByteArray) (z : Int) : Int := if titB t then atR t z else -3
theorem frame_rune (t : ByteArray) (z : Int) : (frameN ⟨t, 0, []⟩ [⟨14, 1, 0, 0⟩] (gTwo z (-3))).1 = (gTwo z (-3)).set 1 (runeN t z) := by
  cases hb : titB t with
  | true =>
    rw [frame_one ⟨t, 0, []⟩ ⟨14, 1, 0, 0⟩ _ (show faultN (titB t) [⟨14, 1, 0, 0⟩] = -1 by rw [hb]; decide +kernel) (Nat.le_refl _)]
    show (gTwo z (-3)).set 1 (atR t (cel (gTwo z (-3)) 0)) = _
    rw [gTwo_cel]; unfold runeN; rw [hb]; rfl
  | false =>
    have hf : ¬ faultN (titB (Env.t ⟨t, 0, []⟩)) [⟨14, 1, 0, 0⟩] = -1 := by show ¬ faultN (titB t) [⟨14, 1, 0, 0⟩] = -1; rw [hb]; decide +kernel
    unfold frameN
    rw [if_neg hf]
    unfold runeN; rw [hb]
    show gTwo z (-3) = (gTwo z (-3)).set 1 (-3)
    unfold gTwo; rw [List.set_set]
set_option maxHeartbeats 2000000 in
theorem lrunes_law (s : ByteArray) (at_ : Int) (w : World) (hat : in32 at_) :
    Calls Try.prog 8 #[.string s, .int .i32 at_] w fun e w' => e = .returned (.bool true) ∧ Below w.heap.size w w' := by
  have hz := zeroState
  have HB := Lib.hid (begun9_any w)
  have HC := Lib.hid (fun W => cut_any s 60 W (by omega))
  obtain ⟨t, ht⟩ : ∃ t, t = s.extract 0 (min 60 s.size) := ⟨_, rfl⟩
  have hts : t.size ≤ 60 := by rw [ht, ByteArray.size_extract]; omega
  rw [← ht] at HC
  have HGM := Lib.hid (gTwo_gam at_ (-3) hat (by unfold in32; omega))
  have HWH := Lib.hid hat
  clear hat ht
  go_enter Try.func8, Try.ntmps8
  go_upto_region 6 with (first | (go_at_call 13; refine HB.out.mono ?_; rintro e w1 ⟨rfl, b1⟩) | (go_at_call 21; refine (HC.out _).mono ?_; rintro e w1' ⟨rfl, rfl⟩))
  obtain ⟨W, hW⟩ : ∃ W, W = (w1.alloc (.cells #[.int .i64 14, .int .i64 1, .int .i64 0, .int .i64 0] 44)).alloc (.cells #[.string t, .slice (some ⟨w1.heap.size, 0, none⟩) 1 1] 24) := ⟨_, rfl⟩
  rw [← hW]
  obtain ⟨ro, pp0, pp1, bW, hs⟩ := one_new w1 14 1 0 0 _ W hW
  have G0 := Lib.hid (GA.new W 31 (zG 32))
  have G1 := Lib.hid (gTwo_new W at_ (-3))
  have c0 : (W.alloc (.cells (gC (zG 32)) 31)).cell? ⟨W.heap.size, 0, none⟩ = some (.int .i32 0) := G0.out.cell 0 (by rw [zG_length]; omega)
  have f0 : (W.alloc (.cells (gC (zG 32)) 31)).frozen? ⟨W.heap.size, 0, none⟩ = false := G0.out.frozen 0
  have c1 : (W.alloc (.cells (gC (zG 32)) 31)).cell? ⟨W.heap.size, 1, none⟩ = some (.int .i32 0) := G0.out.cell 1 (by rw [zG_length]; omega)
  have f1 : (W.alloc (.cells (gC (zG 32)) 31)).frozen? ⟨W.heap.size, 1, none⟩ = false := G0.out.frozen 1
  have bA : Below W.heap.size W (W.alloc (.cells (((gC (zG 32)).setIfInBounds 0 (.int .i32 at_)).setIfInBounds 1 (.int .i32 (-3))) 31)) := (Below.refl _ _).alloc (Nat.le_refl _) _
  have p0 := (bA.cell (p := ⟨w1.heap.size + 1, 0, none⟩) (cell_lt pp0)).trans pp0
  have p1 := (bA.cell (p := ⟨w1.heap.size + 1, 1, none⟩) (cell_lt pp1)).trans pp1
  have hgl : Hid ((gTwo at_ (-3)).length = 32) := HGM.out.1
  have bw1 := b1.trans (bW.mono b1.size)
  have hsz1 := b1.size
  have hbase := bw1.trans (bA.mono (by omega))
  have HS := Lib.hid (stepz_any (W.alloc (.cells (((gC (zG 32)).setIfInBounds 0 (.int .i32 at_)).setIfInBounds 1 (.int .i32 (-3))) 31)) (gTwo at_ (-3)) t 0 (some ⟨w1.heap.size, 0, none⟩) [⟨14, 1, 0, 0⟩] 1 W.heap.size (ro.below bA) bA.size (Nat.le_refl _) (by unfold maxLen; omega) (by omega) HGM.out)
  rw [frame_rune] at HS
  have HHS := Lib.hid hs
  clear hs hW ro pp0 pp1 bW bw1 b1
  go_wp2_with (with_reducible refine wpList_load_g rfl 31 (.tmp 7) rfl W.heap.size (by with_unfolding_all rfl) 31 (gTwo at_ (-3)) G1.out Try.underlying31 (by rw [hgl.out]; exact infoState) ?_)
  refine HS.out.mono ?_
  rintro e w2 ⟨rfl, b2⟩
  have bA2 := bA.size
  have bw2 := hbase.trans (b2.mono (by have := HHS.out; omega))
  have hs2 := b2.size
  have hss := HHS.out
  have hbase2 := bw2.size
  obtain ⟨o0, o1⟩ := HWH.out
  clear HS b2 hbase bA G0 G1 c0 f0 c1 f1 p0 p1 HB HC
  have G2 := Lib.hid (GA.new w2 31 (zG 32))
  have HZ1 : Hid (((gTwo at_ (-3)).set 1 (runeN t at_)).length = (zG 32).length) := by unfold Hid; rw [List.length_set, hgl.out, zG_length]
  have HL1 : Hid (((gTwo at_ (-3)).set 1 (runeN t at_)).length = 32) := by unfold Hid; rw [List.length_set, hgl.out]
  have X1 : Hid (((gTwo at_ (-3)).set 1 (runeN t at_))[1]? = some (runeN t at_)) := by unfold Hid gTwo zG; simp
  obtain ⟨g', hg'⟩ : ∃ g', g' = (gTwo at_ (-3)).set 1 (runeN t at_) := ⟨_, rfl⟩
  rw [← hg'] at HZ1 HL1 X1
  rw [← hg']
  clear hg'
  have HRu := Lib.hid (fun W => runes_any t W (by omega))
  have HTi := Lib.hid (fun W => reftitle_any t W (by omega))
  go_upto_region 11 with (first
    | (with_reducible refine wpList_store_g rfl 31 (.tmp 8) (.tmp 26) rfl w2.heap.size (by with_unfolding_all rfl) 31 (zG 32) g' G2.out (by with_unfolding_all rfl) HZ1.out (by rw [HL1.out]; exact infoState) ?_; intro w3 G3 S3 R3; have H3 := Lib.hid G3; have SS := Lib.hid S3; have RR := Lib.hid R3; clear G3 S3 R3; have hb3 := Lib.hid ((bw2.alloc (by omega) _).grown RR.out (by simp; omega) (by simp; omega)))
    | (go_at_call 22; refine (HRu.out _).mono ?_; rintro e w4 ⟨v, rfl, hown, hb4⟩))
  have x1 := (hb4.cell (p := ⟨w2.heap.size, 1, none⟩) (cell_lt (H3.out.cell_of X1.out))).trans (H3.out.cell_of X1.out)
  have hbw4 := hb3.out.trans (hb4.mono hb3.out.size)
  have hs4 := hbw4.size
  obtain ⟨A, tcap, rfl, hcells⟩ : ∃ A cap, v = .slice A (rns t).length cap ∧ Hid (∀ k (h : k < (rns t).length), ∃ tb, A = some ⟨tb, 0, none⟩ ∧ w4.cell? ⟨tb, k, none⟩ = some (.int .i32 (((rns t)[k]'h).1 : Int))) := by
    rcases hown.2 with ⟨rfl, hn⟩ | ⟨g, cap, cur, rfl, _⟩
    · exact ⟨none, 0, by rw [hn], fun k h => by omega⟩
    · exact ⟨_, _, rfl, fun k h => ⟨_, rfl, by have := hown.cellAt k (by omega); rw [rcell_at h] at this; exact this⟩⟩
  have HT2 := Lib.hid (HTi.out w4)
  clear HTi HRu hb4 hown H3 SS RR hb3
  cases hb : titB t with
  | false =>
    have hv : runeN t at_ = -3 := by unfold runeN; rw [hb]; rfl
    rw [hb] at HT2
    rw [hv] at x1
    clear hb hv
    go_wp2_with (go_at_call 23; refine HT2.out.mono ?_; rintro e w5 ⟨rfl, hb5⟩; have c1 := (hb5.cell (p := ⟨w2.heap.size, 1, none⟩) (cell_lt x1)).trans x1)
    go_ret
    exact ⟨rfl, hbw4.trans (hb5.mono (by omega))⟩
  | true =>
    have hv : runeN t at_ = atR t at_ := by unfold runeN; rw [hb]; rfl
    rw [hb] at HT2
    rw [hv] at x1
    clear hb hv
    by_cases hr0 : at_ ≥ 0
    · by_cases hr1 : at_ < ((rns t).length : Int)
      · have hkl : at_.toNat < (rns t).length := by omega
        have hv : atR t at_ = (((rns t)[at_.toNat]'hkl).1 : Int) := by
          unfold atR
          rw [if_pos hr0, List.getElem?_eq_getElem hkl]; rfl
        rw [hv] at x1
        obtain ⟨tb, rfl, hc⟩ := hcells.out _ hkl
        have HC := Lib.hid hc
        clear hc hcells
        generalize (((rns t)[at_.toNat]'hkl).1 : Int) = rr at *
        go_wp2_with (go_at_call 23; refine HT2.out.mono ?_; rintro e w5 ⟨rfl, hb5⟩; have c1 := (hb5.cell (p := ⟨w2.heap.size, 1, none⟩) (cell_lt x1)).trans x1; have ct := (hb5.cell (p := ⟨tb, at_.toNat, none⟩) (cell_lt HC.out)).trans HC.out)
        go_ret
        exact ⟨rfl, hbw4.trans (hb5.mono (by omega))⟩
      · have hv : atR t at_ = 0 := by
          unfold atR
          rw [if_pos hr0, List.getElem?_eq_none (by omega)]; rfl
        rw [hv] at x1
        go_wp2_with (go_at_call 23; refine HT2.out.mono ?_; rintro e w5 ⟨rfl, hb5⟩; have c1 := (hb5.cell (p := ⟨w2.heap.size, 1, none⟩) (cell_lt x1)).trans x1)
        go_ret
        exact ⟨rfl, hbw4.trans (hb5.mono (by omega))⟩
    · have hv : atR t at_ = 0 := by
        unfold atR
        rw [if_neg hr0]
      rw [hv] at x1
      go_wp2_with (go_at_call 23; refine HT2.out.mono ?_; rintro e w5 ⟨rfl, hb5⟩; have c1 := (hb5.cell (p := ⟨w2.heap.size, 1, none⟩) (cell_lt x1)).trans x1)
      go_ret
      exact ⟨rfl, hbw4.trans (hb5.mono (by omega))⟩
end Go.Proofs.Ytkfbepkejdmaeaa
