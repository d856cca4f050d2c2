/- THE REFERENCE: weights, ahead. -/
import Derived.Test.YtphcbeccipjlgaaFw
namespace Go.Proofs.Ytphcbeccipjlgaa
set_option maxRecDepth 100000
open Go.RowKit Go.Maps
set_option linter.unusedVariables false
set_option linter.unusedSimpArgs false

set_option maxHeartbeats 2000000 in
theorem refw_any (b : Kd) (A : Option Addr) (n c : Nat) (P : Option Addr) (p : List UInt8) (L pc : Nat) (w : World) (hok : b.ok) (hL : p.length = L) (hc : L ≤ pc) (hm : pc ≤ maxLen) (hp : RB w w.heap.size P p) (hl : L ≤ 2000) :
    Calls Try.prog 27 #[byV b.k b.o A n c, .slice P L pc] w fun e w' => e = .returned (.agg (aN (wB b p))) ∧ Below w.heap.size w w' := by
  obtain ⟨k, o, tb⟩ := b
  have ho : o ≤ 3 := by unfold Kd.ok at hok; simp only at hok; omega
  have hz := zeroN
  simp only
  have H3 := Lib.hid (w3_is w k o A n c 24)
  obtain ⟨w3, hw3⟩ : ∃ w3, w3_ w k o A n c 24 = w3 := ⟨_, rfl⟩
  rw [hw3] at H3
  unfold w3_ at hw3
  have HW := Lib.hid hw3
  clear hw3
  by_cases hk : k = 2
  · subst hk
    rw [show ((2 : Nat) : Int) = 2 from rfl] at HW H3 ⊢
    by_cases hLo : L < o
    · have HZ : Hid (aN z256 = aN (wB ⟨2, o, tb⟩ p)) := aN_congr (fun v _ => by
        show (0 : Int) = wts o (endN o p) p p.length v
        rw [wts_low o _ p v p.length (by rw [hL]; omega)])
      have hLoz : (L : Int) < (o : Int) := by omega
      unfold byV byA
      go_enter Try.func27, Try.ntmps27
      go_upto_region 3 with fail
      rw [HW.out]
      have G1 := H3.out.g1
      have G2 := H3.out.g2
      have HB := Lib.hid H3.out.bel
      clear hz
      go_wp2_with (first
        | (with_reducible refine wpList_load_n rfl (.tmp 5) rfl (w.heap.size + 1 + 1) (by with_unfolding_all rfl) z256 G2 ?_)
        | (with_reducible refine wpList_store_n rfl (.tmp 4) (.tmp 18) rfl (w.heap.size + 1) (by with_unfolding_all rfl) z256 z256 G1 (by with_unfolding_all rfl) ?_; intro w5 G3 S3 R3))
      exact bodyPost_ret (results_n rfl G3 rfl) rfl ⟨by rw [HZ.out], HB.out.grown R3 HB.out.size (fun k e => by cases e; omega)⟩
    have hoL : o ≤ L := by omega
    have hLoz : ¬ (L : Int) < (o : Int) := by omega
    have hfun : wB ⟨2, o, tb⟩ p = fun v => wts o (endN o p) p L v := by funext v; unfold wB wN; rw [if_pos rfl, hL]
    rw [hfun]
    obtain ⟨E, hE⟩ : ∃ E, endN o p = E := ⟨_, rfl⟩
    rw [hE]
    obtain ⟨lo, hlo⟩ : ∃ lo : Nat, (L : Int) - (o : Int) = lo := ⟨L - o, by omega⟩
    have HLo : Hid (lo = L - o) := by unfold Hid; omega
    have hLlo : L - lo = o := by omega
    have hloL : lo ≤ L := by omega
    have HE : Hid (p.drop lo = E) := by rw [← hE]; unfold endN Hid; rw [hL, HLo.out]
    clear hfun hE hLo
    have HP := Lib.hid hp
    have HL := Lib.hid hL
    have hcut := (hp.below H3.out.bel).cut lo pc (by rw [hL]; exact hloL) (by rw [hL]; exact hc)
    rw [HE.out] at hcut
    have hEl : E.length = o := by rw [← HE.out, List.length_drop, hL]; exact hLlo
    have cv2 := conv_rb hcut o (pc - lo) hEl
    unfold maxLen at hm
    clear hp hL hcut hEl
    unfold byV byA
    go_enter Try.func27, Try.ntmps27
    go_upto_region 4 with fail
    rw [HW.out]
    have hself : Below (w.heap.size + 1 + 1) w3 w3 := Below.refl _ _
    have c0 := H3.out.c0 hself
    have c1 := H3.out.c1 hself
    go_cut [6] from 19 to 26 (fun s6 wx => s6 = .string (str E) ∧ w3 = wx)
    case first =>
      by_cases hpl : pc = lo
      · rw [if_pos hpl, show pc - lo = 0 by omega] at cv2
        subst hpl
        go_wp2_with fail
        go_meet
        exact ⟨rfl, rfl⟩
      · rw [if_neg hpl] at cv2
        go_wp2_with fail
        go_meet
        exact ⟨rfl, rfl⟩
    case rest =>
    obtain ⟨rfl, rfl⟩ := hcut
    have HB0 : Hid (Below w.heap.size w w3) := H3.out.bel
    have HB5 := Lib.hid hself
    have G1 : Hid (GN w3 (w.heap.size + 1) z256) := H3.out.g1
    have G2 : Hid (GN w3 (w.heap.size + 1 + 1) z256) := H3.out.g2
    clear cv2 hself hz
    go_wp2_with fail
    go_loopw [7] (fun v wr => ∃ i : Nat, v = .int .i64 i ∧ o ≤ i ∧ (i ≤ L ∨ i = o) ∧ Hid (Below (w.heap.size + 1 + 1) w3 wr) ∧ Hid (GN wr (w.heap.size + 1 + 1) (wts o E p i))) (fun v _ => L - (intOf v).toNat)
    case atStart =>
      have e : wts o E p o = z256 := by funext v; exact wts_low o _ p v o (Nat.le_refl _)
      exact ⟨o, rfl, Nat.le_refl _, .inr rfl, Below.refl _ _, by rw [e]; exact G2⟩
    case round =>
      clear G2 c0 c1
      obtain ⟨i, rfl, hoi, hiL, HB, HG⟩ := hrel
      have c1 := H3.out.c1 (HB5.out.trans (HB.out.mono (Nat.le_refl _)))
      by_cases hlt : i < L
      · have hltz : (i : Int) < (L : Int) := by omega
        obtain ⟨pb, po, rfl, hpb, -⟩ := HP.out (by rw [HL.out]; omega)
        have HPr : Hid (RB wr w.heap.size (some ⟨pb, po, none⟩) p) := (HP.out.below HB0.out).below (HB.out.mono (by omega))
        obtain ⟨io, hio⟩ : ∃ io : Nat, (i : Int) - (o : Int) = io := ⟨i - o, by omega⟩
        have hne : ¬ pc = io := by omega
        have hio2 : io ≤ i := by omega
        have hipc : i ≤ pc := by omega
        have hlen : i - io = o := by omega
        have HIO : Hid (io = i - o) := by unfold Hid; omega
        have hsub := HPr.out.sub io o pc (by rw [HL.out]; omega) (by rw [HL.out]; exact hc)
        rw [if_neg hne] at hsub
        have hcv := conv_rb hsub o (pc - io) (by rw [List.length_take, List.length_drop, HL.out]; omega)
        simp only [Option.map_some, Addr.add_lit] at hcv
        obtain ⟨x, hx⟩ : ∃ x, (p.drop io).take o = x := ⟨_, rfl⟩
        rw [hx] at hcv
        have HX := Lib.hid hx
        clear hx hsub
        by_cases hxe : x = E
        · subst hxe
          obtain ⟨X, hX⟩ : ∃ X, (p.getD i 0).toNat = X := ⟨_, rfl⟩
          have hX2 : X < 256 := by rw [← hX]; exact UInt8.toNat_lt _
          have cx := HPr.out.cell_ i (by rw [HL.out]; exact hlt)
          rw [hX] at cx
          have gx := HG.out.cell X hX2
          have fx := HG.out.frozen X
          obtain ⟨y, hy⟩ : ∃ y, wts o x p i X = y := ⟨_, rfl⟩
          rw [hy] at gx
          have hb := wts_nonneg o x p X i
          rw [hy] at hb
          have hi2 : (i : Int) ≤ 2000 := by omega
          have HS : Hid (putS (wts o x p i) X (y + 1) = wts o x p (i + 1)) := by rw [← hy]; exact wts_step o x p i X hoi (by rw [← HIO.out]; exact HX.out) hX
          clear hX hy
          go_wp2_with fail
          exact ⟨⟨i + 1, by go_num, by omega, by omega, HB.out.setCell (Nat.le_refl _) _, by rw [← HS.out]; exact HG.out.set X (y + 1)⟩, by simp [intOf]; omega⟩
        · have hs := str_ne hxe
          have hs3 : ((str x).toList == (str E).toList) = false := by rw [str_toList, str_toList]; simpa using hxe
          have HS : Hid (wts o E p i = wts o E p (i + 1)) := wts_skip o E p i (by rw [← HIO.out, HX.out]; exact hxe)
          go_wp2_with fail
          exact ⟨⟨i + 1, by go_num, by omega, by omega, HB, by rw [← HS.out]; exact HG⟩, by simp [intOf]; omega⟩
      · have hltz : ¬ (i : Int) < (L : Int) := by omega
        have hfin : Hid (aN (wts o E p i) = aN fun v => wts o E p L v) := by
          refine aN_congr (fun v _ => ?_)
          rcases hiL with h | h
          · rw [show i = L by omega]
          · rw [h, wts_low o E p v o (Nat.le_refl _), wts_low o E p v L (by omega)]
        have G1b : GN wr (w.heap.size + 1) z256 := G1.out.below HB.out (by omega)
        have G2b := HG.out
        have HB9 : Hid (Below w.heap.size w wr) := HB0.out.trans (HB.out.mono (by omega))
        go_wp2_with (first
          | (with_reducible refine wpList_load_n rfl (.tmp 5) rfl (w.heap.size + 1 + 1) (by with_unfolding_all rfl) (wts o E p i) G2b ?_)
          | (with_reducible refine wpList_store_n rfl (.tmp 4) (.tmp 53) rfl (w.heap.size + 1) (by with_unfolding_all rfl) z256 (wts o E p i) G1b (by with_unfolding_all rfl) ?_; intro w5 G3 S3 R3))
        exact bodyPost_ret (results_n rfl G3 rfl) rfl ⟨by rw [hfin.out], HB9.out.grown R3 HB9.out.size (fun k e => by cases e; omega)⟩
  · have h1 : ((k : Int) != 2) = true := by simp; omega
    have HZ : Hid (aN z256 = aN (wB ⟨k, o, tb⟩ p)) := aN_congr (fun v _ => by unfold wB; rw [if_neg (by exact hk)]; rfl)
    unfold byV byA
    go_enter Try.func27, Try.ntmps27
    go_upto_region 3 with fail
    rw [HW.out]
    have G1 := H3.out.g1
    have G2 := H3.out.g2
    have HB := Lib.hid H3.out.bel
    clear hz
    go_wp2_with (first
      | (with_reducible refine wpList_load_n rfl (.tmp 5) rfl (w.heap.size + 1 + 1) (by with_unfolding_all rfl) z256 G2 ?_)
      | (with_reducible refine wpList_store_n rfl (.tmp 4) (.tmp 18) rfl (w.heap.size + 1) (by with_unfolding_all rfl) z256 z256 G1 (by with_unfolding_all rfl) ?_; intro w5 G3 S3 R3))
    exact bodyPost_ret (results_n rfl G3 rfl) rfl ⟨by rw [HZ.out], HB.out.grown R3 HB.out.size (fun k e => by cases e; omega)⟩
end Go.Proofs.Ytphcbeccipjlgaa
