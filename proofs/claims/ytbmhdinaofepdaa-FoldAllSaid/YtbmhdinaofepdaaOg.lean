/- THE WALK of ref Form. -/
import Derived.Test.YtbmhdinaofepdaaOf
namespace Go.Proofs.Ytbmhdinaofepdaa
open Go.RowKit
set_option linter.unusedVariables false

theorem small_eq (n : Int) (b : Bool) (h : smlB n = b) (w : World) :
    Calls Try.prog 35 #[.int .i64 n] w fun e w' => e = .returned (.bool b) ∧ w = w' := by subst h; exact small_any n w
set_option maxHeartbeats 4000000 in
theorem form_any (t : ByteArray) (A : Option Addr) (os : List O4) (cap B : Nat) (w : World) (hr : RO w B A os) (hB : B ≤ w.heap.size) (hc : os.length ≤ cap) (hm : cap ≤ maxLen) (ht : t.size ≤ 1099511627776) :
    Calls Try.prog 26 #[progV t A os.length cap] w fun e w' => e = .returned (.bool (fitsB (titB t) os)) ∧ Below w.heap.size w w' := by
  unfold progV
  unfold maxLen at hm
  have b0 : Below w.heap.size w (w.alloc (.cells #[.string t, .slice A os.length cap] 24)) := (Below.refl _ _).alloc (Nat.le_refl _) _
  have HT := Lib.hid (reftitle_any t (w.alloc (.cells #[.string t, .slice A os.length cap] 24)) (by omega))
  have HR := Lib.hid hr; clear hr
  cases hti : titB t with
  | false =>
    have HF := Lib.hid (show fitsB false os = false by unfold fitsB; simp)
    rw [hti] at HT
    clear hti
    go_enter Try.func26, Try.ntmps26
    go_wp2_with (go_at_call 34; refine HT.out.mono ?_; rintro e w1 ⟨rfl, hb1⟩)
    go_ret
    exact ⟨by rw [HF.out]; rfl, b0.trans (hb1.mono (by simp))⟩
  | true =>
    rw [hti] at HT
    clear hti
    by_cases h1 : os.length < 1
    · have g1 : (os.length : Int) < 1 := by omega
      have HF := Lib.hid (show fitsB true os = false by unfold fitsB; rw [show decide (1 ≤ os.length) = false by rw [decide_eq_false_iff_not]; omega]; simp)
      clear h1
      go_enter Try.func26, Try.ntmps26
      go_wp2_with (go_at_call 34; refine HT.out.mono ?_; rintro e w1 ⟨rfl, hb1⟩; obtain ⟨hc0, hc1, _, _⟩ := two_cells hb1 (by simp))
      go_ret
      exact ⟨by rw [HF.out]; rfl, b0.trans (hb1.mono (by simp))⟩
    by_cases h2 : 64 < os.length
    · have g1 : ¬ (os.length : Int) < 1 := by omega
      have g2 : (64 : Int) < os.length := by omega
      have HF := Lib.hid (show fitsB true os = false by unfold fitsB; rw [show decide (os.length ≤ 64) = false by rw [decide_eq_false_iff_not]; omega]; simp)
      clear h1 h2
      go_enter Try.func26, Try.ntmps26
      go_wp2_with (go_at_call 34; refine HT.out.mono ?_; rintro e w1 ⟨rfl, hb1⟩; obtain ⟨hc0, hc1, _, _⟩ := two_cells hb1 (by simp))
      go_ret
      exact ⟨by rw [HF.out]; rfl, b0.trans (hb1.mono (by simp))⟩
    have g1 : ¬ (os.length : Int) < 1 := by omega
    have g2 : ¬ (64 : Int) < os.length := by omega
    have HF := Lib.hid (show fitsB true os = smlOs os by unfold fitsB; rw [show decide (1 ≤ os.length) = true by rw [decide_eq_true_iff]; omega, show decide (os.length ≤ 64) = true by rw [decide_eq_true_iff]; omega]; rfl)
    clear h1 h2
    have HR0 := Lib.hid (HR.out.below (b0.mono hB))
    go_enter Try.func26, Try.ntmps26
    go_wp2_with (go_at_call 34; refine HT.out.mono ?_; rintro e w1 ⟨rfl, hb1⟩; obtain ⟨hc0, hc1, hf0, hf1⟩ := two_cells hb1 (by simp))
    have H1 := Lib.hid (HR0.out.below (hb1.mono (by simp; omega)))
    have hb2 := b0.trans (hb1.mono (by simp))
    have hsz := hb1.size
    rw [World.size_alloc] at hsz
    clear hb1 b0 HR0 HR HT
    have C1 := Lib.hid hc1; clear hc1 hc0 hf0 hf1
    go_loopw [3] (fun i wr => ∃ k : Nat, i = .int .i64 k ∧ k ≤ os.length ∧ Hid (RO wr B A os) ∧ Below w.heap.size w wr ∧ w.heap.size < wr.heap.size ∧ Hid (wr.cell? ⟨w.heap.size, 1, none⟩ = some (.slice A os.length cap)) ∧ Hid (smlOs (os.take k) = true)) (fun i _ => os.length - (intOf i).toNat)
    case atStart => exact ⟨0, rfl, by omega, H1, hb2, by omega, C1, rfl⟩
    case round =>
      obtain ⟨k, rfl, hk, hr, hb, hsz2, hcl, hs⟩ := hrel
      clear H1 hb2 C1 hsz
      have hcl2 := hcl.out
      by_cases hlt : k < os.length
      · obtain ⟨b, off, rfl, hbB, hcell⟩ := hr.out (by omega)
        obtain ⟨q1, q2, q3, q4⟩ := hcell k hlt
        clear hcell
        have hkc : (k : Int) < (os.length : Int) := by omega
        obtain ⟨o, ho⟩ : ∃ o, os[k] = o := ⟨_, rfl⟩
        rw [ho] at q1 q2 q3 q4
        have HO := Lib.hid ho; clear ho
        have bv : Below wr.heap.size wr (wr.alloc (.cells #[.int .i64 o.k, .int .i64 o.a, .int .i64 o.b, .int .i64 o.c] 46)) := (Below.refl _ _).alloc (Nat.le_refl _) _
        have hb4 := hb.trans (bv.mono hb.size)
        have HR4 := Lib.hid (hr.out.below (bv.mono (Nat.le_trans hB hb.size)))
        have HC4 := Lib.hid ((bv.cell (p := ⟨w.heap.size, 1, none⟩) hsz2).trans hcl2)
        clear bv
        have hbad : ∀ j, j < 4 → smlB (numO o j) = false → fitsB true os = false := fun j hj h => by rw [HF.out]; exact smlOs_bad hlt (by rw [HO.out]; exact smlOB_bad o j hj h)
        cases h1 : smlB o.k with
        | false =>
          have HF2 := Lib.hid (hbad 0 (by omega) h1)
          have HS1 := Lib.hid h1; clear h1 hbad
          go_wp2_with (go_at_call 35; refine (small_eq _ _ HS1.out _).mono ?_; rintro e w' ⟨rfl, rfl⟩)
          go_ret
          exact ⟨by rw [HF2.out]; rfl, hb4⟩
        | true =>
        cases h2 : smlB o.a with
        | false =>
          have HF2 := Lib.hid (hbad 1 (by omega) h2)
          have HS1 := Lib.hid h1; have HS2 := Lib.hid h2; clear h1 h2 hbad
          go_wp2_with (go_at_call 35; first | ((with_reducible refine (small_eq _ _ HS1.out _).mono ?_); rintro e w' ⟨rfl, rfl⟩) | ((with_reducible refine (small_eq _ _ HS2.out _).mono ?_); rintro e w' ⟨rfl, rfl⟩))
          go_ret
          exact ⟨by rw [HF2.out]; rfl, hb4⟩
        | true =>
        cases h3 : smlB o.b with
        | false =>
          have HF2 := Lib.hid (hbad 2 (by omega) h3)
          have HS1 := Lib.hid h1; have HS2 := Lib.hid h2; have HS3 := Lib.hid h3; clear h1 h2 h3 hbad
          go_wp2_with (go_at_call 35; first | ((with_reducible refine (small_eq _ _ HS1.out _).mono ?_); rintro e w' ⟨rfl, rfl⟩) | ((with_reducible refine (small_eq _ _ HS2.out _).mono ?_); rintro e w' ⟨rfl, rfl⟩) | ((with_reducible refine (small_eq _ _ HS3.out _).mono ?_); rintro e w' ⟨rfl, rfl⟩))
          go_ret
          exact ⟨by rw [HF2.out]; rfl, hb4⟩
        | true =>
        cases h4 : smlB o.c with
        | false =>
          have HF2 := Lib.hid (hbad 3 (by omega) h4)
          have HS1 := Lib.hid h1; have HS2 := Lib.hid h2; have HS3 := Lib.hid h3; have HS4 := Lib.hid h4; clear h1 h2 h3 h4 hbad
          go_wp2_with (go_at_call 35; first | ((with_reducible refine (small_eq _ _ HS1.out _).mono ?_); rintro e w' ⟨rfl, rfl⟩) | ((with_reducible refine (small_eq _ _ HS2.out _).mono ?_); rintro e w' ⟨rfl, rfl⟩) | ((with_reducible refine (small_eq _ _ HS3.out _).mono ?_); rintro e w' ⟨rfl, rfl⟩) | ((with_reducible refine (small_eq _ _ HS4.out _).mono ?_); rintro e w' ⟨rfl, rfl⟩))
          go_ret
          exact ⟨by rw [HF2.out]; rfl, hb4⟩
        | true =>
          have HG := Lib.hid (smlOs_take hlt hs.out (by rw [HO.out]; unfold smlOB; rw [h1, h2, h3, h4]; rfl))
          have HS1 := Lib.hid h1; have HS2 := Lib.hid h2; have HS3 := Lib.hid h3; have HS4 := Lib.hid h4; clear h1 h2 h3 h4 hbad
          go_wp2_with (go_at_call 35; first | ((with_reducible refine (small_eq _ _ HS1.out _).mono ?_); rintro e w' ⟨rfl, rfl⟩) | ((with_reducible refine (small_eq _ _ HS2.out _).mono ?_); rintro e w' ⟨rfl, rfl⟩) | ((with_reducible refine (small_eq _ _ HS3.out _).mono ?_); rintro e w' ⟨rfl, rfl⟩) | ((with_reducible refine (small_eq _ _ HS4.out _).mono ?_); rintro e w' ⟨rfl, rfl⟩))
          go_roundw
          case rel => exact ⟨k + 1, by go_num, by omega, HR4, hb4, by simp; omega, HC4, HG⟩
          case measure => simp [intOf]; omega
      · obtain rfl : k = os.length := by omega
        have HF2 := Lib.hid (show fitsB true os = true by rw [HF.out, ← hs.out, List.take_length])
        go_wp2
        go_ret
        exact ⟨by rw [HF2.out]; rfl, hb⟩
end Go.Proofs.Ytbmhdinaofepdaa
