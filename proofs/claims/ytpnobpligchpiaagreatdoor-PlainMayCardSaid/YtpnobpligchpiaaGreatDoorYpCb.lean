/- texts of YpCb -/
import Derived.Test.YtpnobpligchpiaaGreatDoorYpCa
import Derived.Test.YtpnobpligchpiaaGreatDoorYpK
namespace Go.Proofs.YtpnobpligchpiaaGreatDoor
set_option maxRecDepth 100000
open Go.RowKit
set_option linter.unusedVariables false
set_option linter.unusedSimpArgs false
set_option maxHeartbeats 4000000 in
theorem ref_may (n me id dl wi g o br wk ro : Int) (b : Bool) (hb : b = true ↔ MayC n me id dl wi g o br wk ro) (w : World) :
 Calls Tryz.prog 14 #[cfV n me id dl wi g o br wk ro] w fun e w' => e = .returned (.bool b) ∧ Below w.heap.size w w' := by
 unfold MayC at hb
 have HB := qh hb; clear hb
 by_cases h1 : ¬ (2 ≤ n ∧ n ≤ 8)
 · skip
   have H1 := qh (fun W => within_any n (2) (8) false ⟨fun e => (by cases e), fun e => absurd e h1⟩ W)
   have HE := qh (show b = false by rw [Bool.eq_false_iff]; intro h; have h99 := HB.out.1 h; first | omega | (split at h99 <;> omega))
   go_enter Tryz.func14, Tryz.ntmps14
   go_wp2_with (first | (go_at_call 66; have h99 := H1.out; clear h99; (with_reducible refine (H1.out _).mono ?_); rintro e w1 ⟨rfl, rfl⟩) | fail)
   go_ret
   exact ⟨by rw [HE.out]; first | rfl | (simp; omega), (bR _ _).alloc (nl _) _⟩
 replace h1 := Decidable.not_not.1 h1
 have H1 := qh (fun W => within_any n (2) (8) true ⟨fun _ => h1, fun _ => rfl⟩ W)
 by_cases h2 : ¬ (0 ≤ me ∧ me ≤ n - 1)
 · skip
   have H2 := qh (fun W => within_any me (0) (n - 1) false ⟨fun e => (by cases e), fun e => absurd e h2⟩ W)
   have HE := qh (show b = false by rw [Bool.eq_false_iff]; intro h; have h99 := HB.out.1 h; first | omega | (split at h99 <;> omega))
   go_enter Tryz.func14, Tryz.ntmps14
   go_wp2_with (first | (go_at_call 66; have h99 := H1.out; clear h99; (with_reducible refine (H1.out _).mono ?_); rintro e w1 ⟨rfl, rfl⟩) | (go_at_call 66; have h99 := H2.out; clear h99; (with_reducible refine (H2.out _).mono ?_); rintro e w1 ⟨rfl, rfl⟩) | fail)
   go_ret
   exact ⟨by rw [HE.out]; first | rfl | (simp; omega), (bR _ _).alloc (nl _) _⟩
 replace h2 := Decidable.not_not.1 h2
 have H2 := qh (fun W => within_any me (0) (n - 1) true ⟨fun _ => h2, fun _ => rfl⟩ W)
 by_cases h31 : id < 0
 · skip
   have HE := qh (show b = false by rw [Bool.eq_false_iff]; intro h; have h99 := HB.out.1 h; first | omega | (split at h99 <;> omega))
   go_enter Tryz.func14, Tryz.ntmps14
   go_wp2_with (first | (go_at_call 66; have h99 := H1.out; clear h99; (with_reducible refine (H1.out _).mono ?_); rintro e w1 ⟨rfl, rfl⟩) | (go_at_call 66; have h99 := H2.out; clear h99; (with_reducible refine (H2.out _).mono ?_); rintro e w1 ⟨rfl, rfl⟩) | fail)
   go_ret
   exact ⟨by rw [HE.out]; first | rfl | (simp; omega), (bR _ _).alloc (nl _) _⟩
 by_cases h32 : 1099511627776 < id
 · skip
   have HE := qh (show b = false by rw [Bool.eq_false_iff]; intro h; have h99 := HB.out.1 h; first | omega | (split at h99 <;> omega))
   go_enter Tryz.func14, Tryz.ntmps14
   go_wp2_with (first | (go_at_call 66; have h99 := H1.out; clear h99; (with_reducible refine (H1.out _).mono ?_); rintro e w1 ⟨rfl, rfl⟩) | (go_at_call 66; have h99 := H2.out; clear h99; (with_reducible refine (H2.out _).mono ?_); rintro e w1 ⟨rfl, rfl⟩) | fail)
   go_ret
   exact ⟨by rw [HE.out]; first | rfl | (simp; omega), (bR _ _).alloc (nl _) _⟩
 by_cases h4 : ¬ (0 ≤ dl ∧ dl ≤ 8)
 · skip
   have H4 := qh (fun W => within_any dl (0) (8) false ⟨fun e => (by cases e), fun e => absurd e h4⟩ W)
   have HE := qh (show b = false by rw [Bool.eq_false_iff]; intro h; have h99 := HB.out.1 h; first | omega | (split at h99 <;> omega))
   go_enter Tryz.func14, Tryz.ntmps14
   go_wp2_with (first | (go_at_call 66; have h99 := H1.out; clear h99; (with_reducible refine (H1.out _).mono ?_); rintro e w1 ⟨rfl, rfl⟩) | (go_at_call 66; have h99 := H2.out; clear h99; (with_reducible refine (H2.out _).mono ?_); rintro e w1 ⟨rfl, rfl⟩) | (go_at_call 66; have h99 := H4.out; clear h99; (with_reducible refine (H4.out _).mono ?_); rintro e w1 ⟨rfl, rfl⟩) | fail)
   go_ret
   exact ⟨by rw [HE.out]; first | rfl | (simp; omega), (bR _ _).alloc (nl _) _⟩
 replace h4 := Decidable.not_not.1 h4
 have H4 := qh (fun W => within_any dl (0) (8) true ⟨fun _ => h4, fun _ => rfl⟩ W)
 by_cases h5 : ¬ (1 ≤ wi ∧ wi ≤ 16)
 · skip
   have H5 := qh (fun W => within_any wi (1) (16) false ⟨fun e => (by cases e), fun e => absurd e h5⟩ W)
   have HE := qh (show b = false by rw [Bool.eq_false_iff]; intro h; have h99 := HB.out.1 h; first | omega | (split at h99 <;> omega))
   go_enter Tryz.func14, Tryz.ntmps14
   go_wp2_with (first | (go_at_call 66; have h99 := H1.out; clear h99; (with_reducible refine (H1.out _).mono ?_); rintro e w1 ⟨rfl, rfl⟩) | (go_at_call 66; have h99 := H2.out; clear h99; (with_reducible refine (H2.out _).mono ?_); rintro e w1 ⟨rfl, rfl⟩) | (go_at_call 66; have h99 := H4.out; clear h99; (with_reducible refine (H4.out _).mono ?_); rintro e w1 ⟨rfl, rfl⟩) | (go_at_call 66; have h99 := H5.out; clear h99; (with_reducible refine (H5.out _).mono ?_); rintro e w1 ⟨rfl, rfl⟩) | fail)
   go_ret
   exact ⟨by rw [HE.out]; first | rfl | (simp; omega), (bR _ _).alloc (nl _) _⟩
 replace h5 := Decidable.not_not.1 h5
 have H5 := qh (fun W => within_any wi (1) (16) true ⟨fun _ => h5, fun _ => rfl⟩ W)
 by_cases h6 : ¬ (1 ≤ g ∧ g ≤ 3)
 · skip
   have H6 := qh (fun W => within_any g (1) (3) false ⟨fun e => (by cases e), fun e => absurd e h6⟩ W)
   have HE := qh (show b = false by rw [Bool.eq_false_iff]; intro h; have h99 := HB.out.1 h; first | omega | (split at h99 <;> omega))
   go_enter Tryz.func14, Tryz.ntmps14
   go_wp2_with (first | (go_at_call 66; have h99 := H1.out; clear h99; (with_reducible refine (H1.out _).mono ?_); rintro e w1 ⟨rfl, rfl⟩) | (go_at_call 66; have h99 := H2.out; clear h99; (with_reducible refine (H2.out _).mono ?_); rintro e w1 ⟨rfl, rfl⟩) | (go_at_call 66; have h99 := H4.out; clear h99; (with_reducible refine (H4.out _).mono ?_); rintro e w1 ⟨rfl, rfl⟩) | (go_at_call 66; have h99 := H5.out; clear h99; (with_reducible refine (H5.out _).mono ?_); rintro e w1 ⟨rfl, rfl⟩) | (go_at_call 66; have h99 := H6.out; clear h99; (with_reducible refine (H6.out _).mono ?_); rintro e w1 ⟨rfl, rfl⟩) | fail)
   go_ret
   exact ⟨by rw [HE.out]; first | rfl | (simp; omega), (bR _ _).alloc (nl _) _⟩
 replace h6 := Decidable.not_not.1 h6
 have H6 := qh (fun W => within_any g (1) (3) true ⟨fun _ => h6, fun _ => rfl⟩ W)
 by_cases h7 : ¬ (0 ≤ o ∧ o ≤ 3)
 · skip
   have H7 := qh (fun W => within_any o (0) (3) false ⟨fun e => (by cases e), fun e => absurd e h7⟩ W)
   have HE := qh (show b = false by rw [Bool.eq_false_iff]; intro h; have h99 := HB.out.1 h; first | omega | (split at h99 <;> omega))
   go_enter Tryz.func14, Tryz.ntmps14
   go_wp2_with (first | (go_at_call 66; have h99 := H1.out; clear h99; (with_reducible refine (H1.out _).mono ?_); rintro e w1 ⟨rfl, rfl⟩) | (go_at_call 66; have h99 := H2.out; clear h99; (with_reducible refine (H2.out _).mono ?_); rintro e w1 ⟨rfl, rfl⟩) | (go_at_call 66; have h99 := H4.out; clear h99; (with_reducible refine (H4.out _).mono ?_); rintro e w1 ⟨rfl, rfl⟩) | (go_at_call 66; have h99 := H5.out; clear h99; (with_reducible refine (H5.out _).mono ?_); rintro e w1 ⟨rfl, rfl⟩) | (go_at_call 66; have h99 := H6.out; clear h99; (with_reducible refine (H6.out _).mono ?_); rintro e w1 ⟨rfl, rfl⟩) | (go_at_call 66; have h99 := H7.out; clear h99; (with_reducible refine (H7.out _).mono ?_); rintro e w1 ⟨rfl, rfl⟩) | fail)
   go_ret
   exact ⟨by rw [HE.out]; first | rfl | (simp; omega), (bR _ _).alloc (nl _) _⟩
 replace h7 := Decidable.not_not.1 h7
 have H7 := qh (fun W => within_any o (0) (3) true ⟨fun _ => h7, fun _ => rfl⟩ W)
 by_cases h8 : o ≠ 0 ∧ g ≠ 2
 · skip
   have h81 : (o == 0) = false := by simp; exact h8.1
   have h82 : (g == 2) = false := by simp; exact h8.2
   have h83 : (o != 0) = true := by simp; exact h8.1
   have h84 : (g != 2) = true := by simp; exact h8.2
   have HE := qh (show b = false by rw [Bool.eq_false_iff]; intro h; have h99 := HB.out.1 h; first | omega | (split at h99 <;> omega))
   go_enter Tryz.func14, Tryz.ntmps14
   go_wp2_with (first | (go_at_call 66; have h99 := H1.out; clear h99; (with_reducible refine (H1.out _).mono ?_); rintro e w1 ⟨rfl, rfl⟩) | (go_at_call 66; have h99 := H2.out; clear h99; (with_reducible refine (H2.out _).mono ?_); rintro e w1 ⟨rfl, rfl⟩) | (go_at_call 66; have h99 := H4.out; clear h99; (with_reducible refine (H4.out _).mono ?_); rintro e w1 ⟨rfl, rfl⟩) | (go_at_call 66; have h99 := H5.out; clear h99; (with_reducible refine (H5.out _).mono ?_); rintro e w1 ⟨rfl, rfl⟩) | (go_at_call 66; have h99 := H6.out; clear h99; (with_reducible refine (H6.out _).mono ?_); rintro e w1 ⟨rfl, rfl⟩) | (go_at_call 66; have h99 := H7.out; clear h99; (with_reducible refine (H7.out _).mono ?_); rintro e w1 ⟨rfl, rfl⟩) | fail)
   go_ret
   exact ⟨by rw [HE.out]; first | rfl | (simp; omega), (bR _ _).alloc (nl _) _⟩
 have h9 : o = 0 ∨ ((o != 0) = true ∧ g = 2) := by by_cases e : o = 0; exact .inl e; exact .inr ⟨by simp; exact e, by omega⟩
 clear h8
 rcases h9 with rfl | ⟨h9, rfl⟩
 · skip
   by_cases h10 : ¬ (0 ≤ br ∧ br ≤ 8)
   · skip
     have H10 := qh (fun W => within_any br (0) (8) false ⟨fun e => (by cases e), fun e => absurd e h10⟩ W)
     have HE := qh (show b = false by rw [Bool.eq_false_iff]; intro h; have h99 := HB.out.1 h; first | omega | (split at h99 <;> omega))
     go_enter Tryz.func14, Tryz.ntmps14
     go_wp2_with (first | (go_at_call 66; have h99 := H1.out; clear h99; (with_reducible refine (H1.out _).mono ?_); rintro e w1 ⟨rfl, rfl⟩) | (go_at_call 66; have h99 := H2.out; clear h99; (with_reducible refine (H2.out _).mono ?_); rintro e w1 ⟨rfl, rfl⟩) | (go_at_call 66; have h99 := H4.out; clear h99; (with_reducible refine (H4.out _).mono ?_); rintro e w1 ⟨rfl, rfl⟩) | (go_at_call 66; have h99 := H5.out; clear h99; (with_reducible refine (H5.out _).mono ?_); rintro e w1 ⟨rfl, rfl⟩) | (go_at_call 66; have h99 := H6.out; clear h99; (with_reducible refine (H6.out _).mono ?_); rintro e w1 ⟨rfl, rfl⟩) | (go_at_call 66; have h99 := H7.out; clear h99; (with_reducible refine (H7.out _).mono ?_); rintro e w1 ⟨rfl, rfl⟩) | (go_at_call 66; have h99 := H10.out; clear h99; (with_reducible refine (H10.out _).mono ?_); rintro e w1 ⟨rfl, rfl⟩) | fail)
     go_ret
     exact ⟨by rw [HE.out]; first | rfl | (simp; omega), (bR _ _).alloc (nl _) _⟩
   replace h10 := Decidable.not_not.1 h10
   have H10 := qh (fun W => within_any br (0) (8) true ⟨fun _ => h10, fun _ => rfl⟩ W)
   by_cases h11 : ¬ (0 ≤ wk ∧ wk ≤ 4)
   · skip
     have H11 := qh (fun W => within_any wk (0) (4) false ⟨fun e => (by cases e), fun e => absurd e h11⟩ W)
     have HE := qh (show b = false by rw [Bool.eq_false_iff]; intro h; have h99 := HB.out.1 h; first | omega | (split at h99 <;> omega))
     go_enter Tryz.func14, Tryz.ntmps14
     go_wp2_with (first | (go_at_call 66; have h99 := H1.out; clear h99; (with_reducible refine (H1.out _).mono ?_); rintro e w1 ⟨rfl, rfl⟩) | (go_at_call 66; have h99 := H2.out; clear h99; (with_reducible refine (H2.out _).mono ?_); rintro e w1 ⟨rfl, rfl⟩) | (go_at_call 66; have h99 := H4.out; clear h99; (with_reducible refine (H4.out _).mono ?_); rintro e w1 ⟨rfl, rfl⟩) | (go_at_call 66; have h99 := H5.out; clear h99; (with_reducible refine (H5.out _).mono ?_); rintro e w1 ⟨rfl, rfl⟩) | (go_at_call 66; have h99 := H6.out; clear h99; (with_reducible refine (H6.out _).mono ?_); rintro e w1 ⟨rfl, rfl⟩) | (go_at_call 66; have h99 := H7.out; clear h99; (with_reducible refine (H7.out _).mono ?_); rintro e w1 ⟨rfl, rfl⟩) | (go_at_call 66; have h99 := H10.out; clear h99; (with_reducible refine (H10.out _).mono ?_); rintro e w1 ⟨rfl, rfl⟩) | (go_at_call 66; have h99 := H11.out; clear h99; (with_reducible refine (H11.out _).mono ?_); rintro e w1 ⟨rfl, rfl⟩) | fail)
     go_ret
     exact ⟨by rw [HE.out]; first | rfl | (simp; omega), (bR _ _).alloc (nl _) _⟩
   replace h11 := Decidable.not_not.1 h11
   have H11 := qh (fun W => within_any wk (0) (4) true ⟨fun _ => h11, fun _ => rfl⟩ W)
   by_cases h12 : ¬ (3 ≤ ro ∧ ro ≤ 50)
   · skip
     have H12 := qh (fun W => within_any ro (3) (50) false ⟨fun e => (by cases e), fun e => absurd e h12⟩ W)
     have HE := qh (show b = false by rw [Bool.eq_false_iff]; intro h; have h99 := HB.out.1 h; first | omega | (split at h99 <;> omega))
     go_enter Tryz.func14, Tryz.ntmps14
     go_wp2_with (first | (go_at_call 66; have h99 := H1.out; clear h99; (with_reducible refine (H1.out _).mono ?_); rintro e w1 ⟨rfl, rfl⟩) | (go_at_call 66; have h99 := H2.out; clear h99; (with_reducible refine (H2.out _).mono ?_); rintro e w1 ⟨rfl, rfl⟩) | (go_at_call 66; have h99 := H4.out; clear h99; (with_reducible refine (H4.out _).mono ?_); rintro e w1 ⟨rfl, rfl⟩) | (go_at_call 66; have h99 := H5.out; clear h99; (with_reducible refine (H5.out _).mono ?_); rintro e w1 ⟨rfl, rfl⟩) | (go_at_call 66; have h99 := H6.out; clear h99; (with_reducible refine (H6.out _).mono ?_); rintro e w1 ⟨rfl, rfl⟩) | (go_at_call 66; have h99 := H7.out; clear h99; (with_reducible refine (H7.out _).mono ?_); rintro e w1 ⟨rfl, rfl⟩) | (go_at_call 66; have h99 := H10.out; clear h99; (with_reducible refine (H10.out _).mono ?_); rintro e w1 ⟨rfl, rfl⟩) | (go_at_call 66; have h99 := H11.out; clear h99; (with_reducible refine (H11.out _).mono ?_); rintro e w1 ⟨rfl, rfl⟩) | (go_at_call 66; have h99 := H12.out; clear h99; (with_reducible refine (H12.out _).mono ?_); rintro e w1 ⟨rfl, rfl⟩) | fail)
     go_ret
     exact ⟨by rw [HE.out]; first | rfl | (simp; omega), (bR _ _).alloc (nl _) _⟩
   replace h12 := Decidable.not_not.1 h12
   have H12 := qh (fun W => within_any ro (3) (50) true ⟨fun _ => h12, fun _ => rfl⟩ W)
   have HE := qh (show b = true from HB.out.2 (by refine ⟨by omega, by omega, by omega, by omega, by omega, by omega, by first | omega | (split <;> omega), by omega, by omega, by omega⟩))
   go_enter Tryz.func14, Tryz.ntmps14
   go_wp2_with (first | (go_at_call 66; have h99 := H1.out; clear h99; (with_reducible refine (H1.out _).mono ?_); rintro e w1 ⟨rfl, rfl⟩) | (go_at_call 66; have h99 := H2.out; clear h99; (with_reducible refine (H2.out _).mono ?_); rintro e w1 ⟨rfl, rfl⟩) | (go_at_call 66; have h99 := H4.out; clear h99; (with_reducible refine (H4.out _).mono ?_); rintro e w1 ⟨rfl, rfl⟩) | (go_at_call 66; have h99 := H5.out; clear h99; (with_reducible refine (H5.out _).mono ?_); rintro e w1 ⟨rfl, rfl⟩) | (go_at_call 66; have h99 := H6.out; clear h99; (with_reducible refine (H6.out _).mono ?_); rintro e w1 ⟨rfl, rfl⟩) | (go_at_call 66; have h99 := H7.out; clear h99; (with_reducible refine (H7.out _).mono ?_); rintro e w1 ⟨rfl, rfl⟩) | (go_at_call 66; have h99 := H10.out; clear h99; (with_reducible refine (H10.out _).mono ?_); rintro e w1 ⟨rfl, rfl⟩) | (go_at_call 66; have h99 := H11.out; clear h99; (with_reducible refine (H11.out _).mono ?_); rintro e w1 ⟨rfl, rfl⟩) | (go_at_call 66; have h99 := H12.out; clear h99; (with_reducible refine (H12.out _).mono ?_); rintro e w1 ⟨rfl, rfl⟩) | fail)
   go_ret
   exact ⟨by rw [HE.out]; first | rfl | (simp; omega), (bR _ _).alloc (nl _) _⟩
 · skip
   by_cases h10 : ¬ (0 ≤ br ∧ br ≤ 8)
   · skip
     have H10 := qh (fun W => within_any br (0) (8) false ⟨fun e => (by cases e), fun e => absurd e h10⟩ W)
     have HE := qh (show b = false by rw [Bool.eq_false_iff]; intro h; have h99 := HB.out.1 h; first | omega | (split at h99 <;> omega))
     go_enter Tryz.func14, Tryz.ntmps14
     go_wp2_with (first | (go_at_call 66; have h99 := H1.out; clear h99; (with_reducible refine (H1.out _).mono ?_); rintro e w1 ⟨rfl, rfl⟩) | (go_at_call 66; have h99 := H2.out; clear h99; (with_reducible refine (H2.out _).mono ?_); rintro e w1 ⟨rfl, rfl⟩) | (go_at_call 66; have h99 := H4.out; clear h99; (with_reducible refine (H4.out _).mono ?_); rintro e w1 ⟨rfl, rfl⟩) | (go_at_call 66; have h99 := H5.out; clear h99; (with_reducible refine (H5.out _).mono ?_); rintro e w1 ⟨rfl, rfl⟩) | (go_at_call 66; have h99 := H6.out; clear h99; (with_reducible refine (H6.out _).mono ?_); rintro e w1 ⟨rfl, rfl⟩) | (go_at_call 66; have h99 := H7.out; clear h99; (with_reducible refine (H7.out _).mono ?_); rintro e w1 ⟨rfl, rfl⟩) | (go_at_call 66; have h99 := H10.out; clear h99; (with_reducible refine (H10.out _).mono ?_); rintro e w1 ⟨rfl, rfl⟩) | fail)
     go_ret
     exact ⟨by rw [HE.out]; first | rfl | (simp; omega), (bR _ _).alloc (nl _) _⟩
   replace h10 := Decidable.not_not.1 h10
   have H10 := qh (fun W => within_any br (0) (8) true ⟨fun _ => h10, fun _ => rfl⟩ W)
   by_cases h11 : ¬ (0 ≤ wk ∧ wk ≤ 4)
   · skip
     have H11 := qh (fun W => within_any wk (0) (4) false ⟨fun e => (by cases e), fun e => absurd e h11⟩ W)
     have HE := qh (show b = false by rw [Bool.eq_false_iff]; intro h; have h99 := HB.out.1 h; first | omega | (split at h99 <;> omega))
     go_enter Tryz.func14, Tryz.ntmps14
     go_wp2_with (first | (go_at_call 66; have h99 := H1.out; clear h99; (with_reducible refine (H1.out _).mono ?_); rintro e w1 ⟨rfl, rfl⟩) | (go_at_call 66; have h99 := H2.out; clear h99; (with_reducible refine (H2.out _).mono ?_); rintro e w1 ⟨rfl, rfl⟩) | (go_at_call 66; have h99 := H4.out; clear h99; (with_reducible refine (H4.out _).mono ?_); rintro e w1 ⟨rfl, rfl⟩) | (go_at_call 66; have h99 := H5.out; clear h99; (with_reducible refine (H5.out _).mono ?_); rintro e w1 ⟨rfl, rfl⟩) | (go_at_call 66; have h99 := H6.out; clear h99; (with_reducible refine (H6.out _).mono ?_); rintro e w1 ⟨rfl, rfl⟩) | (go_at_call 66; have h99 := H7.out; clear h99; (with_reducible refine (H7.out _).mono ?_); rintro e w1 ⟨rfl, rfl⟩) | (go_at_call 66; have h99 := H10.out; clear h99; (with_reducible refine (H10.out _).mono ?_); rintro e w1 ⟨rfl, rfl⟩) | (go_at_call 66; have h99 := H11.out; clear h99; (with_reducible refine (H11.out _).mono ?_); rintro e w1 ⟨rfl, rfl⟩) | fail)
     go_ret
     exact ⟨by rw [HE.out]; first | rfl | (simp; omega), (bR _ _).alloc (nl _) _⟩
   replace h11 := Decidable.not_not.1 h11
   have H11 := qh (fun W => within_any wk (0) (4) true ⟨fun _ => h11, fun _ => rfl⟩ W)
   by_cases h12 : ¬ (3 ≤ ro ∧ ro ≤ 50)
   · skip
     have H12 := qh (fun W => within_any ro (3) (50) false ⟨fun e => (by cases e), fun e => absurd e h12⟩ W)
     have HE := qh (show b = false by rw [Bool.eq_false_iff]; intro h; have h99 := HB.out.1 h; first | omega | (split at h99 <;> omega))
     go_enter Tryz.func14, Tryz.ntmps14
     go_wp2_with (first | (go_at_call 66; have h99 := H1.out; clear h99; (with_reducible refine (H1.out _).mono ?_); rintro e w1 ⟨rfl, rfl⟩) | (go_at_call 66; have h99 := H2.out; clear h99; (with_reducible refine (H2.out _).mono ?_); rintro e w1 ⟨rfl, rfl⟩) | (go_at_call 66; have h99 := H4.out; clear h99; (with_reducible refine (H4.out _).mono ?_); rintro e w1 ⟨rfl, rfl⟩) | (go_at_call 66; have h99 := H5.out; clear h99; (with_reducible refine (H5.out _).mono ?_); rintro e w1 ⟨rfl, rfl⟩) | (go_at_call 66; have h99 := H6.out; clear h99; (with_reducible refine (H6.out _).mono ?_); rintro e w1 ⟨rfl, rfl⟩) | (go_at_call 66; have h99 := H7.out; clear h99; (with_reducible refine (H7.out _).mono ?_); rintro e w1 ⟨rfl, rfl⟩) | (go_at_call 66; have h99 := H10.out; clear h99; (with_reducible refine (H10.out _).mono ?_); rintro e w1 ⟨rfl, rfl⟩) | (go_at_call 66; have h99 := H11.out; clear h99; (with_reducible refine (H11.out _).mono ?_); rintro e w1 ⟨rfl, rfl⟩) | (go_at_call 66; have h99 := H12.out; clear h99; (with_reducible refine (H12.out _).mono ?_); rintro e w1 ⟨rfl, rfl⟩) | fail)
     go_ret
     exact ⟨by rw [HE.out]; first | rfl | (simp; omega), (bR _ _).alloc (nl _) _⟩
   replace h12 := Decidable.not_not.1 h12
   have H12 := qh (fun W => within_any ro (3) (50) true ⟨fun _ => h12, fun _ => rfl⟩ W)
   have HE := qh (show b = true from HB.out.2 (by refine ⟨by omega, by omega, by omega, by omega, by omega, by omega, by first | omega | (split <;> omega), by omega, by omega, by omega⟩))
   go_enter Tryz.func14, Tryz.ntmps14
   go_wp2_with (first | (go_at_call 66; have h99 := H1.out; clear h99; (with_reducible refine (H1.out _).mono ?_); rintro e w1 ⟨rfl, rfl⟩) | (go_at_call 66; have h99 := H2.out; clear h99; (with_reducible refine (H2.out _).mono ?_); rintro e w1 ⟨rfl, rfl⟩) | (go_at_call 66; have h99 := H4.out; clear h99; (with_reducible refine (H4.out _).mono ?_); rintro e w1 ⟨rfl, rfl⟩) | (go_at_call 66; have h99 := H5.out; clear h99; (with_reducible refine (H5.out _).mono ?_); rintro e w1 ⟨rfl, rfl⟩) | (go_at_call 66; have h99 := H6.out; clear h99; (with_reducible refine (H6.out _).mono ?_); rintro e w1 ⟨rfl, rfl⟩) | (go_at_call 66; have h99 := H7.out; clear h99; (with_reducible refine (H7.out _).mono ?_); rintro e w1 ⟨rfl, rfl⟩) | (go_at_call 66; have h99 := H10.out; clear h99; (with_reducible refine (H10.out _).mono ?_); rintro e w1 ⟨rfl, rfl⟩) | (go_at_call 66; have h99 := H11.out; clear h99; (with_reducible refine (H11.out _).mono ?_); rintro e w1 ⟨rfl, rfl⟩) | (go_at_call 66; have h99 := H12.out; clear h99; (with_reducible refine (H12.out _).mono ?_); rintro e w1 ⟨rfl, rfl⟩) | fail)
   go_ret
   exact ⟨by rw [HE.out]; first | rfl | (simp; omega), (bR _ _).alloc (nl _) _⟩
end Go.Proofs.YtpnobpligchpiaaGreatDoor
