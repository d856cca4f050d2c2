/- WALK over quintainref12: MayPacket. -/
import Derived.Test.YtclgcfofgiejgaaDoorQb
namespace Go.Proofs.YtclgcfofgiejgaaDoor
set_option maxRecDepth 100000
open Go.RowKit
set_option linter.unusedVariables false
set_option linter.unusedSimpArgs false

set_option maxHeartbeats 4000000 in
theorem refmay_any (k f t id fi : Int) (A : Option Addr) (n c : Nat) (ac fr su : Int) (b : Bool) (hb : decide (mayC k f t id fi ac fr su n) = b) (w : World) (hn : n ≤ maxLen) :
    Calls Tryd.prog 34 #[pkV k f t id fi A n c ac fr su] w fun e w' => e = .returned (.bool b) ∧ w.alloc (pkO k f t id fi A n c ac fr su) = w' := by
  unfold maxLen at hn
  unfold mayC at hb
  have HB := Lib.hid hb; clear hb
  have HP : ∀ (x : Int) (v : Bool) (W : World), (v = true ↔ 0 ≤ x ∧ x ≤ 7) → Calls Tryd.prog 73 #[.int .i64 x] W fun e w' => e = .returned (.bool v) ∧ W = w' := fun x v W h => isplayer_any x v h W
  have HF : ∀ (x : Int) (v : Bool) (W : World), (v = true ↔ 0 ≤ x ∧ x ≤ 1000) → Calls Tryd.prog 74 #[.int .i64 x] W fun e w' => e = .returned (.bool v) ∧ W = w' := fun x v W h => isframe_any x v h W
  have HR : ∀ (x : Int) (v : Bool) (W : World), (v = true ↔ 0 ≤ x ∧ x ≤ 1000) → Calls Tryd.prog 58 #[.int .i64 x] W fun e w' => e = .returned (.bool v) ∧ W = w' := fun x v W h => frames_any x v h W
  replace HP := Lib.hid HP; replace HF := Lib.hid HF; replace HR := Lib.hid HR
  by_cases hk0 : 1 ≤ k
  · skip
    skip
    by_cases hk9 : k ≤ 2
    · skip
      skip
      by_cases hf0 : 0 ≤ f
      · skip
        skip
        by_cases hf1 : f ≤ 7
        · skip
          skip
          by_cases ht0 : 0 ≤ t
          · skip
            skip
            by_cases ht1 : t ≤ 7
            · skip
              skip
              by_cases hft : f ≠ t
              · skip
                have hftb : (f == t) = false := by simp; exact hft
                by_cases hi0 : 0 ≤ id
                · skip
                  skip
                  by_cases hi1 : id ≤ 1099511627776
                  · skip
                    skip
                    by_cases hk1 : k = 1
                    · subst hk1
                      by_cases ha : 0 ≤ fi ∧ fi ≤ 1000
                      · skip
                        have hac := Lib.hid (fun W => HR.out fi true W ⟨fun _ => ha, fun _ => rfl⟩)
                        by_cases hb : 0 ≤ ac ∧ ac ≤ 1000
                        · skip
                          have hbc := Lib.hid (fun W => HR.out ac true W ⟨fun _ => hb, fun _ => rfl⟩)
                          by_cases hc : 0 ≤ fr ∧ fr ≤ 1000
                          · skip
                            have hcc := Lib.hid (fun W => HR.out fr true W ⟨fun _ => hc, fun _ => rfl⟩)
                            by_cases hl : n ≤ 32
                            · skip
                              skip
                              have HE := Lib.hid (show b = true by rw [← HB.out]; first | exact decide_eq_true (by omega) | (simp; omega))
                              go_enter Tryd.func34, Tryd.ntmps34
                              go_wp2_with (first
        | (go_at_call 58; (with_reducible refine (hac.out _).mono ?_); rintro e w1 ⟨rfl, rfl⟩)
        | (go_at_call 58; (with_reducible refine (hbc.out _).mono ?_); rintro e w1 ⟨rfl, rfl⟩)
        | (go_at_call 58; (with_reducible refine (hcc.out _).mono ?_); rintro e w1 ⟨rfl, rfl⟩))
                              go_ret
                              exact ⟨by rw [HE.out]; first | rfl | (simp; omega), rfl⟩
                            · skip
                              skip
                              have HE := Lib.hid (show b = false by rw [← HB.out]; first | exact decide_eq_false (by omega) | (simp; omega))
                              go_enter Tryd.func34, Tryd.ntmps34
                              go_wp2_with (first
        | (go_at_call 58; (with_reducible refine (hac.out _).mono ?_); rintro e w1 ⟨rfl, rfl⟩)
        | (go_at_call 58; (with_reducible refine (hbc.out _).mono ?_); rintro e w1 ⟨rfl, rfl⟩)
        | (go_at_call 58; (with_reducible refine (hcc.out _).mono ?_); rintro e w1 ⟨rfl, rfl⟩))
                              go_ret
                              exact ⟨by rw [HE.out]; first | rfl | (simp; omega), rfl⟩
                          · skip
                            have hcc := Lib.hid (fun W => HR.out fr false W ⟨fun h => (by cases h), fun h => absurd h hc⟩)
                            have HE := Lib.hid (show b = false by rw [← HB.out]; first | exact decide_eq_false (by omega) | (simp; omega))
                            go_enter Tryd.func34, Tryd.ntmps34
                            go_wp2_with (first
        | (go_at_call 58; (with_reducible refine (hac.out _).mono ?_); rintro e w1 ⟨rfl, rfl⟩)
        | (go_at_call 58; (with_reducible refine (hbc.out _).mono ?_); rintro e w1 ⟨rfl, rfl⟩)
        | (go_at_call 58; (with_reducible refine (hcc.out _).mono ?_); rintro e w1 ⟨rfl, rfl⟩))
                            go_ret
                            exact ⟨by rw [HE.out]; first | rfl | (simp; omega), rfl⟩
                        · skip
                          have hbc := Lib.hid (fun W => HR.out ac false W ⟨fun h => (by cases h), fun h => absurd h hb⟩)
                          have HE := Lib.hid (show b = false by rw [← HB.out]; first | exact decide_eq_false (by omega) | (simp; omega))
                          go_enter Tryd.func34, Tryd.ntmps34
                          go_wp2_with (first
        | (go_at_call 58; (with_reducible refine (hac.out _).mono ?_); rintro e w1 ⟨rfl, rfl⟩)
        | (go_at_call 58; (with_reducible refine (hbc.out _).mono ?_); rintro e w1 ⟨rfl, rfl⟩)
        | (go_at_call 58; (with_reducible refine (hcc.out _).mono ?_); rintro e w1 ⟨rfl, rfl⟩))
                          go_ret
                          exact ⟨by rw [HE.out]; first | rfl | (simp; omega), rfl⟩
                      · skip
                        have hac := Lib.hid (fun W => HR.out fi false W ⟨fun h => (by cases h), fun h => absurd h ha⟩)
                        have HE := Lib.hid (show b = false by rw [← HB.out]; first | exact decide_eq_false (by omega) | (simp; omega))
                        go_enter Tryd.func34, Tryd.ntmps34
                        go_wp2_with (first
        | (go_at_call 58; (with_reducible refine (hac.out _).mono ?_); rintro e w1 ⟨rfl, rfl⟩)
        | (go_at_call 58; (with_reducible refine (hbc.out _).mono ?_); rintro e w1 ⟨rfl, rfl⟩)
        | (go_at_call 58; (with_reducible refine (hcc.out _).mono ?_); rintro e w1 ⟨rfl, rfl⟩))
                        go_ret
                        exact ⟨by rw [HE.out]; first | rfl | (simp; omega), rfl⟩
                    · by_cases hk2 : k = 2
                      · subst hk2
                        by_cases ha : fi = 0
                        · skip
                          subst ha
                          by_cases hl : n = 0
                          · skip
                            subst hl
                            by_cases hb : ac = 0
                            · skip
                              subst hb
                              by_cases hc : fr = 0
                              · skip
                                subst hc
                                by_cases hd : su = 0
                                · skip
                                  subst hd
                                  have HE := Lib.hid (show b = true by rw [← HB.out]; first | exact decide_eq_true (by omega) | (simp; omega))
                                  go_enter Tryd.func34, Tryd.ntmps34
                                  go_wp2_with (first
        | (go_at_call 58; (with_reducible refine (hac.out _).mono ?_); rintro e w1 ⟨rfl, rfl⟩)
        | (go_at_call 58; (with_reducible refine (hbc.out _).mono ?_); rintro e w1 ⟨rfl, rfl⟩)
        | (go_at_call 58; (with_reducible refine (hcc.out _).mono ?_); rintro e w1 ⟨rfl, rfl⟩))
                                  go_ret
                                  exact ⟨by rw [HE.out]; first | rfl | (simp; omega), rfl⟩
                                · skip
                                  have hdb : (su == 0) = false := by simp; omega
                                  have HE := Lib.hid (show b = false by rw [← HB.out]; first | exact decide_eq_false (by omega) | (simp; omega))
                                  go_enter Tryd.func34, Tryd.ntmps34
                                  go_wp2_with (first
        | (go_at_call 58; (with_reducible refine (hac.out _).mono ?_); rintro e w1 ⟨rfl, rfl⟩)
        | (go_at_call 58; (with_reducible refine (hbc.out _).mono ?_); rintro e w1 ⟨rfl, rfl⟩)
        | (go_at_call 58; (with_reducible refine (hcc.out _).mono ?_); rintro e w1 ⟨rfl, rfl⟩))
                                  go_ret
                                  exact ⟨by rw [HE.out]; first | rfl | (simp; omega), rfl⟩
                              · skip
                                have hcb : (fr == 0) = false := by simp; omega
                                have HE := Lib.hid (show b = false by rw [← HB.out]; first | exact decide_eq_false (by omega) | (simp; omega))
                                go_enter Tryd.func34, Tryd.ntmps34
                                go_wp2_with (first
        | (go_at_call 58; (with_reducible refine (hac.out _).mono ?_); rintro e w1 ⟨rfl, rfl⟩)
        | (go_at_call 58; (with_reducible refine (hbc.out _).mono ?_); rintro e w1 ⟨rfl, rfl⟩)
        | (go_at_call 58; (with_reducible refine (hcc.out _).mono ?_); rintro e w1 ⟨rfl, rfl⟩))
                                go_ret
                                exact ⟨by rw [HE.out]; first | rfl | (simp; omega), rfl⟩
                            · skip
                              have hbb : (ac == 0) = false := by simp; omega
                              have HE := Lib.hid (show b = false by rw [← HB.out]; first | exact decide_eq_false (by omega) | (simp; omega))
                              go_enter Tryd.func34, Tryd.ntmps34
                              go_wp2_with (first
        | (go_at_call 58; (with_reducible refine (hac.out _).mono ?_); rintro e w1 ⟨rfl, rfl⟩)
        | (go_at_call 58; (with_reducible refine (hbc.out _).mono ?_); rintro e w1 ⟨rfl, rfl⟩)
        | (go_at_call 58; (with_reducible refine (hcc.out _).mono ?_); rintro e w1 ⟨rfl, rfl⟩))
                              go_ret
                              exact ⟨by rw [HE.out]; first | rfl | (simp; omega), rfl⟩
                          · skip
                            have hlb : ((n : Int) == 0) = false := by simp; omega
                            have HE := Lib.hid (show b = false by rw [← HB.out]; first | exact decide_eq_false (by omega) | (simp; omega))
                            go_enter Tryd.func34, Tryd.ntmps34
                            go_wp2_with (first
        | (go_at_call 58; (with_reducible refine (hac.out _).mono ?_); rintro e w1 ⟨rfl, rfl⟩)
        | (go_at_call 58; (with_reducible refine (hbc.out _).mono ?_); rintro e w1 ⟨rfl, rfl⟩)
        | (go_at_call 58; (with_reducible refine (hcc.out _).mono ?_); rintro e w1 ⟨rfl, rfl⟩))
                            go_ret
                            exact ⟨by rw [HE.out]; first | rfl | (simp; omega), rfl⟩
                        · skip
                          have hab : (fi == 0) = false := by simp; omega
                          have HE := Lib.hid (show b = false by rw [← HB.out]; first | exact decide_eq_false (by omega) | (simp; omega))
                          go_enter Tryd.func34, Tryd.ntmps34
                          go_wp2_with (first
        | (go_at_call 58; (with_reducible refine (hac.out _).mono ?_); rintro e w1 ⟨rfl, rfl⟩)
        | (go_at_call 58; (with_reducible refine (hbc.out _).mono ?_); rintro e w1 ⟨rfl, rfl⟩)
        | (go_at_call 58; (with_reducible refine (hcc.out _).mono ?_); rintro e w1 ⟨rfl, rfl⟩))
                          go_ret
                          exact ⟨by rw [HE.out]; first | rfl | (simp; omega), rfl⟩
                      · exfalso; omega
                  · skip
                    have hi1b : 1099511627776 < id := by omega
                    have HE := Lib.hid (show b = false by rw [← HB.out]; first | exact decide_eq_false (by omega) | (simp; omega))
                    go_enter Tryd.func34, Tryd.ntmps34
                    go_wp2_with (first
        | (go_at_call 58; (with_reducible refine (hac.out _).mono ?_); rintro e w1 ⟨rfl, rfl⟩)
        | (go_at_call 58; (with_reducible refine (hbc.out _).mono ?_); rintro e w1 ⟨rfl, rfl⟩)
        | (go_at_call 58; (with_reducible refine (hcc.out _).mono ?_); rintro e w1 ⟨rfl, rfl⟩))
                    go_ret
                    exact ⟨by rw [HE.out]; first | rfl | (simp; omega), rfl⟩
                · skip
                  have hi0b : id < 0 := by omega
                  have HE := Lib.hid (show b = false by rw [← HB.out]; first | exact decide_eq_false (by omega) | (simp; omega))
                  go_enter Tryd.func34, Tryd.ntmps34
                  go_wp2_with (first
        | (go_at_call 58; (with_reducible refine (hac.out _).mono ?_); rintro e w1 ⟨rfl, rfl⟩)
        | (go_at_call 58; (with_reducible refine (hbc.out _).mono ?_); rintro e w1 ⟨rfl, rfl⟩)
        | (go_at_call 58; (with_reducible refine (hcc.out _).mono ?_); rintro e w1 ⟨rfl, rfl⟩))
                  go_ret
                  exact ⟨by rw [HE.out]; first | rfl | (simp; omega), rfl⟩
              · skip
                have hft2 : t = f := by omega
                subst hft2
                have HE := Lib.hid (show b = false by rw [← HB.out]; first | exact decide_eq_false (by omega) | (simp; omega))
                go_enter Tryd.func34, Tryd.ntmps34
                go_wp2_with (first
        | (go_at_call 58; (with_reducible refine (hac.out _).mono ?_); rintro e w1 ⟨rfl, rfl⟩)
        | (go_at_call 58; (with_reducible refine (hbc.out _).mono ?_); rintro e w1 ⟨rfl, rfl⟩)
        | (go_at_call 58; (with_reducible refine (hcc.out _).mono ?_); rintro e w1 ⟨rfl, rfl⟩))
                go_ret
                exact ⟨by rw [HE.out]; first | rfl | (simp; omega), rfl⟩
            · skip
              skip
              have HE := Lib.hid (show b = false by rw [← HB.out]; first | exact decide_eq_false (by omega) | (simp; omega))
              go_enter Tryd.func34, Tryd.ntmps34
              go_wp2_with (first
        | (go_at_call 58; (with_reducible refine (hac.out _).mono ?_); rintro e w1 ⟨rfl, rfl⟩)
        | (go_at_call 58; (with_reducible refine (hbc.out _).mono ?_); rintro e w1 ⟨rfl, rfl⟩)
        | (go_at_call 58; (with_reducible refine (hcc.out _).mono ?_); rintro e w1 ⟨rfl, rfl⟩))
              go_ret
              exact ⟨by rw [HE.out]; first | rfl | (simp; omega), rfl⟩
          · skip
            have ht0b : t < 0 := by omega
            have HE := Lib.hid (show b = false by rw [← HB.out]; first | exact decide_eq_false (by omega) | (simp; omega))
            go_enter Tryd.func34, Tryd.ntmps34
            go_wp2_with (first
        | (go_at_call 58; (with_reducible refine (hac.out _).mono ?_); rintro e w1 ⟨rfl, rfl⟩)
        | (go_at_call 58; (with_reducible refine (hbc.out _).mono ?_); rintro e w1 ⟨rfl, rfl⟩)
        | (go_at_call 58; (with_reducible refine (hcc.out _).mono ?_); rintro e w1 ⟨rfl, rfl⟩))
            go_ret
            exact ⟨by rw [HE.out]; first | rfl | (simp; omega), rfl⟩
        · skip
          skip
          have HE := Lib.hid (show b = false by rw [← HB.out]; first | exact decide_eq_false (by omega) | (simp; omega))
          go_enter Tryd.func34, Tryd.ntmps34
          go_wp2_with (first
        | (go_at_call 58; (with_reducible refine (hac.out _).mono ?_); rintro e w1 ⟨rfl, rfl⟩)
        | (go_at_call 58; (with_reducible refine (hbc.out _).mono ?_); rintro e w1 ⟨rfl, rfl⟩)
        | (go_at_call 58; (with_reducible refine (hcc.out _).mono ?_); rintro e w1 ⟨rfl, rfl⟩))
          go_ret
          exact ⟨by rw [HE.out]; first | rfl | (simp; omega), rfl⟩
      · skip
        have hf0b : f < 0 := by omega
        have HE := Lib.hid (show b = false by rw [← HB.out]; first | exact decide_eq_false (by omega) | (simp; omega))
        go_enter Tryd.func34, Tryd.ntmps34
        go_wp2_with (first
        | (go_at_call 58; (with_reducible refine (hac.out _).mono ?_); rintro e w1 ⟨rfl, rfl⟩)
        | (go_at_call 58; (with_reducible refine (hbc.out _).mono ?_); rintro e w1 ⟨rfl, rfl⟩)
        | (go_at_call 58; (with_reducible refine (hcc.out _).mono ?_); rintro e w1 ⟨rfl, rfl⟩))
        go_ret
        exact ⟨by rw [HE.out]; first | rfl | (simp; omega), rfl⟩
    · skip
      skip
      have HE := Lib.hid (show b = false by rw [← HB.out]; first | exact decide_eq_false (by omega) | (simp; omega))
      go_enter Tryd.func34, Tryd.ntmps34
      go_wp2_with (first
        | (go_at_call 58; (with_reducible refine (hac.out _).mono ?_); rintro e w1 ⟨rfl, rfl⟩)
        | (go_at_call 58; (with_reducible refine (hbc.out _).mono ?_); rintro e w1 ⟨rfl, rfl⟩)
        | (go_at_call 58; (with_reducible refine (hcc.out _).mono ?_); rintro e w1 ⟨rfl, rfl⟩))
      go_ret
      exact ⟨by rw [HE.out]; first | rfl | (simp; omega), rfl⟩
  · skip
    have hk0b : k < 1 := by omega
    have HE := Lib.hid (show b = false by rw [← HB.out]; first | exact decide_eq_false (by omega) | (simp; omega))
    go_enter Tryd.func34, Tryd.ntmps34
    go_wp2_with (first
        | (go_at_call 58; (with_reducible refine (hac.out _).mono ?_); rintro e w1 ⟨rfl, rfl⟩)
        | (go_at_call 58; (with_reducible refine (hbc.out _).mono ?_); rintro e w1 ⟨rfl, rfl⟩)
        | (go_at_call 58; (with_reducible refine (hcc.out _).mono ?_); rintro e w1 ⟨rfl, rfl⟩))
    go_ret
    exact ⟨by rw [HE.out]; first | rfl | (simp; omega), rfl⟩
end Go.Proofs.YtclgcfofgiejgaaDoor
