/- texts of YpU -/
import Derived.Deep.DeepCutAuto
import Derived.Test.YtpnobpligchpiaaGreatDoorYpC
import Derived.Test.YtpnobpligchpiaaGreatDoorYpK
import Derived.Test.YtpnobpligchpiaaGreatDoorYpL
import Derived.Test.YtpnobpligchpiaaGreatDoorYpQ
import Derived.Test.YtpnobpligchpiaaGreatDoorYpS
namespace Go.Proofs.YtpnobpligchpiaaGreatDoor
set_option maxRecDepth 100000
open Go.RowKit
set_option linter.unusedVariables false
set_option linter.unusedSimpArgs false
set_option maxHeartbeats 4000000 in
theorem refmay_any (k f t id fi : Int) (A : Option Addr) (n c : Nat) (ac fr su : Int) (b : Bool) (hb : decide (mayC k f t id fi ac fr su n) = b) (w : World) (hn : n ≤ maxLen) :
 Calls Tryz.prog 77 #[pkV k f t id fi A n c ac fr su] w fun e w' => e = .returned (.bool b) ∧ w.alloc (pkO k f t id fi A n c ac fr su) = w' := by
 unfold maxLen at hn
 unfold mayC at hb
 have HB := qh hb; clear hb
 have HP : ∀ (x : Int) (v : Bool) (W : World), (v = true ↔ 0 ≤ x ∧ x ≤ 7) → Calls Tryz.prog 156 #[.int .i64 x] W fun e w' => e = .returned (.bool v) ∧ W = w' := fun x v W h => isplayer_any x v h W
 have HF : ∀ (x : Int) (v : Bool) (W : World), (v = true ↔ 0 ≤ x ∧ x ≤ 1000) → Calls Tryz.prog 157 #[.int .i64 x] W fun e w' => e = .returned (.bool v) ∧ W = w' := fun x v W h => isframe_any x v h W
 have HR : ∀ (x : Int) (v : Bool) (W : World), (v = true ↔ 0 ≤ x ∧ x ≤ 1000) → Calls Tryz.prog 122 #[.int .i64 x] W fun e w' => e = .returned (.bool v) ∧ W = w' := fun x v W h => frames_any x v h W
 replace HP := qh HP; replace HF := qh HF; replace HR := qh HR
 by_cases hk0 : 1 ≤ k
 · skip
   skip
   by_cases hk9 : k ≤ 2
   · skip
     skip
     by_cases hf0 : 0 ≤ f
     · skip
       skip
       by_cases hf1 : f ≤ 7
       · skip
         skip
         by_cases ht0 : 0 ≤ t
         · skip
           skip
           by_cases ht1 : t ≤ 7
           · skip
             skip
             by_cases hft : f ≠ t
             · skip
               have hftb : (f == t) = false := by simp; exact hft
               by_cases hi0 : 0 ≤ id
               · skip
                 skip
                 by_cases hi1 : id ≤ 1099511627776
                 · skip
                   skip
                   by_cases hk1 : k = 1
                   · subst hk1
                     by_cases ha : 0 ≤ fi ∧ fi ≤ 1000
                     · skip
                       have hac := qh (fun W => HR.out fi true W ⟨fun _ => ha, fun _ => rfl⟩)
                       by_cases hb : 0 ≤ ac ∧ ac ≤ 1000
                       · skip
                         have hbc := qh (fun W => HR.out ac true W ⟨fun _ => hb, fun _ => rfl⟩)
                         by_cases hc : 0 ≤ fr ∧ fr ≤ 1000
                         · skip
                           have hcc := qh (fun W => HR.out fr true W ⟨fun _ => hc, fun _ => rfl⟩)
                           by_cases hl : n ≤ 32
                           · skip
                             skip
                             have HE := qh (show b = true by rw [← HB.out]; first | exact decide_eq_true (by omega) | (simp; omega))
                             go_enter Tryz.func77, Tryz.ntmps77
                             go_wp2_with (first
    | (go_at_call 122; (with_reducible refine (hac.out _).mono ?_); rintro e w1 ⟨rfl, rfl⟩)
    | (go_at_call 122; (with_reducible refine (hbc.out _).mono ?_); rintro e w1 ⟨rfl, rfl⟩)
    | (go_at_call 122; (with_reducible refine (hcc.out _).mono ?_); rintro e w1 ⟨rfl, rfl⟩))
                             go_ret
                             exact ⟨by rw [HE.out]; first | rfl | (simp; omega), rfl⟩
                           · skip
                             skip
                             have HE := qh (show b = false by rw [← HB.out]; first | exact decide_eq_false (by omega) | (simp; omega))
                             go_enter Tryz.func77, Tryz.ntmps77
                             go_wp2_with (first
    | (go_at_call 122; (with_reducible refine (hac.out _).mono ?_); rintro e w1 ⟨rfl, rfl⟩)
    | (go_at_call 122; (with_reducible refine (hbc.out _).mono ?_); rintro e w1 ⟨rfl, rfl⟩)
    | (go_at_call 122; (with_reducible refine (hcc.out _).mono ?_); rintro e w1 ⟨rfl, rfl⟩))
                             go_ret
                             exact ⟨by rw [HE.out]; first | rfl | (simp; omega), rfl⟩
                         · skip
                           have hcc := qh (fun W => HR.out fr false W ⟨fun h => (by cases h), fun h => absurd h hc⟩)
                           have HE := qh (show b = false by rw [← HB.out]; first | exact decide_eq_false (by omega) | (simp; omega))
                           go_enter Tryz.func77, Tryz.ntmps77
                           go_wp2_with (first
    | (go_at_call 122; (with_reducible refine (hac.out _).mono ?_); rintro e w1 ⟨rfl, rfl⟩)
    | (go_at_call 122; (with_reducible refine (hbc.out _).mono ?_); rintro e w1 ⟨rfl, rfl⟩)
    | (go_at_call 122; (with_reducible refine (hcc.out _).mono ?_); rintro e w1 ⟨rfl, rfl⟩))
                           go_ret
                           exact ⟨by rw [HE.out]; first | rfl | (simp; omega), rfl⟩
                       · skip
                         have hbc := qh (fun W => HR.out ac false W ⟨fun h => (by cases h), fun h => absurd h hb⟩)
                         have HE := qh (show b = false by rw [← HB.out]; first | exact decide_eq_false (by omega) | (simp; omega))
                         go_enter Tryz.func77, Tryz.ntmps77
                         go_wp2_with (first
    | (go_at_call 122; (with_reducible refine (hac.out _).mono ?_); rintro e w1 ⟨rfl, rfl⟩)
    | (go_at_call 122; (with_reducible refine (hbc.out _).mono ?_); rintro e w1 ⟨rfl, rfl⟩)
    | (go_at_call 122; (with_reducible refine (hcc.out _).mono ?_); rintro e w1 ⟨rfl, rfl⟩))
                         go_ret
                         exact ⟨by rw [HE.out]; first | rfl | (simp; omega), rfl⟩
                     · skip
                       have hac := qh (fun W => HR.out fi false W ⟨fun h => (by cases h), fun h => absurd h ha⟩)
                       have HE := qh (show b = false by rw [← HB.out]; first | exact decide_eq_false (by omega) | (simp; omega))
                       go_enter Tryz.func77, Tryz.ntmps77
                       go_wp2_with (first
    | (go_at_call 122; (with_reducible refine (hac.out _).mono ?_); rintro e w1 ⟨rfl, rfl⟩)
    | (go_at_call 122; (with_reducible refine (hbc.out _).mono ?_); rintro e w1 ⟨rfl, rfl⟩)
    | (go_at_call 122; (with_reducible refine (hcc.out _).mono ?_); rintro e w1 ⟨rfl, rfl⟩))
                       go_ret
                       exact ⟨by rw [HE.out]; first | rfl | (simp; omega), rfl⟩
                   · by_cases hk2 : k = 2
                     · subst hk2
                       by_cases ha : fi = 0
                       · skip
                         subst ha
                         by_cases hl : n = 0
                         · skip
                           subst hl
                           by_cases hb : ac = 0
                           · skip
                             subst hb
                             by_cases hc : fr = 0
                             · skip
                               subst hc
                               by_cases hd : su = 0
                               · skip
                                 subst hd
                                 have HE := qh (show b = true by rw [← HB.out]; first | exact decide_eq_true (by omega) | (simp; omega))
                                 go_enter Tryz.func77, Tryz.ntmps77
                                 go_wp2_with (first
    | (go_at_call 122; (with_reducible refine (hac.out _).mono ?_); rintro e w1 ⟨rfl, rfl⟩)
    | (go_at_call 122; (with_reducible refine (hbc.out _).mono ?_); rintro e w1 ⟨rfl, rfl⟩)
    | (go_at_call 122; (with_reducible refine (hcc.out _).mono ?_); rintro e w1 ⟨rfl, rfl⟩))
                                 go_ret
                                 exact ⟨by rw [HE.out]; first | rfl | (simp; omega), rfl⟩
                               · skip
                                 have hdb : (su == 0) = false := by simp; omega
                                 have HE := qh (show b = false by rw [← HB.out]; first | exact decide_eq_false (by omega) | (simp; omega))
                                 go_enter Tryz.func77, Tryz.ntmps77
                                 go_wp2_with (first
    | (go_at_call 122; (with_reducible refine (hac.out _).mono ?_); rintro e w1 ⟨rfl, rfl⟩)
    | (go_at_call 122; (with_reducible refine (hbc.out _).mono ?_); rintro e w1 ⟨rfl, rfl⟩)
    | (go_at_call 122; (with_reducible refine (hcc.out _).mono ?_); rintro e w1 ⟨rfl, rfl⟩))
                                 go_ret
                                 exact ⟨by rw [HE.out]; first | rfl | (simp; omega), rfl⟩
                             · skip
                               have hcb : (fr == 0) = false := by simp; omega
                               have HE := qh (show b = false by rw [← HB.out]; first | exact decide_eq_false (by omega) | (simp; omega))
                               go_enter Tryz.func77, Tryz.ntmps77
                               go_wp2_with (first
    | (go_at_call 122; (with_reducible refine (hac.out _).mono ?_); rintro e w1 ⟨rfl, rfl⟩)
    | (go_at_call 122; (with_reducible refine (hbc.out _).mono ?_); rintro e w1 ⟨rfl, rfl⟩)
    | (go_at_call 122; (with_reducible refine (hcc.out _).mono ?_); rintro e w1 ⟨rfl, rfl⟩))
                               go_ret
                               exact ⟨by rw [HE.out]; first | rfl | (simp; omega), rfl⟩
                           · skip
                             have hbb : (ac == 0) = false := by simp; omega
                             have HE := qh (show b = false by rw [← HB.out]; first | exact decide_eq_false (by omega) | (simp; omega))
                             go_enter Tryz.func77, Tryz.ntmps77
                             go_wp2_with (first
    | (go_at_call 122; (with_reducible refine (hac.out _).mono ?_); rintro e w1 ⟨rfl, rfl⟩)
    | (go_at_call 122; (with_reducible refine (hbc.out _).mono ?_); rintro e w1 ⟨rfl, rfl⟩)
    | (go_at_call 122; (with_reducible refine (hcc.out _).mono ?_); rintro e w1 ⟨rfl, rfl⟩))
                             go_ret
                             exact ⟨by rw [HE.out]; first | rfl | (simp; omega), rfl⟩
                         · skip
                           have hlb : ((n : Int) == 0) = false := by simp; omega
                           have HE := qh (show b = false by rw [← HB.out]; first | exact decide_eq_false (by omega) | (simp; omega))
                           go_enter Tryz.func77, Tryz.ntmps77
                           go_wp2_with (first
    | (go_at_call 122; (with_reducible refine (hac.out _).mono ?_); rintro e w1 ⟨rfl, rfl⟩)
    | (go_at_call 122; (with_reducible refine (hbc.out _).mono ?_); rintro e w1 ⟨rfl, rfl⟩)
    | (go_at_call 122; (with_reducible refine (hcc.out _).mono ?_); rintro e w1 ⟨rfl, rfl⟩))
                           go_ret
                           exact ⟨by rw [HE.out]; first | rfl | (simp; omega), rfl⟩
                       · skip
                         have hab : (fi == 0) = false := by simp; omega
                         have HE := qh (show b = false by rw [← HB.out]; first | exact decide_eq_false (by omega) | (simp; omega))
                         go_enter Tryz.func77, Tryz.ntmps77
                         go_wp2_with (first
    | (go_at_call 122; (with_reducible refine (hac.out _).mono ?_); rintro e w1 ⟨rfl, rfl⟩)
    | (go_at_call 122; (with_reducible refine (hbc.out _).mono ?_); rintro e w1 ⟨rfl, rfl⟩)
    | (go_at_call 122; (with_reducible refine (hcc.out _).mono ?_); rintro e w1 ⟨rfl, rfl⟩))
                         go_ret
                         exact ⟨by rw [HE.out]; first | rfl | (simp; omega), rfl⟩
                     · exfalso; omega
                 · skip
                   have hi1b : 1099511627776 < id := by omega
                   have HE := qh (show b = false by rw [← HB.out]; first | exact decide_eq_false (by omega) | (simp; omega))
                   go_enter Tryz.func77, Tryz.ntmps77
                   go_wp2_with (first
    | (go_at_call 122; (with_reducible refine (hac.out _).mono ?_); rintro e w1 ⟨rfl, rfl⟩)
    | (go_at_call 122; (with_reducible refine (hbc.out _).mono ?_); rintro e w1 ⟨rfl, rfl⟩)
    | (go_at_call 122; (with_reducible refine (hcc.out _).mono ?_); rintro e w1 ⟨rfl, rfl⟩))
                   go_ret
                   exact ⟨by rw [HE.out]; first | rfl | (simp; omega), rfl⟩
               · skip
                 have hi0b : id < 0 := by omega
                 have HE := qh (show b = false by rw [← HB.out]; first | exact decide_eq_false (by omega) | (simp; omega))
                 go_enter Tryz.func77, Tryz.ntmps77
                 go_wp2_with (first
    | (go_at_call 122; (with_reducible refine (hac.out _).mono ?_); rintro e w1 ⟨rfl, rfl⟩)
    | (go_at_call 122; (with_reducible refine (hbc.out _).mono ?_); rintro e w1 ⟨rfl, rfl⟩)
    | (go_at_call 122; (with_reducible refine (hcc.out _).mono ?_); rintro e w1 ⟨rfl, rfl⟩))
                 go_ret
                 exact ⟨by rw [HE.out]; first | rfl | (simp; omega), rfl⟩
             · skip
               have hft2 : t = f := by omega
               subst hft2
               have HE := qh (show b = false by rw [← HB.out]; first | exact decide_eq_false (by omega) | (simp; omega))
               go_enter Tryz.func77, Tryz.ntmps77
               go_wp2_with (first
    | (go_at_call 122; (with_reducible refine (hac.out _).mono ?_); rintro e w1 ⟨rfl, rfl⟩)
    | (go_at_call 122; (with_reducible refine (hbc.out _).mono ?_); rintro e w1 ⟨rfl, rfl⟩)
    | (go_at_call 122; (with_reducible refine (hcc.out _).mono ?_); rintro e w1 ⟨rfl, rfl⟩))
               go_ret
               exact ⟨by rw [HE.out]; first | rfl | (simp; omega), rfl⟩
           · skip
             skip
             have HE := qh (show b = false by rw [← HB.out]; first | exact decide_eq_false (by omega) | (simp; omega))
             go_enter Tryz.func77, Tryz.ntmps77
             go_wp2_with (first
    | (go_at_call 122; (with_reducible refine (hac.out _).mono ?_); rintro e w1 ⟨rfl, rfl⟩)
    | (go_at_call 122; (with_reducible refine (hbc.out _).mono ?_); rintro e w1 ⟨rfl, rfl⟩)
    | (go_at_call 122; (with_reducible refine (hcc.out _).mono ?_); rintro e w1 ⟨rfl, rfl⟩))
             go_ret
             exact ⟨by rw [HE.out]; first | rfl | (simp; omega), rfl⟩
         · skip
           have ht0b : t < 0 := by omega
           have HE := qh (show b = false by rw [← HB.out]; first | exact decide_eq_false (by omega) | (simp; omega))
           go_enter Tryz.func77, Tryz.ntmps77
           go_wp2_with (first
    | (go_at_call 122; (with_reducible refine (hac.out _).mono ?_); rintro e w1 ⟨rfl, rfl⟩)
    | (go_at_call 122; (with_reducible refine (hbc.out _).mono ?_); rintro e w1 ⟨rfl, rfl⟩)
    | (go_at_call 122; (with_reducible refine (hcc.out _).mono ?_); rintro e w1 ⟨rfl, rfl⟩))
           go_ret
           exact ⟨by rw [HE.out]; first | rfl | (simp; omega), rfl⟩
       · skip
         skip
         have HE := qh (show b = false by rw [← HB.out]; first | exact decide_eq_false (by omega) | (simp; omega))
         go_enter Tryz.func77, Tryz.ntmps77
         go_wp2_with (first
    | (go_at_call 122; (with_reducible refine (hac.out _).mono ?_); rintro e w1 ⟨rfl, rfl⟩)
    | (go_at_call 122; (with_reducible refine (hbc.out _).mono ?_); rintro e w1 ⟨rfl, rfl⟩)
    | (go_at_call 122; (with_reducible refine (hcc.out _).mono ?_); rintro e w1 ⟨rfl, rfl⟩))
         go_ret
         exact ⟨by rw [HE.out]; first | rfl | (simp; omega), rfl⟩
     · skip
       have hf0b : f < 0 := by omega
       have HE := qh (show b = false by rw [← HB.out]; first | exact decide_eq_false (by omega) | (simp; omega))
       go_enter Tryz.func77, Tryz.ntmps77
       go_wp2_with (first
    | (go_at_call 122; (with_reducible refine (hac.out _).mono ?_); rintro e w1 ⟨rfl, rfl⟩)
    | (go_at_call 122; (with_reducible refine (hbc.out _).mono ?_); rintro e w1 ⟨rfl, rfl⟩)
    | (go_at_call 122; (with_reducible refine (hcc.out _).mono ?_); rintro e w1 ⟨rfl, rfl⟩))
       go_ret
       exact ⟨by rw [HE.out]; first | rfl | (simp; omega), rfl⟩
   · skip
     skip
     have HE := qh (show b = false by rw [← HB.out]; first | exact decide_eq_false (by omega) | (simp; omega))
     go_enter Tryz.func77, Tryz.ntmps77
     go_wp2_with (first
      | (go_at_call 122; (with_reducible refine (hac.out _).mono ?_); rintro e w1 ⟨rfl, rfl⟩)
      | (go_at_call 122; (with_reducible refine (hbc.out _).mono ?_); rintro e w1 ⟨rfl, rfl⟩)
      | (go_at_call 122; (with_reducible refine (hcc.out _).mono ?_); rintro e w1 ⟨rfl, rfl⟩))
     go_ret
     exact ⟨by rw [HE.out]; first | rfl | (simp; omega), rfl⟩
 · skip
   have hk0b : k < 1 := by omega
   have HE := qh (show b = false by rw [← HB.out]; first | exact decide_eq_false (by omega) | (simp; omega))
   go_enter Tryz.func77, Tryz.ntmps77
   go_wp2_with (first
    | (go_at_call 122; (with_reducible refine (hac.out _).mono ?_); rintro e w1 ⟨rfl, rfl⟩)
    | (go_at_call 122; (with_reducible refine (hbc.out _).mono ?_); rintro e w1 ⟨rfl, rfl⟩)
    | (go_at_call 122; (with_reducible refine (hcc.out _).mono ?_); rintro e w1 ⟨rfl, rfl⟩))
   go_ret
   exact ⟨by rw [HE.out]; first | rfl | (simp; omega), rfl⟩
def hd3 (k f t : Int) : List UInt8 := [u8 k, u8 f, u8 t]
theorem hd3_len (k f t : Int) : (hd3 k f t).length = 3 := rfl
theorem PkM.row {w w' : World} {P : Nat} {k f t id fi : Int} {A : Option Addr} {n c : Nat} {ac fr su : Int} {row : Option Nat} (h : PkM w P k f t id fi A n c ac fr su) (hg : w.grownBy w' row) (hne : some P ≠ row) : PkM w' P k f t id fi A n c ac fr su :=
 (hg.block P h.lt hne).trans h
theorem refsum_n (A : Option Addr) (l : List UInt8) (n cap : Nat) (w : World) (hr : RB w w.heap.size A l) (hn : l.length = n) (hl : n ≤ maxLen) :
 Calls Tryz.prog 81 #[.slice A n cap] w fun e w' => e = .returned (.int .u32 (tn (sumL l))) ∧ w = w' := by
 subst hn
 exact refsum_any A l cap w.heap.size w hr hl
theorem wp_three {w : World} {o : Oper} {a : Act} {K : Act → World → Prop} {Q : Exit → Act → World → Prop} (x y z : Operand)
 (ho : o.op = .buildSlice 33 3 #[(0, x), (1, y), (2, z)]) (a0 a1 a2 : Int) (c0 c1 c2 : UInt8) (hx : a.eval x = .int .u8 a0) (hy : a.eval y = .int .u8 a1) (hz : a.eval z = .int .u8 a2) (h0 : (c0.toNat : Int) = a0) (h1 : (c1.toNat : Int) = a1) (h2 : (c2.toNat : Int) = a2)
 (h : ∀ w', OB w' w.heap.size (.slice (some ⟨w.heap.size, 0, none⟩) 3 3) [c0, c1, c2] → Below w.heap.size w w' → K (a.put o.dst (.slice (some ⟨w.heap.size, 0, none⟩) 3 3)) w') : o.wp Tryz.prog a w K Q := by
 obtain ⟨i0, hi0, hz0, hz1, hz2⟩ := info_parts byte_info
 refine wp_buildSlice 33 5 3 #[(0, x), (1, y), (2, z)] ho #[.int .u8 a0, .int .u8 a1, .int .u8 a2] i0 (.int .u8 0) Tryz.underlying33 hi0 hz0 (by rw [hz1]; decide) (by rw [hz1]; decide) ?_ (h _ ?_ ((bR _ _).alloc (nl _) _))
 · simp [hx, hy, hz, hz1, Instr.fill]
   exact ⟨⟨rfl, by show 1 ≤ 3; omega⟩, ⟨rfl, Nat.le_trans (m := 3) (by show 1 + 1 ≤ 3; omega) (Nat.le_of_eq (by kernel_rfl))⟩, ⟨rfl, Nat.le_trans (m := 3) (by show 2 + 1 ≤ 3; omega) (Nat.le_of_eq (by kernel_rfl))⟩, by kernel_rfl⟩
 · have h5 := World.ownsRow_lit (e := 5) (size := 1) (base := w.heap.size) w #[.int .u8 a0, .int .u8 a1, .int .u8 a2] 3 (nl _) (by unfold maxLen; omega) rfl
   rw [← h0, ← h1, ← h2] at h5 ⊢
   exact h5
set_option maxHeartbeats 4000000 in
theorem refpacket_any (k f t id fi : Int) (A : Option Addr) (l : List UInt8) (n c : Nat) (ac fr su : Int) (w : World) (hr : RB w w.heap.size A l) (hn : l.length = n) (hc : n ≤ c) (hm : c ≤ maxLen)
 (h4 : 0 ≤ su) (h5 : su ≤ 4294967295) :
 Calls Tryz.prog 22 #[pkV k f t id fi A n c ac fr su] w fun e w' => ∃ v, e = .returned v ∧ OB w' w.heap.size v (encC k f t id fi ac fr su l) ∧ Below w.heap.size w w' := by
 have hnm : n ≤ maxLen := Nat.le_trans hc hm
 by_cases hmay : mayC k f t id fi ac fr su n
 · have HM := qh (refmay_any k f t id fi A n c ac fr su true (decide_eq_true hmay) (w.alloc (pkO k f t id fi A n c ac fr su)) hnm)
   have he : encC k f t id fi ac fr su l = sealK (bodyC k f t id fi ac fr su l) := by unfold encC; rw [hn, if_pos hmay]
   have hI : Hid (in64 id ∧ in64 fi ∧ in64 ac ∧ in64 fr ∧ n ≤ 32) := by
    obtain ⟨⟨_, _, _, _, _, _, _⟩, hh⟩ := hmay
    refine ⟨by unfold in64; omega, by unfold in64; omega, by unfold in64; omega, by unfold in64; omega, by omega⟩
   have HE := qh he
   have HR := qh hr; have HN := qh hn; have HMM := qh hm; have HMAY := qh hmay.2
   obtain ⟨W2, hW2⟩ : ∃ W2, W2 = (w.alloc (pkO k f t id fi A n c ac fr su)).alloc (pkO k f t id fi A n c ac fr su) := ⟨_, rfl⟩
   have B2 : Below w.heap.size w W2 := by rw [hW2]; exact ((bR _ _).alloc (nl _) _).alloc (by simp) _
   have K2 : PkM W2 w.heap.size k f t id fi A n c ac fr su := by rw [hW2]; exact (Below.heap_alloc _ _ _ (by simp)).trans (heap_alloc_new w _)
   have S2 : w.heap.size + 1 ≤ W2.heap.size := by rw [hW2]; simp
   have HB2 := qh B2; have HK2 := qh K2; have HS2 := qh S2; have HW2 := qh hW2
   have b0 : ((u8 k).toNat : Int) = IntKind.u8.wrap k := by rw [u8_nat, IntKind.wrap_u8]
   have b1 : ((u8 f).toNat : Int) = IntKind.u8.wrap f := by rw [u8_nat, IntKind.wrap_u8]
   have b2 : ((u8 t).toNat : Int) = IntKind.u8.wrap t := by rw [u8_nat, IntKind.wrap_u8]
   have HB0 := qh b0; have HB1 := qh b1; have HBT := qh b2
   clear hr hn hm hmay he hnm B2 K2 S2 hW2 b0 b1 b2
   go_enter Tryz.func22, Tryz.ntmps22
   go_wp2_with (first
    | (go_at_call 77; (with_reducible refine HM.out.mono ?_); rintro e w1 ⟨rfl, rfl⟩))
   rw [← HW2.out]
   clear HW2
   go_upto_region 3 with fail
   go_cut [3] (fun s3 wx => Hid (OB wx (w.heap.size + 1) s3 (hd3 k f t ++ putN id)) ∧ Hid (Below w.heap.size w wx) ∧ Hid (PkM wx w.heap.size k f t id fi A n c ac fr su) ∧ Hid (w.heap.size + 1 ≤ wx.heap.size))
   case first =>
    have hb := HB2.out.drew
    have hk : PkM W2.drew w.heap.size k f t id fi A n c ac fr su := HK2.out
    have hs : w.heap.size + 1 ≤ W2.drew.heap.size := HS2.out
    refine wp_region_held_drew (S := (fun w' => w'.cell? ⟨w.heap.size, 0, none⟩ = some (.int .i64 k) ∧ w'.cell? ⟨w.heap.size, 1, none⟩ = some (.int .i64 f) ∧ w'.cell? ⟨w.heap.size, 2, none⟩ = some (.int .i64 t) ∧ w'.cell? ⟨w.heap.size, 3, none⟩ = some (.int .i64 id))) (by kernel_rfl) (⟨hk.c.1, hk.c.2.1, hk.c.2.2.1, hk.c.2.2.2.1⟩) (fun hHeld => ?_)
    refine htk (i := 0) (v := ?_) rfl (by kernel_rfl) (fun _ _ _ h => h) (by rfl) hHeld ?_ ?_
    rotate_left 1
    · (intro w hSw; (try dsimp only at hSw); go_simp; try (with_reducible rfl))
    try simp only [Act.put, nB, nC, nD]
    refine htk (i := 1) (v := ?_) rfl (by kernel_rfl) (fun _ _ _ h => h) (by rfl) hHeld ?_ ?_
    rotate_left 1
    · (intro w hSw; (try dsimp only at hSw); go_simp; try (with_reducible rfl))
    try simp only [Act.put, nB, nC, nD]
    refine htk (i := 2) (v := ?_) rfl (by kernel_rfl) (fun _ _ _ h => h) (by rfl) hHeld ?_ ?_
    rotate_left 1
    · (intro w hSw; (try dsimp only at hSw); go_simp; try (with_reducible rfl))
    try simp only [Act.put, nB, nC, nD]
    refine htk (i := 3) (v := ?_) rfl (by kernel_rfl) (fun _ _ _ h => h) (by rfl) hHeld ?_ ?_
    rotate_left 1
    · (intro w hSw; (try dsimp only at hSw); go_simp; try (with_reducible rfl))
    try simp only [Act.put, nB, nC, nD]
    refine htk (i := 4) (v := ?_) rfl (by kernel_rfl) (fun _ _ _ h => h) (by rfl) hHeld ?_ ?_
    rotate_left 1
    · (intro w hSw; (try dsimp only at hSw); go_simp; try (with_reducible rfl))
    try simp only [Act.put, nB, nC, nD]
    refine htk (i := 5) (v := ?_) rfl (by kernel_rfl) (fun _ _ _ h => h) (by rfl) hHeld ?_ ?_
    rotate_left 1
    · (intro w hSw; (try dsimp only at hSw); go_simp; try (with_reducible rfl))
    try simp only [Act.put, nB, nC, nD]
    refine htk (i := 6) (v := ?_) rfl (by kernel_rfl) (fun _ _ _ h => h) (by rfl) hHeld ?_ ?_
    rotate_left 1
    · (intro w hSw; (try dsimp only at hSw); go_simp; try (with_reducible rfl))
    try simp only [Act.put, nB, nC, nD]
    refine htk (i := 7) (v := ?_) rfl (by kernel_rfl) (fun _ _ _ h => h) (by rfl) hHeld ?_ ?_
    rotate_left 1
    · (intro w hSw; (try dsimp only at hSw); go_simp; try (with_reducible rfl))
    try simp only [Act.put, nB, nC, nD]
    refine htk (i := 8) (v := ?_) rfl (by kernel_rfl) (fun _ _ _ h => h) (by rfl) hHeld ?_ ?_
    rotate_left 1
    · (intro w hSw; (try dsimp only at hSw); go_simp; try (with_reducible rfl))
    try simp only [Act.put, nB, nC, nD]
    refine htk (i := 10) (v := ?_) rfl (by kernel_rfl) (fun _ _ _ h => h) (by rfl) hHeld ?_ ?_
    rotate_left 1
    · (intro w hSw; (try dsimp only at hSw); go_simp; try (with_reducible rfl))
    try simp only [Act.put, nB, nC, nD]
    refine htk (i := 11) (v := ?_) rfl (by kernel_rfl) (fun _ _ _ h => h) (by rfl) hHeld ?_ ?_
    rotate_left 1
    · (intro w hSw; (try dsimp only at hSw); go_simp; try (with_reducible rfl))
    try simp only [Act.put, nB, nC, nD]
    refine held_two (i := 9) (j := 12) rfl rfl (by kernel_rfl) (by rfl) (by rfl) (fun K hK => ?_) (fun K hK => ?_)
    · refine wp_three (.tmp 9) (.tmp 12) (.tmp 15) (by rfl) (IntKind.u8.wrap k) (IntKind.u8.wrap f) (IntKind.u8.wrap t) (u8 k) (u8 f) (u8 t) (by rfl) (by rfl) (by rfl) HB0.out HB1.out HBT.out ?_
      intro w6 h6 b6
      change OB _ _ _ (hd3 k f t) at h6
      replace hk := hk.below b6 (Nat.lt_of_lt_of_le (Nat.lt_succ_self _) hs)
      have HV := qh (h6.less (b' := w.heap.size + 1) hs)
      replace hb := hb.trans (b6.mono hb.size)
      replace hs := Nat.le_trans hs b6.size
      clear h6 b6
      refine hK.out _ _ (⟨hk.c.1, hk.c.2.1, hk.c.2.2.1, hk.c.2.2.2.1⟩) (fun hHeld2 => ?_)
      clear hK K hHeld; have hHeld := hHeld2; clear hHeld2
      try simp only [Act.put, nB, nC, nD]
      refine held_one (i := 12) rfl (by kernel_rfl) (by rfl) (fun K hK => ?_)
      go_simp
      (with_reducible refine (refput_any id _ hI.out.1).mono ?_)
      rintro e w1 ⟨v1, rfl, h1, b1⟩
      obtain ⟨A1, c1, rfl, _, _, _⟩ := h1.form _ rfl
      have HA := qh h1
      clear h1
      replace hk := hk.below b1 (Nat.lt_of_lt_of_le (Nat.lt_succ_self _) hs)
      replace HV := qh (HV.out.below b1 (nl _))
      replace hb := hb.trans (b1.mono hb.size)
      replace hs := Nat.le_trans hs b1.size
      refine hK.out _ _ (⟨hk.c.1, hk.c.2.1, hk.c.2.2.1, hk.c.2.2.2.1⟩) (fun hHeld2 => ?_)
      clear hK K hHeld; have hHeld := hHeld2; clear hHeld2
      try simp only [Act.put, nB, nC, nD]
      refine held_one (i := 13) rfl (by kernel_rfl) (by rfl) (fun K hK => ?_)
      refine wp_append_bytes (.tmp 16) (.tmp 19) (by rfl) (w.heap.size + 1) _ (hd3 k f t) (putN id) (by rfl) HV.out _ _ _ (by rfl) HA.out.cells (by simp only [List.length_append, hd3_len, s4_len]; have e1 := putN_len id hI.out.1; have e2 := putN_len fi hI.out.2.1; have e3 := putN_len ac hI.out.2.2.1; have e4 := putN_len fr hI.out.2.2.2.1; have e5 := putN_len (n : Int) (by have := hI.out; unfold in64; omega); omega) hs ?_
      intro v2 w2 o2 g2 e2
      replace hk := hk.row g2 (not_row HV.out.ge (Nat.lt_succ_self _))
      replace hb := hb.grown g2 (by omega) (fun k hk => by have := HV.out.ge k hk; omega)
      replace hs := Nat.le_trans hs g2.size
      replace HV := qh o2
      clear o2 g2 e2 HA
      refine hK.out _ _ (⟨hk.c.1, hk.c.2.1, hk.c.2.2.1, hk.c.2.2.2.1⟩) (fun hHeld2 => ?_)
      clear hK K hHeld; have hHeld := hHeld2; clear hHeld2
      try simp only [Act.put, nB, nC, nD]
      refine htk (i := 14) (v := ?_) rfl (by kernel_rfl) (fun _ _ _ h => h) (by rfl) hHeld ?_ ?_
      rotate_left 1
      · (intro w hSw; (try dsimp only at hSw); go_simp; try (with_reducible rfl))
      try simp only [Act.put, nB, nC, nD]
      refine wpAnyH_done (by kernel_rfl) ?_ _
      skip
      go_wp2_with fail
      go_meet
      exact ⟨HV.out, hb, hk, hs⟩
    · go_simp
      (with_reducible refine (refput_any id _ hI.out.1).mono ?_)
      rintro e w1 ⟨v1, rfl, h1, b1⟩
      obtain ⟨A1, c1, rfl, _, _, _⟩ := h1.form _ rfl
      have HA := qh h1
      clear h1
      replace hk := hk.below b1 (Nat.lt_of_lt_of_le (Nat.lt_succ_self _) hs)
      replace hb := hb.trans (b1.mono hb.size)
      replace hs := Nat.le_trans hs b1.size
      refine hK.out _ _ (⟨hk.c.1, hk.c.2.1, hk.c.2.2.1, hk.c.2.2.2.1⟩) (fun hHeld2 => ?_)
      clear hK K hHeld; have hHeld := hHeld2; clear hHeld2
      try simp only [Act.put, nB, nC, nD]
      refine held_one (i := 9) rfl (by kernel_rfl) (by rfl) (fun K hK => ?_)
      refine wp_three (.tmp 9) (.tmp 12) (.tmp 15) (by rfl) (IntKind.u8.wrap k) (IntKind.u8.wrap f) (IntKind.u8.wrap t) (u8 k) (u8 f) (u8 t) (by rfl) (by rfl) (by rfl) HB0.out HB1.out HBT.out ?_
      intro w6 h6 b6
      change OB _ _ _ (hd3 k f t) at h6
      replace hk := hk.below b6 (Nat.lt_of_lt_of_le (Nat.lt_succ_self _) hs)
      replace HA := qh (HA.out.below b6 (nl _))
      have HV := qh (h6.less (b' := w.heap.size + 1) hs)
      replace hb := hb.trans (b6.mono hb.size)
      replace hs := Nat.le_trans hs b6.size
      clear h6 b6
      refine hK.out _ _ (⟨hk.c.1, hk.c.2.1, hk.c.2.2.1, hk.c.2.2.2.1⟩) (fun hHeld2 => ?_)
      clear hK K hHeld; have hHeld := hHeld2; clear hHeld2
      try simp only [Act.put, nB, nC, nD]
      refine held_one (i := 13) rfl (by kernel_rfl) (by rfl) (fun K hK => ?_)
      refine wp_append_bytes (.tmp 16) (.tmp 19) (by rfl) (w.heap.size + 1) _ (hd3 k f t) (putN id) (by rfl) HV.out _ _ _ (by rfl) HA.out.cells (by simp only [List.length_append, hd3_len, s4_len]; have e1 := putN_len id hI.out.1; have e2 := putN_len fi hI.out.2.1; have e3 := putN_len ac hI.out.2.2.1; have e4 := putN_len fr hI.out.2.2.2.1; have e5 := putN_len (n : Int) (by have := hI.out; unfold in64; omega); omega) hs ?_
      intro v2 w2 o2 g2 e2
      replace hk := hk.row g2 (not_row HV.out.ge (Nat.lt_succ_self _))
      replace hb := hb.grown g2 (by omega) (fun k hk => by have := HV.out.ge k hk; omega)
      replace hs := Nat.le_trans hs g2.size
      replace HV := qh o2
      clear o2 g2 e2 HA
      refine hK.out _ _ (⟨hk.c.1, hk.c.2.1, hk.c.2.2.1, hk.c.2.2.2.1⟩) (fun hHeld2 => ?_)
      clear hK K hHeld; have hHeld := hHeld2; clear hHeld2
      try simp only [Act.put, nB, nC, nD]
      refine htk (i := 14) (v := ?_) rfl (by kernel_rfl) (fun _ _ _ h => h) (by rfl) hHeld ?_ ?_
      rotate_left 1
      · (intro w hSw; (try dsimp only at hSw); go_simp; try (with_reducible rfl))
      try simp only [Act.put, nB, nC, nD]
      refine wpAnyH_done (by kernel_rfl) ?_ _
      skip
      go_wp2_with fail
      go_meet
      exact ⟨HV.out, hb, hk, hs⟩
   case rest =>
    obtain ⟨HV3, HB3, HK3, HS3⟩ := hcut
    rcases HMAY.out with ⟨hk1, -, -, -, -, -, -, -⟩ | ⟨hk1, -, -, -, -, -⟩
    · have HKK := qh hk1
      have hq1 : (k == 1) = true := by simp [hk1]
      have c0 := HK3.out.c.1
      clear hk1
      go_wp2_with fail
      go_upto_region 5 with fail
      go_cut [3] (fun s3 wx => Hid (OB wx (w.heap.size + 1) s3 (hd3 k f t ++ putN id ++ putN fi ++ putN ac)) ∧ Hid (Below w.heap.size w wx) ∧ Hid (PkM wx w.heap.size k f t id fi A n c ac fr su) ∧ Hid (w.heap.size + 1 ≤ wx.heap.size))
      case first =>
       have HV := qh HV3.out.drew
       have hb := HB3.out.drew
       have hk : PkM wc.drew w.heap.size k f t id fi A n c ac fr su := HK3.out
       have hs : w.heap.size + 1 ≤ wc.drew.heap.size := HS3.out
       refine wp_region_held_drew (S := (fun w' => w'.cell? ⟨w.heap.size, 4, none⟩ = some (.int .i64 fi) ∧ w'.cell? ⟨w.heap.size, 6, none⟩ = some (.int .i64 ac))) (by kernel_rfl) (⟨hk.c.2.2.2.2.1, hk.c.2.2.2.2.2.2.1⟩) (fun hHeld => ?_)
       refine htk (i := 0) (v := ?_) rfl (by kernel_rfl) (fun _ _ _ h => h) (by rfl) hHeld ?_ ?_
       rotate_left 1
       · (intro w hSw; (try dsimp only at hSw); go_simp; try (with_reducible rfl))
       try simp only [Act.put, nB, nC, nD]
       refine htk (i := 1) (v := ?_) rfl (by kernel_rfl) (fun _ _ _ h => h) (by rfl) hHeld ?_ ?_
       rotate_left 1
       · (intro w hSw; (try dsimp only at hSw); go_simp; try (with_reducible rfl))
       try simp only [Act.put, nB, nC, nD]
       refine htk (i := 2) (v := ?_) rfl (by kernel_rfl) (fun _ _ _ h => h) (by rfl) hHeld ?_ ?_
       rotate_left 1
       · (intro w hSw; (try dsimp only at hSw); go_simp; try (with_reducible rfl))
       try simp only [Act.put, nB, nC, nD]
       refine htk (i := 5) (v := ?_) rfl (by kernel_rfl) (fun _ _ _ h => h) (by rfl) hHeld ?_ ?_
       rotate_left 1
       · (intro w hSw; (try dsimp only at hSw); go_simp; try (with_reducible rfl))
       try simp only [Act.put, nB, nC, nD]
       refine htk (i := 6) (v := ?_) rfl (by kernel_rfl) (fun _ _ _ h => h) (by rfl) hHeld ?_ ?_
       rotate_left 1
       · (intro w hSw; (try dsimp only at hSw); go_simp; try (with_reducible rfl))
       try simp only [Act.put, nB, nC, nD]
       refine held_one (i := 3) rfl (by kernel_rfl) (by rfl) (fun K hK => ?_)
       go_simp
       (with_reducible refine (refput_any fi _ hI.out.2.1).mono ?_)
       rintro e w1 ⟨v1, rfl, h1, b1⟩
       obtain ⟨A1, c1, rfl, _, _, _⟩ := h1.form _ rfl
       have HA := qh h1
       clear h1
       replace hk := hk.below b1 (Nat.lt_of_lt_of_le (Nat.lt_succ_self _) hs)
       replace HV := qh (HV.out.below b1 (nl _))
       replace hb := hb.trans (b1.mono hb.size)
       replace hs := Nat.le_trans hs b1.size
       refine hK.out _ _ (⟨hk.c.2.2.2.2.1, hk.c.2.2.2.2.2.2.1⟩) (fun hHeld2 => ?_)
       clear hK K hHeld; have hHeld := hHeld2; clear hHeld2
       try simp only [Act.put, nB, nC, nD]
       refine held_one (i := 4) rfl (by kernel_rfl) (by rfl) (fun K hK => ?_)
       refine wp_append_bytes (.tmp 24) (.tmp 27) (by rfl) (w.heap.size + 1) _ (hd3 k f t ++ putN id) (putN fi) (by rfl) HV.out _ _ _ (by rfl) HA.out.cells (by simp only [List.length_append, hd3_len, s4_len]; have e1 := putN_len id hI.out.1; have e2 := putN_len fi hI.out.2.1; have e3 := putN_len ac hI.out.2.2.1; have e4 := putN_len fr hI.out.2.2.2.1; have e5 := putN_len (n : Int) (by have := hI.out; unfold in64; omega); omega) hs ?_
       intro v2 w2 o2 g2 e2
       replace hk := hk.row g2 (not_row HV.out.ge (Nat.lt_succ_self _))
       replace hb := hb.grown g2 (by omega) (fun k hk => by have := HV.out.ge k hk; omega)
       replace hs := Nat.le_trans hs g2.size
       replace HV := qh o2
       clear o2 g2 e2 HA
       refine hK.out _ _ (⟨hk.c.2.2.2.2.1, hk.c.2.2.2.2.2.2.1⟩) (fun hHeld2 => ?_)
       clear hK K hHeld; have hHeld := hHeld2; clear hHeld2
       try simp only [Act.put, nB, nC, nD]
       refine held_one (i := 7) rfl (by kernel_rfl) (by rfl) (fun K hK => ?_)
       go_simp
       (with_reducible refine (refput_any ac _ hI.out.2.2.1).mono ?_)
       rintro e w1 ⟨v1, rfl, h1, b1⟩
       obtain ⟨A1, c1, rfl, _, _, _⟩ := h1.form _ rfl
       have HA := qh h1
       clear h1
       replace hk := hk.below b1 (Nat.lt_of_lt_of_le (Nat.lt_succ_self _) hs)
       replace HV := qh (HV.out.below b1 (nl _))
       replace hb := hb.trans (b1.mono hb.size)
       replace hs := Nat.le_trans hs b1.size
       refine hK.out _ _ (⟨hk.c.2.2.2.2.1, hk.c.2.2.2.2.2.2.1⟩) (fun hHeld2 => ?_)
       clear hK K hHeld; have hHeld := hHeld2; clear hHeld2
       try simp only [Act.put, nB, nC, nD]
       refine held_one (i := 8) rfl (by kernel_rfl) (by rfl) (fun K hK => ?_)
       refine wp_append_bytes (.tmp 28) (.tmp 31) (by rfl) (w.heap.size + 1) _ (hd3 k f t ++ putN id ++ putN fi) (putN ac) (by rfl) HV.out _ _ _ (by rfl) HA.out.cells (by simp only [List.length_append, hd3_len, s4_len]; have e1 := putN_len id hI.out.1; have e2 := putN_len fi hI.out.2.1; have e3 := putN_len ac hI.out.2.2.1; have e4 := putN_len fr hI.out.2.2.2.1; have e5 := putN_len (n : Int) (by have := hI.out; unfold in64; omega); omega) hs ?_
       intro v2 w2 o2 g2 e2
       replace hk := hk.row g2 (not_row HV.out.ge (Nat.lt_succ_self _))
       replace hb := hb.grown g2 (by omega) (fun k hk => by have := HV.out.ge k hk; omega)
       replace hs := Nat.le_trans hs g2.size
       replace HV := qh o2
       clear o2 g2 e2 HA
       refine hK.out _ _ (⟨hk.c.2.2.2.2.1, hk.c.2.2.2.2.2.2.1⟩) (fun hHeld2 => ?_)
       clear hK K hHeld; have hHeld := hHeld2; clear hHeld2
       try simp only [Act.put, nB, nC, nD]
       refine htk (i := 9) (v := ?_) rfl (by kernel_rfl) (fun _ _ _ h => h) (by rfl) hHeld ?_ ?_
       rotate_left 1
       · (intro w hSw; (try dsimp only at hSw); go_simp; try (with_reducible rfl))
       try simp only [Act.put, nB, nC, nD]
       refine wpAnyH_done (by kernel_rfl) ?_ _
       skip
       go_wp2_with fail
       go_meet
       exact ⟨HV.out, hb, hk, hs⟩
      case rest =>
       obtain ⟨HV5, HB5, HK5, HS5⟩ := hcut
       go_upto_region 6 with fail
       go_cut [3] (fun s3 wx => Hid (OB wx (w.heap.size + 1) s3 (hd3 k f t ++ putN id ++ putN fi ++ putN ac ++ putN fr ++ s4 su)) ∧ Hid (Below w.heap.size w wx) ∧ Hid (PkM wx w.heap.size k f t id fi A n c ac fr su) ∧ Hid (w.heap.size + 1 ≤ wx.heap.size))
       case first =>
        have HV := qh HV5.out.drew
        have hb := HB5.out.drew
        have hk : PkM wc.drew w.heap.size k f t id fi A n c ac fr su := HK5.out
        have hs : w.heap.size + 1 ≤ wc.drew.heap.size := HS5.out
        refine wp_region_held_drew (S := (fun w' => w'.cell? ⟨w.heap.size, 7, none⟩ = some (.int .i64 fr) ∧ w'.cell? ⟨w.heap.size, 8, none⟩ = some (.int .u32 su))) (by kernel_rfl) (⟨hk.c.2.2.2.2.2.2.2.1, hk.c.2.2.2.2.2.2.2.2⟩) (fun hHeld => ?_)
        refine htk (i := 0) (v := ?_) rfl (by kernel_rfl) (fun _ _ _ h => h) (by rfl) hHeld ?_ ?_
        rotate_left 1
        · (intro w hSw; (try dsimp only at hSw); go_simp; try (with_reducible rfl))
        try simp only [Act.put, nB, nC, nD]
        refine htk (i := 1) (v := ?_) rfl (by kernel_rfl) (fun _ _ _ h => h) (by rfl) hHeld ?_ ?_
        rotate_left 1
        · (intro w hSw; (try dsimp only at hSw); go_simp; try (with_reducible rfl))
        try simp only [Act.put, nB, nC, nD]
        refine htk (i := 2) (v := ?_) rfl (by kernel_rfl) (fun _ _ _ h => h) (by rfl) hHeld ?_ ?_
        rotate_left 1
        · (intro w hSw; (try dsimp only at hSw); go_simp; try (with_reducible rfl))
        try simp only [Act.put, nB, nC, nD]
        refine htk (i := 5) (v := ?_) rfl (by kernel_rfl) (fun _ _ _ h => h) (by rfl) hHeld ?_ ?_
        rotate_left 1
        · (intro w hSw; (try dsimp only at hSw); go_simp; try (with_reducible rfl))
        try simp only [Act.put, nB, nC, nD]
        refine htk (i := 6) (v := ?_) rfl (by kernel_rfl) (fun _ _ _ h => h) (by rfl) hHeld ?_ ?_
        rotate_left 1
        · (intro w hSw; (try dsimp only at hSw); go_simp; try (with_reducible rfl))
        try simp only [Act.put, nB, nC, nD]
        refine held_one (i := 3) rfl (by kernel_rfl) (by rfl) (fun K hK => ?_)
        go_simp
        (with_reducible refine (refput_any fr _ hI.out.2.2.2.1).mono ?_)
        rintro e w1 ⟨v1, rfl, h1, b1⟩
        obtain ⟨A1, c1, rfl, _, _, _⟩ := h1.form _ rfl
        have HA := qh h1
        clear h1
        replace hk := hk.below b1 (Nat.lt_of_lt_of_le (Nat.lt_succ_self _) hs)
        replace HV := qh (HV.out.below b1 (nl _))
        replace hb := hb.trans (b1.mono hb.size)
        replace hs := Nat.le_trans hs b1.size
        refine hK.out _ _ (⟨hk.c.2.2.2.2.2.2.2.1, hk.c.2.2.2.2.2.2.2.2⟩) (fun hHeld2 => ?_)
        clear hK K hHeld; have hHeld := hHeld2; clear hHeld2
        try simp only [Act.put, nB, nC, nD]
        refine held_one (i := 4) rfl (by kernel_rfl) (by rfl) (fun K hK => ?_)
        refine wp_append_bytes (.tmp 33) (.tmp 36) (by rfl) (w.heap.size + 1) _ (hd3 k f t ++ putN id ++ putN fi ++ putN ac) (putN fr) (by rfl) HV.out _ _ _ (by rfl) HA.out.cells (by simp only [List.length_append, hd3_len, s4_len]; have e1 := putN_len id hI.out.1; have e2 := putN_len fi hI.out.2.1; have e3 := putN_len ac hI.out.2.2.1; have e4 := putN_len fr hI.out.2.2.2.1; have e5 := putN_len (n : Int) (by have := hI.out; unfold in64; omega); omega) hs ?_
        intro v2 w2 o2 g2 e2
        replace hk := hk.row g2 (not_row HV.out.ge (Nat.lt_succ_self _))
        replace hb := hb.grown g2 (by omega) (fun k hk => by have := HV.out.ge k hk; omega)
        replace hs := Nat.le_trans hs g2.size
        replace HV := qh o2
        clear o2 g2 e2 HA
        refine hK.out _ _ (⟨hk.c.2.2.2.2.2.2.2.1, hk.c.2.2.2.2.2.2.2.2⟩) (fun hHeld2 => ?_)
        clear hK K hHeld; have hHeld := hHeld2; clear hHeld2
        try simp only [Act.put, nB, nC, nD]
        refine held_one (i := 7) rfl (by kernel_rfl) (by rfl) (fun K hK => ?_)
        go_simp
        (with_reducible refine (four_any su _ h4 h5).mono ?_)
        rintro e w1 ⟨rfl, hw1⟩
        have b1 : Below _ _ w1 := hw1 ▸ (bR _ _).alloc (nl _) _
        have SR := hw1 ▸ s4_reads _ su
        replace hk := hk.below b1 (Nat.lt_of_lt_of_le (Nat.lt_succ_self _) hs)
        replace HV := qh (HV.out.below b1 (nl _))
        replace hb := hb.trans (b1.mono hb.size)
        replace hs := Nat.le_trans hs b1.size
        refine hK.out _ _ (⟨hk.c.2.2.2.2.2.2.2.1, hk.c.2.2.2.2.2.2.2.2⟩) (fun hHeld2 => ?_)
        clear hK K hHeld; have hHeld := hHeld2; clear hHeld2
        try simp only [Act.put, nB, nC, nD]
        refine held_one (i := 8) rfl (by kernel_rfl) (by rfl) (fun K hK => ?_)
        refine wp_append_bytes (.tmp 37) (.tmp 40) (by rfl) (w.heap.size + 1) _ (hd3 k f t ++ putN id ++ putN fi ++ putN ac ++ putN fr) (s4 su) (by rfl) HV.out _ _ _ (by rfl) SR (by simp only [List.length_append, hd3_len, s4_len]; have e1 := putN_len id hI.out.1; have e2 := putN_len fi hI.out.2.1; have e3 := putN_len ac hI.out.2.2.1; have e4 := putN_len fr hI.out.2.2.2.1; have e5 := putN_len (n : Int) (by have := hI.out; unfold in64; omega); omega) hs ?_
        intro v2 w2 o2 g2 e2
        replace hk := hk.row g2 (not_row HV.out.ge (Nat.lt_succ_self _))
        replace hb := hb.grown g2 (by omega) (fun k hk => by have := HV.out.ge k hk; omega)
        replace hs := Nat.le_trans hs g2.size
        replace HV := qh o2
        clear o2 g2 e2 SR
        refine hK.out _ _ (⟨hk.c.2.2.2.2.2.2.2.1, hk.c.2.2.2.2.2.2.2.2⟩) (fun hHeld2 => ?_)
        clear hK K hHeld; have hHeld := hHeld2; clear hHeld2
        try simp only [Act.put, nB, nC, nD]
        refine htk (i := 9) (v := ?_) rfl (by kernel_rfl) (fun _ _ _ h => h) (by rfl) hHeld ?_ ?_
        rotate_left 1
        · (intro w hSw; (try dsimp only at hSw); go_simp; try (with_reducible rfl))
        try simp only [Act.put, nB, nC, nD]
        refine wpAnyH_done (by kernel_rfl) ?_ _
        skip
        go_wp2_with fail
        go_meet
        exact ⟨HV.out, hb, hk, hs⟩
       case rest =>
        obtain ⟨HV6, HB6, HK6, HS6⟩ := hcut
        go_upto_region 7 with fail
        go_cut [3] (fun s3 wx => Hid (OB wx (w.heap.size + 1) s3 (hd3 k f t ++ putN id ++ putN fi ++ putN ac ++ putN fr ++ s4 su ++ putN (n : Int) ++ encG 0 (groups l))) ∧ Hid (Below w.heap.size w wx) ∧ Hid (PkM wx w.heap.size k f t id fi A n c ac fr su) ∧ Hid (w.heap.size + 1 ≤ wx.heap.size))
        case first =>
         have HV := qh HV6.out.drew
         have hb := HB6.out.drew
         have hk : PkM wc.drew w.heap.size k f t id fi A n c ac fr su := HK6.out
         have hs : w.heap.size + 1 ≤ wc.drew.heap.size := HS6.out
         refine wp_region_held_drew (S := (fun w' => w'.cell? ⟨w.heap.size, 5, none⟩ = some (.slice A n c))) (by kernel_rfl) (hk.c.2.2.2.2.2.1) (fun hHeld => ?_)
         refine htk (i := 0) (v := ?_) rfl (by kernel_rfl) (fun _ _ _ h => h) (by rfl) hHeld ?_ ?_
         rotate_left 1
         · (intro w hSw; (try dsimp only at hSw); go_simp; try (with_reducible rfl))
         try simp only [Act.put, nB, nC, nD]
         refine htk (i := 1) (v := ?_) rfl (by kernel_rfl) (fun _ _ _ h => h) (by rfl) hHeld ?_ ?_
         rotate_left 1
         · (intro w hSw; (try dsimp only at hSw); go_simp; try (with_reducible rfl))
         try simp only [Act.put, nB, nC, nD]
         refine htk (i := 2) (v := ?_) rfl (by kernel_rfl) (fun _ _ _ h => h) (by rfl) hHeld ?_ ?_
         rotate_left 1
         · (intro w hSw; (try dsimp only at hSw); go_simp; try (with_reducible rfl))
         try simp only [Act.put, nB, nC, nD]
         refine htk (i := 3) (v := ?_) rfl (by kernel_rfl) (fun _ _ _ h => h) (by rfl) hHeld ?_ ?_
         rotate_left 1
         · (intro w hSw; (try dsimp only at hSw); go_simp; try (with_reducible rfl))
         try simp only [Act.put, nB, nC, nD]
         refine htk (i := 6) (v := ?_) rfl (by kernel_rfl) (fun _ _ _ h => h) (by rfl) hHeld ?_ ?_
         rotate_left 1
         · (intro w hSw; (try dsimp only at hSw); go_simp; try (with_reducible rfl))
         try simp only [Act.put, nB, nC, nD]
         refine htk (i := 7) (v := ?_) rfl (by kernel_rfl) (fun _ _ _ h => h) (by rfl) hHeld ?_ ?_
         rotate_left 1
         · (intro w hSw; (try dsimp only at hSw); go_simp; try (with_reducible rfl))
         try simp only [Act.put, nB, nC, nD]
         refine held_one (i := 4) rfl (by kernel_rfl) (by rfl) (fun K hK => ?_)
         go_simp
         (with_reducible refine (refput_any (n : Int) _ (by have := hI.out; unfold in64; omega)).mono ?_)
         rintro e w1 ⟨v1, rfl, h1, b1⟩
         obtain ⟨A1, c1, rfl, _, _, _⟩ := h1.form _ rfl
         have HA := qh h1
         clear h1
         replace hk := hk.below b1 (Nat.lt_of_lt_of_le (Nat.lt_succ_self _) hs)
         replace HV := qh (HV.out.below b1 (nl _))
         replace hb := hb.trans (b1.mono hb.size)
         replace hs := Nat.le_trans hs b1.size
         refine hK.out _ _ (hk.c.2.2.2.2.2.1) (fun hHeld2 => ?_)
         clear hK K hHeld; have hHeld := hHeld2; clear hHeld2
         try simp only [Act.put, nB, nC, nD]
         refine held_one (i := 5) rfl (by kernel_rfl) (by rfl) (fun K hK => ?_)
         refine wp_append_bytes (.tmp 42) (.tmp 46) (by rfl) (w.heap.size + 1) _ (hd3 k f t ++ putN id ++ putN fi ++ putN ac ++ putN fr ++ s4 su) (putN (n : Int)) (by rfl) HV.out _ _ _ (by rfl) HA.out.cells (by simp only [List.length_append, hd3_len, s4_len]; have e1 := putN_len id hI.out.1; have e2 := putN_len fi hI.out.2.1; have e3 := putN_len ac hI.out.2.2.1; have e4 := putN_len fr hI.out.2.2.2.1; have e5 := putN_len (n : Int) (by have := hI.out; unfold in64; omega); omega) hs ?_
         intro v2 w2 o2 g2 e2
         replace hk := hk.row g2 (not_row HV.out.ge (Nat.lt_succ_self _))
         replace hb := hb.grown g2 (by omega) (fun k hk => by have := HV.out.ge k hk; omega)
         replace hs := Nat.le_trans hs g2.size
         replace HV := qh o2
         clear o2 g2 e2 HA
         refine hK.out _ _ (hk.c.2.2.2.2.2.1) (fun hHeld2 => ?_)
         clear hK K hHeld; have hHeld := hHeld2; clear hHeld2
         try simp only [Act.put, nB, nC, nD]
         refine held_one (i := 8) rfl (by kernel_rfl) (by rfl) (fun K hK => ?_)
         go_simp
         (with_reducible refine (refruns_any A l n c _ (HR.out.next hb) HN.out hc HMM.out (by have := hI.out; omega)).mono ?_)
         rintro e w1 ⟨v1, rfl, h1, b1⟩
         obtain ⟨A1, c1, rfl, _, _, _⟩ := h1.form _ rfl
         have HA := qh h1
         clear h1
         replace hk := hk.below b1 (Nat.lt_of_lt_of_le (Nat.lt_succ_self _) hs)
         replace HV := qh (HV.out.below b1 (nl _))
         replace hb := hb.trans (b1.mono hb.size)
         replace hs := Nat.le_trans hs b1.size
         refine hK.out _ _ (hk.c.2.2.2.2.2.1) (fun hHeld2 => ?_)
         clear hK K hHeld; have hHeld := hHeld2; clear hHeld2
         try simp only [Act.put, nB, nC, nD]
         refine held_one (i := 9) rfl (by kernel_rfl) (by rfl) (fun K hK => ?_)
         refine wp_append_bytes (.tmp 47) (.tmp 50) (by rfl) (w.heap.size + 1) _ (hd3 k f t ++ putN id ++ putN fi ++ putN ac ++ putN fr ++ s4 su ++ putN (n : Int)) (encG 0 (groups l)) (by rfl) HV.out _ _ _ (by rfl) HA.out.cells (by simp only [List.length_append, hd3_len, s4_len]; have e1 := putN_len id hI.out.1; have e2 := putN_len fi hI.out.2.1; have e3 := putN_len ac hI.out.2.2.1; have e4 := putN_len fr hI.out.2.2.2.1; have e5 := putN_len (n : Int) (by have := hI.out; unfold in64; omega); have e6 := encG_groups_len l (by have := HN.out; have := hI.out; omega) 0; omega) hs ?_
         intro v2 w2 o2 g2 e2
         replace hk := hk.row g2 (not_row HV.out.ge (Nat.lt_succ_self _))
         replace hb := hb.grown g2 (by omega) (fun k hk => by have := HV.out.ge k hk; omega)
         replace hs := Nat.le_trans hs g2.size
         replace HV := qh o2
         clear o2 g2 e2 HA
         refine hK.out _ _ (hk.c.2.2.2.2.2.1) (fun hHeld2 => ?_)
         clear hK K hHeld; have hHeld := hHeld2; clear hHeld2
         try simp only [Act.put, nB, nC, nD]
         refine htk (i := 10) (v := ?_) rfl (by kernel_rfl) (fun _ _ _ h => h) (by rfl) hHeld ?_ ?_
         rotate_left 1
         · (intro w hSw; (try dsimp only at hSw); go_simp; try (with_reducible rfl))
         try simp only [Act.put, nB, nC, nD]
         refine wpAnyH_done (by kernel_rfl) ?_ _
         skip
         go_wp2_with fail
         go_meet
         exact ⟨HV.out, hb, hk, hs⟩
        case rest =>
         obtain ⟨HV7, HB7, HK7, HS7⟩ := hcut
         obtain ⟨y, hy⟩ : ∃ y, bodyC k f t id fi ac fr su l = y := ⟨_, rfl⟩
         have hby : y = hd3 k f t ++ putN id ++ putN fi ++ putN ac ++ putN fr ++ s4 su ++ putN (n : Int) ++ encG 0 (groups l) := by
          rw [← hy, ← HN.out]
          unfold bodyC headK tailK
          rw [if_pos HKK.out]
          simp only [List.append_assoc]
          rfl
         have hyl : y.length ≤ 100000 := by
          have h := encG_groups_len l (by have := HN.out; have := hI.out; omega) 0
          rw [hby]
          simp only [List.length_append, s4_len, hd3_len]
          have e1 := putN_len id hI.out.1
          have e2 := putN_len fi hI.out.2.1
          have e3 := putN_len ac hI.out.2.2.1
          have e4 := putN_len fr hI.out.2.2.2.1
          have e5 := putN_len (n : Int) (by have := hI.out; unfold in64; omega)
          omega
         rw [← hby] at HV7
         have HY := qh hy; have HYL := qh hyl
         clear hy hby hyl
         obtain ⟨m5, hm5⟩ : ∃ m5, y.length = m5 := ⟨_, rfl⟩
         obtain ⟨A5, cap5, rfl, hc5, hcm5, hr5⟩ := HV7.out.form_n m5 hm5
         have hm5l : m5 ≤ 100000 := by rw [← hm5]; exact HYL.out
         have HSU := qh (refsum_n A5 y m5 cap5 wc hr5 hm5 (by unfold maxLen; omega))
         obtain ⟨z, hz⟩ : ∃ z, tn (sumL y) = z := ⟨_, rfl⟩
         have hz0 : 0 ≤ z := by rw [← hz]; exact tn_lo _
         have hz1 : z ≤ 4294967295 := by rw [← hz]; exact tn_hi _
         rw [hz] at HSU
         have HZ := qh hz
         have HF := qh (four_any z wc hz0 hz1)
         have ha : Below wc.heap.size wc (wc.alloc (rowB (s4 z))) := (bR _ _).alloc (nl _) _
         have OX := qh (HV7.out.below ha (nl _))
         have SR := qh (s4_reads wc z)
         have HLN : Hid (y.length + (s4 z).length ≤ 140737488355328) := by show _ ≤ _; rw [hm5, s4_len]; omega
         have SA : Hid (w.heap.size + 1 ≤ (wc.alloc (rowB (s4 z))).heap.size) := Nat.le_trans HS7.out ha.size
         have HA := qh ha
         have HM5 := qh hm5
         clear hm5 hcm5 hr5 hz ha
         go_wp2_with (first
          | (go_at_call 81; (with_reducible refine HSU.out.mono ?_); rintro e w6 ⟨rfl, rfl⟩)
          | (go_at_call 79; (with_reducible refine HF.out.mono ?_); rintro e w7 ⟨rfl, rfl⟩)
          | (at_builtin; refine wpList_append_bytes rfl (.tmp 52) (.tmp 55) rfl (w.heap.size + 1) (.slice A5 m5 cap5) y (s4 z) rfl OX.out (wc.heap.size + 1) _ 4 rfl SR.out HLN.out SA.out ?_; intro v8 w8 o8 g8 e8; have HG8 := qh g8; have O8 := qh o8; clear o8 g8 e8))
         go_ret
         refine ⟨_, rfl, ?_, (HB7.out.trans (HA.out.mono HB7.out.size)).grown HG8.out (by have := SA.out; omega) (fun k hk => by have := OX.out.ge k hk; omega)⟩
         rw [HE.out]
         have e : sealK (bodyC k f t id fi ac fr su l) = y ++ s4 z := by
          unfold sealK
          rw [HY.out, HZ.out]
         rw [e]
         exact O8.out.less (by omega)
    · have HKK := qh hk1
      have hq1 : (k == 1) = false := by simp; omega
      have c0 := HK3.out.c.1
      clear hk1
      obtain ⟨y, hy⟩ : ∃ y, bodyC k f t id fi ac fr su l = y := ⟨_, rfl⟩
      have hby : y = hd3 k f t ++ putN id := by
       rw [← hy]
       unfold bodyC headK
       rw [if_neg (by have := HKK.out; omega)]
       rfl
      have hyl : y.length ≤ 100000 := by
       rw [hby, List.length_append, hd3_len]
       have e1 := putN_len id hI.out.1
       omega
      have HV7 := HV3; have HB7 := HB3; have HS7 := HS3
      rw [← hby] at HV7
      have HY := qh hy; have HYL := qh hyl
      clear hy hby hyl
      obtain ⟨m5, hm5⟩ : ∃ m5, y.length = m5 := ⟨_, rfl⟩
      obtain ⟨A5, cap5, rfl, hc5, hcm5, hr5⟩ := HV7.out.form_n m5 hm5
      have hm5l : m5 ≤ 100000 := by rw [← hm5]; exact HYL.out
      have HSU := qh (refsum_n A5 y m5 cap5 wc hr5 hm5 (by unfold maxLen; omega))
      obtain ⟨z, hz⟩ : ∃ z, tn (sumL y) = z := ⟨_, rfl⟩
      have hz0 : 0 ≤ z := by rw [← hz]; exact tn_lo _
      have hz1 : z ≤ 4294967295 := by rw [← hz]; exact tn_hi _
      rw [hz] at HSU
      have HZ := qh hz
      have HF := qh (four_any z wc hz0 hz1)
      have ha : Below wc.heap.size wc (wc.alloc (rowB (s4 z))) := (bR _ _).alloc (nl _) _
      have OX := qh (HV7.out.below ha (nl _))
      have SR := qh (s4_reads wc z)
      have HLN : Hid (y.length + (s4 z).length ≤ 140737488355328) := by show _ ≤ _; rw [hm5, s4_len]; omega
      have SA : Hid (w.heap.size + 1 ≤ (wc.alloc (rowB (s4 z))).heap.size) := Nat.le_trans HS7.out ha.size
      have HA := qh ha
      have HM5 := qh hm5
      clear hm5 hcm5 hr5 hz ha
      go_wp2_with (first
       | (go_at_call 81; (with_reducible refine HSU.out.mono ?_); rintro e w6 ⟨rfl, rfl⟩)
       | (go_at_call 79; (with_reducible refine HF.out.mono ?_); rintro e w7 ⟨rfl, rfl⟩)
       | (at_builtin; refine wpList_append_bytes rfl (.tmp 52) (.tmp 55) rfl (w.heap.size + 1) (.slice A5 m5 cap5) y (s4 z) rfl OX.out (wc.heap.size + 1) _ 4 rfl SR.out HLN.out SA.out ?_; intro v8 w8 o8 g8 e8; have HG8 := qh g8; have O8 := qh o8; clear o8 g8 e8))
      go_ret
      refine ⟨_, rfl, ?_, (HB7.out.trans (HA.out.mono HB7.out.size)).grown HG8.out (by have := SA.out; omega) (fun k hk => by have := OX.out.ge k hk; omega)⟩
      rw [HE.out]
      have e : sealK (bodyC k f t id fi ac fr su l) = y ++ s4 z := by
       unfold sealK
       rw [HY.out, HZ.out]
      rw [e]
      exact O8.out.less (by omega)
 · have HM := qh (refmay_any k f t id fi A n c ac fr su false (decide_eq_false hmay) (w.alloc (pkO k f t id fi A n c ac fr su)) hnm)
   have he : encC k f t id fi ac fr su l = [] := by unfold encC; rw [hn, if_neg hmay]
   have HE := qh he
   clear hr hn hm hmay he
   go_enter Tryz.func22, Tryz.ntmps22
   go_wp2_with (first
    | (go_at_call 77; (with_reducible refine HM.out.mono ?_); rintro e w1 ⟨rfl, rfl⟩))
   go_ret
   exact ⟨_, rfl, by rw [HE.out]; exact OB.nil _ _, ((bR _ _).alloc (nl _) _).alloc (by simp) _⟩
end Go.Proofs.YtpnobpligchpiaaGreatDoor
