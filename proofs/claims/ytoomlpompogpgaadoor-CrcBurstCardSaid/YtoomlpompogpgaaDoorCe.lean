/- WALK: quintainlaw3.CrcAll. -/
import Derived.Test.YtoomlpompogpgaaDoorCd
namespace Go.Proofs.YtoomlpompogpgaaDoor
open Go.RowKit
set_option linter.unusedVariables false

theorem more_sum (c a : List UInt8) (A : Option Addr) (l : List UInt8) (cap B : Nat) (w : World) (hw : TabW w) (hr : RB w B A l) (hl : l.length ≤ maxLen) (hc : Hid (c = a ++ l)) :
    Calls Tryd.prog 11 #[.int .u32 (tn (sumL a)), .slice A l.length cap] w fun e w' => e = .returned (.int .u32 (tn (sumL c))) ∧ w = w' := by
  rw [hc.out, ← moreW_sum]
  exact more_any _ A l cap B w hw hr hl

set_option maxRecDepth 100000 in
set_option maxHeartbeats 1000000 in
theorem crcall_law (A1 A2 : Option Addr) (l1 l2 : List UInt8) (cap1 cap2 : Nat) (w : World) (hw : TabW w) (h1 : RB w w.heap.size A1 l1) (h2 : RB w w.heap.size A2 l2)
    (c1 : l1.length ≤ cap1) (c2 : l2.length ≤ cap2) (m1 : cap1 ≤ maxLen) (m2 : cap2 ≤ maxLen) :
    Calls Tryd.prog 3 #[.slice A1 l1.length cap1, .slice A2 l2.length cap2] w fun e w' => e = .returned (.bool true) ∧ Below w.heap.size w w' := by
  go_enter Tryd.func3, Tryd.ntmps3
  go_wp2_with (first
    | (go_at_call 7; ((with_reducible refine (begun_any w hw).mono ?_); rintro e w1 ⟨rfl, hb1⟩; have r1 := h1.below hb1; have r2 := h2.below hb1))
    | (go_at_call 8; ((with_reducible refine (short_named A1 l1 cap1 300 300 rfl _ (by omega) c1 m1).mono ?_); rintro e w' ⟨a, HA, rfl, rfl⟩; have la := take_le HA; have ra : RB w1 w.heap.size A1 a := by rw [HA.out]; exact r1.take 300))
    | (go_at_call 8; ((with_reducible refine (short_named A2 l2 cap2 300 300 rfl _ (by omega) c2 m2).mono ?_); rintro e w' ⟨b, HB, rfl, rfl⟩; have lb := take_le HB; have rb : RB w1 w.heap.size A2 b := by rw [HB.out]; exact r2.take 300))
    | (at_builtin; refine wpList_append_bytes rfl (.const (.slice none 0 0)) _ rfl w.heap.size (.slice none 0 0) [] a rfl (OB.nil _ _) w.heap.size A1 cap1 rfl ra (by simp; omega) hb1.size ?_; intro v1 w2 o1 g1 e1; have hb2 : Below w.heap.size w w2 := hb1.grown g1 hb1.size (by simp [Value.ownBlock]); rw [List.nil_append] at o1; have rb2 : RB w2 w.heap.size A2 b := by rw [HB.out]; exact (h2.below hb2).take 300)
    | (at_builtin; refine wpList_append_bytes rfl (.tmp 15) _ rfl w.heap.size v1 a b rfl o1 w.heap.size A2 cap2 rfl rb2 (by omega) hb2.size ?_; intro v2 w3 o2 g2 e2; have hb3 : Below w.heap.size w w3 := hb2.grown g2 hb2.size o1.ge; have hw3 := hw.below hb3 hw.lt; have ra3 : RB w3 w.heap.size A1 a := by rw [HA.out]; exact (h1.below hb3).take 300
       have rb3 : RB w3 w.heap.size A2 b := by rw [HB.out]; exact (h2.below hb3).take 300
       obtain ⟨c, hc⟩ : ∃ c, c = a ++ b := ⟨_, rfl⟩
       have lc : c.length ≤ 600 := by rw [hc, List.length_append]; omega
       obtain ⟨A3, cap3, rfl, k1, k2, r3⟩ := o2.form c hc
       have HC := Lib.hid hc; clear hc)
    | (go_at_call 9; ((with_reducible refine (sum_any A3 c cap3 _ _ hw3 r3 (by unfold maxLen; omega)).mono ?_); rintro e w' ⟨rfl, rfl⟩))
    | (go_at_call 10; ((with_reducible refine (refsum_any A3 c cap3 _ _ r3 (by unfold maxLen; omega)).mono ?_); rintro e w' ⟨rfl, rfl⟩))
    | (go_at_call 9; ((with_reducible refine (sum_any A1 a cap1 _ _ hw3 ra3 (by unfold maxLen; omega)).mono ?_); rintro e w' ⟨rfl, rfl⟩))
    | (go_at_call 11; ((with_reducible refine (more_sum c a A2 b cap2 _ _ hw3 rb3 (by unfold maxLen; omega) HC).mono ?_); rintro e w' ⟨rfl, rfl⟩)))
  go_ret
  exact ⟨rfl, hb3⟩
end Go.Proofs.YtoomlpompogpgaaDoor
