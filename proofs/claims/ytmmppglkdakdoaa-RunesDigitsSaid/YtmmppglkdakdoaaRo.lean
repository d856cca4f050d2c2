/- THE WALK OF THE LAW RunesBytes. -/
import Derived.Test.YtmmppglkdakdoaaRn
import Derived.Deep.RegionHeld3
import Derived.Deep.DrawnRows
namespace Go.Proofs.Ytmmppglkdakdoaa
open Go.RowKit
attribute [local go_sem ↓] Go.wp_at_zero Go.wp_at_succ

/-- string([]byte{a, b, c, d}). -/
theorem conv4 (w : World) (a b c d : Int) : (convert 37 9 (.slice (some ⟨w.heap.size, 0, none⟩) 4 4)).run Try.prog (w.alloc (.cells #[.int .u8 a, .int .u8 b, .int .u8 c, .int .u8 d] 5)) = .ok (.string (strOfNums [a, b, c, d])) (w.alloc (.cells #[.int .u8 a, .int .u8 b, .int .u8 c, .int .u8 d] 5)) := by
  refine run_convert_bytes_arg (P := Try.prog) (w.alloc (.cells #[.int .u8 a, .int .u8 b, .int .u8 c, .int .u8 d] 5)) 37 5 Try.underlying37 Try.underlying5 w.heap.size 0 4 4 [a, b, c, d] rfl (fun i hi => ?_) 9 Try.underlying9
  obtain rfl | rfl | rfl | rfl : i = 0 ∨ i = 1 ∨ i = 2 ∨ i = 3 := by omega
  all_goals simp

set_option maxRecDepth 100000 in
set_option maxHeartbeats 1000000 in
theorem byteslaw_any (a b c d : Int) (w : World) :
    Calls Try.prog 6 #[.int .u8 a, .int .u8 b, .int .u8 c, .int .u8 d] w fun e w' => e = .returned (.bool true) ∧ Below w.heap.size w w' := by
  go_enter Try.func6, Try.ntmps6
  go_wp2_with fail
  refine (begun_any _).mono ?_
  rintro e w1 ⟨rfl, hb1⟩
  have hcv := conv4 w1 a b c d
  have hB := hb1.alloc hb1.size (.cells #[.int .u8 a, .int .u8 b, .int .u8 c, .int .u8 d] 5)
  go_wp2_with fail
  obtain ⟨t, ht⟩ : ∃ t, t = strOfNums [a, b, c, d] := ⟨_, rfl⟩
  have htz : t.size = 4 := by rw [ht]; exact strOfNums_size _
  rw [← ht]
  clear ht hcv
  have htm : t.size ≤ maxLen := by rw [htz]; decide
  have htx : t.size ≤ 140737488351232 / 4 := by rw [htz]; decide
  have hl := rns_len t
  rw [htz] at hl
  have HM := Lib.hid htm; have HX := Lib.hid htx; clear htm htz htx
  refine (runes_any t _ HX.out).mono ?_
  rintro e w2 ⟨v, rfl, hown, hb2⟩
  have hC2 := Below.next hB hB.size hb2
  clear hb2 hB hb1
  obtain ⟨A, cc, rfl⟩ := own_form hown
  go_wp2_with fail
  refine (count_any t _ HM.out).mono ?_
  rintro e w3 ⟨rfl, hb3⟩
  have hC3 := Below.next hC2 hC2.size hb3
  have hown3 := own_below hown hb3
  clear hown hC2 hb3
  go_wp2_with fail
  refine (valid_any t _ HM.out).mono ?_
  rintro e w4 ⟨rfl, hb4⟩
  have hC4 := Below.next hC3 hC3.size hb4
  have hown4 := own_below hown3 hb4
  clear hown3 hC3 hb4
  have HO := Lib.hid hown4
  clear hown4
  go_wp2
  go_loopw [13] (fun iv wr => ∃ k : Nat, k ≤ (rns t).length ∧ iv = .int .i64 k ∧ Hid (wr.ownsRow w1.heap.size 21 1 (.slice A (rns t).length cc) (rns t).length (rcell (rns t))) ∧ Below w.heap.size w wr) (fun iv _ => (rns t).length - (intOf iv).toNat)
  case atStart => exact ⟨0, by omega, rfl, own_less HO.out (by simp), hC4⟩
  case round =>
    obtain ⟨k, hk, rfl, H1, hb⟩ := hrel
    clear HO hC4
    by_cases hlt : k < (rns t).length
    · have hk1 : (k : Int) < ((rns t).length : Int) := by omega
      have hk0 : (0 : Int) ≤ (k : Int) := by omega
      obtain ⟨g, cap, hA, _, hgl⟩ := H1.out.form (by omega)
      obtain ⟨rfl, rfl⟩ : A = some ⟨g, 0, none⟩ ∧ cc = cap := by injection hA with a b d; exact ⟨a, d⟩
      have e1 := H1.out.cellAt k (by omega)
      rw [rcell_at hlt] at e1
      clear hA
      have hat : atR t k = (((rns t)[k]'hlt).1 : Int) := by
        have := atR_in t k (by omega) (by simpa using hlt)
        simpa using this
      have HAT := Lib.hid hat; clear hat
      obtain ⟨x, hx⟩ : ∃ x : Int, x = (((rns t)[k]'hlt).1 : Int) := ⟨_, rfl⟩
      rw [← hx] at e1 HAT
      clear hx
      go_wp2
      go_region_held3 (fun w' => w'.cell? ⟨g, k, none⟩ = some (.int .i32 x)) (first | assumption | go_keep)
        (first | (go_at_call 16; refine (at_any t _ _ HM.out).mono ?_; rintro e w5 ⟨rfl, hb5⟩; have hc5 := (hb5.cell (p := ⟨g, k, none⟩) hgl).trans e1; rw [HAT.out]))
      go_wp2
      go_roundw
      case rel => exact ⟨k + 1, by omega, by go_num, own_below (w := wr.drew) H1.out hb5, Below.next (b := wr.drew) hb.drew hb.size hb5⟩
      case measure => simp [intOf]; omega
    · have hk1 : ¬ (k : Int) < ((rns t).length : Int) := by omega
      obtain rfl : k = (rns t).length := by omega
      have ha1 := atR_out t ((rns t).length : Int) (by omega)
      have ha2 := atR_out t (-1) (by omega)
      have HA1 := Lib.hid ha1; have HA2 := Lib.hid ha2; clear ha1 ha2
      go_wp2_with fail
      refine (at_any t _ _ HM.out).mono ?_
      rintro e w5 ⟨rfl, hb5⟩
      rw [HA1.out]
      have hC5 := Below.next hb hb.size hb5
      go_wp2_with fail
      refine (at_any t _ _ HM.out).mono ?_
      rintro e w6 ⟨rfl, hb6⟩
      rw [HA2.out]
      have hC6 := Below.next hC5 hC5.size hb6
      go_wp2
      go_ret
      exact ⟨rfl, hC6⟩

theorem byteslaw_law (a b c d : Int) (w : World) (_ : (Lit.int .u8 a).wf = true) (_ : (Lit.int .u8 b).wf = true) (_ : (Lit.int .u8 c).wf = true) (_ : (Lit.int .u8 d).wf = true) :
    Calls Try.prog 6 #[.int .u8 a, .int .u8 b, .int .u8 c, .int .u8 d] w fun e w' => e = .returned (.bool true) ∧ Below w.heap.size w w' := byteslaw_any a b c d w
end Go.Proofs.Ytmmppglkdakdoaa
