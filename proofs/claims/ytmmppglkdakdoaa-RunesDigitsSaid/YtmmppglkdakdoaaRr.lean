/- THE WALK OF THE LAW RunesAt. -/
import Derived.Test.YtmmppglkdakdoaaRq
namespace Go.Proofs.Ytmmppglkdakdoaa
open Go.RowKit

theorem atR_left (a b : ByteArray) (hg : good (rns a) = true) (n : Int) (h0 : 0 ≤ n) (h : n < ((rns a).length : Int)) : atR (a ++ b) n = atR a n := by
  unfold atR
  rw [if_pos h0, if_pos h0, rns_append a b hg, List.getElem?_append_left (by omega)]
theorem atR_right (a b : ByteArray) (hg : good (rns a) = true) (n : Int) (h : ((rns a).length : Int) ≤ n) : atR (a ++ b) n = atR b (n - ((rns a).length : Int)) := by
  unfold atR
  rw [if_pos (by omega), if_pos (by omega), rns_append a b hg, List.getElem?_append_right (by omega)]
  congr 3
  omega

set_option maxRecDepth 100000 in
set_option maxHeartbeats 2000000 in
theorem atlaw_any (s u : ByteArray) (n : Int) (w : World) :
    Calls Try.prog 9 #[.string s, .string u, .int .i64 n] w fun e w' => e = .returned (.bool true) ∧ Below w.heap.size w w' := by
  go_enter Try.func9, Try.ntmps9
  go_wp2_with fail
  refine (begun_any _).mono ?_
  rintro e w1 ⟨rfl, hb1⟩
  go_wp2_with fail
  refine (cut_any s 40 _ (by omega)).mono ?_
  rintro e w' ⟨rfl, rfl⟩
  obtain ⟨a, ha⟩ : ∃ t, t = s.extract 0 (min 40 s.size) := ⟨_, rfl⟩
  have haz : a.size ≤ 40 := by rw [ha]; exact cut_size s 40
  rw [← ha]
  clear ha
  go_wp2_with fail
  refine (cut_any u 40 _ (by omega)).mono ?_
  rintro e w' ⟨rfl, rfl⟩
  obtain ⟨b, hb⟩ : ∃ t, t = u.extract 0 (min 40 u.size) := ⟨_, rfl⟩
  have hbz : b.size ≤ 40 := by rw [hb]; exact cut_size u 40
  rw [← hb]
  clear hb
  have ham : a.size ≤ maxLen := by unfold maxLen; omega
  have hbm : b.size ≤ maxLen := by unfold maxLen; omega
  have hzm : (a ++ b).size ≤ maxLen := by unfold maxLen; rw [ByteArray.size_append]; omega
  have HAM := Lib.hid ham; have HBM := Lib.hid hbm; have HZM := Lib.hid hzm; clear ham hbm hzm
  have hla := rns_len a
  have hlb := rns_len b
  go_wp2_with fail
  refine (valid_any a _ HAM.out).mono ?_
  rintro e w2 ⟨rfl, hb2⟩
  have hC2 := Below.next hb1 hb1.size hb2
  clear hb1 hb2
  cases hga : good (rns a) with
  | false =>
    go_wp2
    go_ret
    exact ⟨rfl, hC2⟩
  | true =>
    have HGA := Lib.hid hga; clear hga
    go_wp2_with fail
    refine (valid_any b _ HBM.out).mono ?_
    rintro e w3 ⟨rfl, hb3⟩
    have hC3 := Below.next hC2 hC2.size hb3
    clear hC2 hb3
    cases hgb : good (rns b) with
    | false =>
      go_wp2
      go_ret
      exact ⟨rfl, hC3⟩
    | true =>
      have HGB := Lib.hid hgb; clear hgb
      by_cases hn0 : n < 0
      · go_wp2
        go_ret
        exact ⟨rfl, hC3⟩
      · by_cases hn1 : n > 100
        · go_wp2
          go_ret
          exact ⟨rfl, hC3⟩
        · have hlen : ((rns (a ++ b)).length : Int) = ((rns a).length : Int) + ((rns b).length : Int) := by
            rw [rns_append a b HGA.out, List.length_append]; omega
          have hgab : good (rns (a ++ b)) = true := by
            rw [rns_append a b HGA.out, good, List.all_append, Bool.and_eq_true]
            exact ⟨HGA.out, HGB.out⟩
          have HLEN := Lib.hid hlen; have HGAB := Lib.hid hgab; clear hlen hgab
          by_cases hk : n < ((rns a).length : Int)
          · have hat := atR_left a b HGA.out n (by omega) hk
            have HAT := Lib.hid hat; clear hat
            go_wp2_with fail
            refine (count_any a _ HAM.out).mono ?_
            rintro e w4 ⟨rfl, hb4⟩
            have hC4 := Below.next hC3 hC3.size hb4
            go_wp2_with fail
            refine (at_any a n _ HAM.out).mono ?_
            rintro e w5 ⟨rfl, hb5⟩
            have hC5 := Below.next hC4 hC4.size hb5
            go_wp2_with fail
            refine (at_any (a ++ b) n _ HZM.out).mono ?_
            rintro e w6 ⟨rfl, hb6⟩
            rw [HAT.out]
            have hC6 := Below.next hC5 hC5.size hb6
            go_wp2_with fail
            refine (count_any (a ++ b) _ HZM.out).mono ?_
            rintro e w7 ⟨rfl, hb7⟩
            rw [HLEN.out]
            have hC7 := Below.next hC6 hC6.size hb7
            go_wp2_with fail
            refine (count_any b _ HBM.out).mono ?_
            rintro e w8 ⟨rfl, hb8⟩
            have hC8 := Below.next hC7 hC7.size hb8
            go_wp2_with fail
            refine (valid_any (a ++ b) _ HZM.out).mono ?_
            rintro e w9 ⟨rfl, hb9⟩
            rw [HGAB.out]
            have hC9 := Below.next hC8 hC8.size hb9
            go_wp2
            go_ret
            exact ⟨rfl, hC9⟩
          · have hat := atR_right a b HGA.out n (by omega)
            have HAT := Lib.hid hat; clear hat
            have hk2 : n ≥ ((rns a).length : Int) := by omega
            go_wp2_with fail
            refine (count_any a _ HAM.out).mono ?_
            rintro e w4 ⟨rfl, hb4⟩
            have hC4 := Below.next hC3 hC3.size hb4
            go_wp2_with fail
            refine (at_any a n _ HAM.out).mono ?_
            rintro e w5 ⟨rfl, hb5⟩
            have hC5 := Below.next hC4 hC4.size hb5
            go_wp2_with fail
            refine (at_any b _ _ HBM.out).mono ?_
            rintro e wx ⟨rfl, hbx⟩
            have hCx := Below.next hC5 hC5.size hbx
            go_wp2_with fail
            refine (at_any (a ++ b) n _ HZM.out).mono ?_
            rintro e w6 ⟨rfl, hb6⟩
            rw [HAT.out]
            have hC6 := Below.next hCx hCx.size hb6
            go_wp2_with fail
            refine (count_any (a ++ b) _ HZM.out).mono ?_
            rintro e w7 ⟨rfl, hb7⟩
            rw [HLEN.out]
            have hC7 := Below.next hC6 hC6.size hb7
            go_wp2_with fail
            refine (count_any b _ HBM.out).mono ?_
            rintro e w8 ⟨rfl, hb8⟩
            have hC8 := Below.next hC7 hC7.size hb8
            go_wp2_with fail
            refine (valid_any (a ++ b) _ HZM.out).mono ?_
            rintro e w9 ⟨rfl, hb9⟩
            rw [HGAB.out]
            have hC9 := Below.next hC8 hC8.size hb9
            go_wp2
            go_ret
            exact ⟨rfl, hC9⟩

theorem atlaw_law (s u : ByteArray) (n : Int) (w : World) (_ : s.size ≤ maxLen) (_ : u.size ≤ maxLen) (_ : (Lit.int .i64 n).wf = true) :
    Calls Try.prog 9 #[.string s, .string u, .int .i64 n] w fun e w' => e = .returned (.bool true) ∧ Below w.heap.size w w' := atlaw_any s u n w
end Go.Proofs.Ytmmppglkdakdoaa
