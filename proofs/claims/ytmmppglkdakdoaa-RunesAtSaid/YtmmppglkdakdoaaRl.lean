/- THE WALKS OF THE LAWS: RunesText. -/
import Derived.Test.YtmmppglkdakdoaaRk
namespace Go.Proofs.Ytmmppglkdakdoaa
open Go.RowKit

theorem own_form {w : World} {base : Nat} {e : TypeId} {v : Value} {n : Nat} {xs : List Value} (h : w.ownsRow base e 1 v n xs) : ∃ A c, v = .slice A n c := by
  rcases h.2 with ⟨rfl, rfl⟩ | ⟨g, cap, cur, rfl, _⟩
  · exact ⟨none, 0, rfl⟩
  · exact ⟨_, _, rfl⟩
theorem cut_size (s : ByteArray) (n : Nat) : (s.extract 0 (min n s.size)).size ≤ n := by
  rw [ByteArray.size_extract]; omega
theorem atR_in (t : ByteArray) (n : Int) (h0 : 0 ≤ n) (h : n.toNat < (rns t).length) : atR t n = (((rns t)[n.toNat]'h).1 : Int) := by
  rw [atR, if_pos h0, List.getElem?_eq_getElem h]; rfl
theorem atR_out (t : ByteArray) (n : Int) (h : n < 0 ∨ ((rns t).length : Int) ≤ n) : atR t n = 0 := by
  unfold atR
  split
  · rw [List.getElem?_eq_none (by omega)]; rfl
  · rfl

set_option maxRecDepth 100000 in
set_option maxHeartbeats 1000000 in
theorem text_any (s : ByteArray) (n : Int) (w : World) :
    Calls Try.prog 3 #[.string s, .int .i64 n] w fun e w' => e = .returned (.bool true) ∧ Below w.heap.size w w' := by
  go_enter Try.func3, Try.ntmps3
  go_wp2_with fail
  refine (begun_any _).mono ?_
  rintro e w1 ⟨rfl, hb1⟩
  go_wp2_with fail
  refine (cut_any s 100 _ (by omega)).mono ?_
  rintro e w' ⟨rfl, rfl⟩
  obtain ⟨t, ht⟩ : ∃ t, t = s.extract 0 (min 100 s.size) := ⟨_, rfl⟩
  have htz : t.size ≤ 100 := by rw [ht]; exact cut_size s 100
  rw [← ht]
  clear ht
  have htm : t.size ≤ maxLen := by unfold maxLen; omega
  have HM := Lib.hid htm; clear htm
  have hl := rns_len t
  go_wp2_with fail
  refine (runes_any t _ (by omega)).mono ?_
  rintro e w2 ⟨v, rfl, hown, hb2⟩
  have hC2 := Below.next hb1 hb1.size hb2
  by_cases hin : 0 ≤ n ∧ n < ((rns t).length : Int)
  · obtain ⟨h0, h1⟩ := hin
    obtain ⟨N, rfl⟩ : ∃ N : Nat, n = N := ⟨n.toNat, by omega⟩
    have hN : N < (rns t).length := by omega
    obtain ⟨g, cap, rfl, hg1, hg2⟩ := hown.form (by omega)
    have hc := hown.cellAt N (by omega)
    rw [rcell_at hN] at hc
    have hat : atR t N = (((rns t)[N]'hN).1 : Int) := by
      have := atR_in t N (by omega) (by simpa using hN)
      simpa using this
    have HAT := Lib.hid hat; clear hat
    go_wp2_with fail
    refine (valid_any t _ HM.out).mono ?_
    rintro e w3 ⟨rfl, hb3⟩
    have hC3 := Below.next hC2 hC2.size hb3
    go_wp2_with fail
    refine (count_any t _ HM.out).mono ?_
    rintro e w4 ⟨rfl, hb4⟩
    have hC4 := Below.next hC3 hC3.size hb4
    go_wp2_with fail
    refine (at_any t _ _ HM.out).mono ?_
    rintro e w5 ⟨rfl, hb5⟩
    have hC5 := Below.next hC4 hC4.size hb5
    rw [HAT.out]
    go_wp2_with fail
    refine (title_any t _ HM.out).mono ?_
    rintro e w6 ⟨rfl, hb6⟩
    have hC6 := Below.next hC5 hC5.size hb6
    go_wp2_with fail
    refine (reftitle_any t _ (by omega)).mono ?_
    rintro e w7 ⟨rfl, hb7⟩
    have hC7 := Below.next hC6 hC6.size hb7
    go_wp2
    go_ret
    exact ⟨rfl, hC7⟩
  · obtain ⟨A, cap, rfl⟩ := own_form hown
    have hat := atR_out t n (by omega)
    have HAT := Lib.hid hat; clear hat
    have hno : ¬ 0 ≤ n ∨ (0 ≤ n ∧ ¬ n < ((rns t).length : Int)) := by omega
    clear hin
    rcases hno with h0 | ⟨h0, h1⟩
    all_goals
      go_wp2_with fail
      refine (valid_any t _ HM.out).mono ?_
      rintro e w3 ⟨rfl, hb3⟩
      have hC3 := Below.next hC2 hC2.size hb3
      go_wp2_with fail
      refine (count_any t _ HM.out).mono ?_
      rintro e w4 ⟨rfl, hb4⟩
      have hC4 := Below.next hC3 hC3.size hb4
      go_wp2_with fail
      refine (at_any t _ _ HM.out).mono ?_
      rintro e w5 ⟨rfl, hb5⟩
      have hC5 := Below.next hC4 hC4.size hb5
      rw [HAT.out]
      go_wp2_with fail
      refine (title_any t _ HM.out).mono ?_
      rintro e w6 ⟨rfl, hb6⟩
      have hC6 := Below.next hC5 hC5.size hb6
      go_wp2_with fail
      refine (reftitle_any t _ (by omega)).mono ?_
      rintro e w7 ⟨rfl, hb7⟩
      have hC7 := Below.next hC6 hC6.size hb7
      go_wp2
      go_ret
      exact ⟨rfl, hC7⟩

/-- For the frame: the arguments fit their types. -/
theorem text_law (s : ByteArray) (n : Int) (w : World) (_ : s.size ≤ maxLen) (_ : (Lit.int .i64 n).wf = true) :
    Calls Try.prog 3 #[.string s, .int .i64 n] w fun e w' => e = .returned (.bool true) ∧ Below w.heap.size w w' := text_any s n w
end Go.Proofs.Ytmmppglkdakdoaa
