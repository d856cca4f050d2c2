/- THE WALKS: quintainlaw1.begun, Cut. -/
import Derived.Test.YtmmppglkdakdoaaRj
namespace Go.Proofs.Ytmmppglkdakdoaa
open Go.RowKit

theorem k_words : wrds ⟨#[32, 97, 32, 32, 98, 99, 9]⟩ = [[97], [98, 99]] := by decide +kernel
theorem k_num1 : numO ⟨#[45, 49, 50]⟩ = some (-12) := by decide +kernel
theorem k_num2 : numO ⟨#[48, 49, 50]⟩ = none := by decide +kernel
theorem k_val1 : good (rns ⟨#[195, 169]⟩) = true := by decide +kernel
theorem k_val2 : good (rns ⟨#[255]⟩) = false := by decide +kernel
theorem k_count : (rns ⟨#[97, 195, 169, 255]⟩).length = 3 := by decide +kernel
theorem k_at1 : atR ⟨#[97, 195, 169]⟩ 1 = 233 := by decide +kernel
theorem k_at2 : atR ⟨#[97]⟩ 5 = 0 := by decide +kernel
theorem k_tit1 : titB ⟨#[116]⟩ = true := by decide +kernel
theorem k_tit2 : titB ⟨#[]⟩ = false := by decide +kernel

theorem k_words_any (w : World) : Calls Try.prog 19 #[.string ⟨#[32, 97, 32, 32, 98, 99, 9]⟩] w fun e w' =>
    ∃ g cap, e = .returned (.slice (some ⟨g, 0, none⟩) 2 cap) ∧ g < w'.heap.size ∧ w'.cell? ⟨g, 1, none⟩ = some (.string ⟨#[98, 99]⟩) ∧ Below w.heap.size w w' := by
  refine (words_any _ w (by decide)).mono ?_
  rintro e w' ⟨v, rfl, hown, hb⟩
  rw [k_words] at hown
  obtain ⟨g, cap, rfl, h1, h2⟩ := hown.form (by decide)
  refine ⟨g, cap, rfl, h2, ?_, hb⟩
  rw [hown.cellAt 1 (by decide)]
  rfl
theorem k_num1_any (w : World) : Calls Try.prog 21 #[.string ⟨#[45, 49, 50]⟩] w fun e w' => e = .returned (.tuple #[.int .i64 (-12), .bool true]) ∧ Below w.heap.size w w' := by
  have := number_any ⟨#[45, 49, 50]⟩ w (by decide)
  rw [k_num1] at this
  exact this
theorem k_num2_any (w : World) : Calls Try.prog 21 #[.string ⟨#[48, 49, 50]⟩] w fun e w' => e = .returned (.tuple #[.int .i64 0, .bool false]) ∧ Below w.heap.size w w' := by
  have := number_any ⟨#[48, 49, 50]⟩ w (by decide)
  rw [k_num2] at this
  exact this
theorem k_val1_any (w : World) : Calls Try.prog 14 #[.string ⟨#[195, 169]⟩] w fun e w' => e = .returned (.bool true) ∧ Below w.heap.size w w' := by
  have := valid_any ⟨#[195, 169]⟩ w (by decide)
  rw [k_val1] at this
  exact this
theorem k_val2_any (w : World) : Calls Try.prog 14 #[.string ⟨#[255]⟩] w fun e w' => e = .returned (.bool false) ∧ Below w.heap.size w w' := by
  have := valid_any ⟨#[255]⟩ w (by decide)
  rw [k_val2] at this
  exact this
theorem k_count_any (w : World) : Calls Try.prog 15 #[.string ⟨#[97, 195, 169, 255]⟩] w fun e w' => e = .returned (.int .i64 3) ∧ Below w.heap.size w w' := by
  have := count_any ⟨#[97, 195, 169, 255]⟩ w (by decide)
  rw [k_count] at this
  exact this
theorem k_at1_any (w : World) : Calls Try.prog 16 #[.string ⟨#[97, 195, 169]⟩, .int .i64 1] w fun e w' => e = .returned (.int .i32 233) ∧ Below w.heap.size w w' := by
  have := at_any ⟨#[97, 195, 169]⟩ 1 w (by decide)
  rw [k_at1] at this
  exact this
theorem k_at2_any (w : World) : Calls Try.prog 16 #[.string ⟨#[97]⟩, .int .i64 5] w fun e w' => e = .returned (.int .i32 0) ∧ Below w.heap.size w w' := by
  have := at_any ⟨#[97]⟩ 5 w (by decide)
  rw [k_at2] at this
  exact this
theorem k_tit1_any (w : World) : Calls Try.prog 17 #[.string ⟨#[116]⟩] w fun e w' => e = .returned (.bool true) ∧ Below w.heap.size w w' := by
  have := title_any ⟨#[116]⟩ w (by decide)
  rw [k_tit1] at this
  exact this
theorem k_tit2_any (w : World) : Calls Try.prog 17 #[.string ⟨#[]⟩] w fun e w' => e = .returned (.bool false) ∧ Below w.heap.size w w' := by
  have := title_any ⟨#[]⟩ w (by decide)
  rw [k_tit2] at this
  exact this

/-- Two calls behind one another. -/
theorem Below.next {B : Nat} {a b c : World} (h : Below B a b) (hB : B ≤ b.heap.size) (k : Below b.heap.size b c) : Below B a c := h.trans (k.mono hB)

set_option maxRecDepth 100000 in
set_option maxHeartbeats 1000000 in
theorem begun_any (w : World) : Calls Try.prog 11 #[] w fun e w' => e = .returned (.bool true) ∧ Below w.heap.size w w' := by
  go_enter Try.func11, Try.ntmps11
  go_wp2_with fail
  refine (k_words_any _).mono ?_
  rintro e w1 ⟨g, cap, rfl, hg, hL, hb1⟩
  have hs1 := hb1.size
  go_wp2_with fail
  refine (k_num1_any _).mono ?_
  rintro e w2 ⟨rfl, hb2⟩
  have hC2 := hb2
  go_wp2_with fail
  refine (k_num2_any _).mono ?_
  rintro e w3 ⟨rfl, hb3⟩
  have hC3 := Below.next hC2 hC2.size hb3
  go_wp2_with fail
  refine (k_val1_any _).mono ?_
  rintro e w4 ⟨rfl, hb4⟩
  have hC4 := Below.next hC3 hC3.size hb4
  go_wp2_with fail
  refine (k_val2_any _).mono ?_
  rintro e w5 ⟨rfl, hb5⟩
  have hC5 := Below.next hC4 hC4.size hb5
  go_wp2_with fail
  refine (k_count_any _).mono ?_
  rintro e w6 ⟨rfl, hb6⟩
  have hC6 := Below.next hC5 hC5.size hb6
  go_wp2_with fail
  refine (k_at1_any _).mono ?_
  rintro e w7 ⟨rfl, hb7⟩
  have hC7 := Below.next hC6 hC6.size hb7
  go_wp2_with fail
  refine (k_at2_any _).mono ?_
  rintro e w8 ⟨rfl, hb8⟩
  have hC8 := Below.next hC7 hC7.size hb8
  go_wp2_with fail
  refine (k_tit1_any _).mono ?_
  rintro e w9 ⟨rfl, hb9⟩
  have hC9 := Below.next hC8 hC8.size hb9
  go_wp2_with fail
  refine (k_tit2_any _).mono ?_
  rintro e w10 ⟨rfl, hb10⟩
  have hC10 := Below.next hC9 hC9.size hb10
  have hL2 := (hC10.cell (p := ⟨g, 1, none⟩) hg).trans hL
  have hfin := Below.next hb1 hs1 hC10
  clear hb1 hb2 hb3 hb4 hb5 hb6 hb7 hb8 hb9 hb10 hC2 hC3 hC4 hC5 hC6 hC7 hC8 hC9 hC10 hL
  go_wp2
  go_ret
  exact ⟨rfl, hfin⟩

set_option maxHeartbeats 1000000 in
theorem cut_any (s : ByteArray) (n : Nat) (w : World) (hn : n ≤ 1000000) :
    Calls Try.prog 12 #[.string s, .int .i64 n] w fun e w' => e = .returned (.string (s.extract 0 (min n s.size))) ∧ w = w' := by
  have hx : s.extract 0 s.size = s := by simp
  have HX := Lib.hid hx; clear hx
  by_cases h : n < s.size
  · have h1 : (s.size : Int) > (n : Int) := by omega
    have hm : min n s.size = n := by omega
    have HM := Lib.hid hm; clear hm h
    go_enter Try.func12, Try.ntmps12
    go_wp2
    go_ret
    exact ⟨by rw [HM.out]; rfl, rfl⟩
  · have h1 : ¬ (s.size : Int) > (n : Int) := by omega
    have hm : min n s.size = s.size := by omega
    have HM := Lib.hid hm; clear hm h
    go_enter Try.func12, Try.ntmps12
    go_wp2
    go_ret
    exact ⟨by rw [HM.out, HX.out]; rfl, rfl⟩
end Go.Proofs.Ytmmppglkdakdoaa
