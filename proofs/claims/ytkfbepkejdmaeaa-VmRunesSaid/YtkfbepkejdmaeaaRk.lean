/- THE WALKS: quintainlaw1.begun, Cut. -/
import Derived.Test.YtkfbepkejdmaeaaRe
namespace Go.Proofs.Ytkfbepkejdmaeaa
open Go.RowKit

theorem k_val1 : good (rns ⟨#[195, 169]⟩) = true := by decide +kernel
theorem k_val2 : good (rns ⟨#[255]⟩) = false := by decide +kernel
theorem k_count : (rns ⟨#[97, 195, 169, 255]⟩).length = 3 := by decide +kernel
theorem k_at1 : atR ⟨#[97, 195, 169]⟩ 1 = 233 := by decide +kernel
theorem k_at2 : atR ⟨#[97]⟩ 5 = 0 := by decide +kernel
theorem k_tit1 : titB ⟨#[116]⟩ = true := by decide +kernel
theorem k_tit2 : titB ⟨#[]⟩ = false := by decide +kernel

theorem k_val1_any (w : World) : Calls Try.prog 63 #[.string ⟨#[195, 169]⟩] w fun e w' => e = .returned (.bool true) ∧ Below w.heap.size w w' := by
  have := valid_any ⟨#[195, 169]⟩ w (by decide)
  rw [k_val1] at this
  exact this
theorem k_val2_any (w : World) : Calls Try.prog 63 #[.string ⟨#[255]⟩] w fun e w' => e = .returned (.bool false) ∧ Below w.heap.size w w' := by
  have := valid_any ⟨#[255]⟩ w (by decide)
  rw [k_val2] at this
  exact this
theorem k_count_any (w : World) : Calls Try.prog 62 #[.string ⟨#[97, 195, 169, 255]⟩] w fun e w' => e = .returned (.int .i64 3) ∧ Below w.heap.size w w' := by
  have := count_any ⟨#[97, 195, 169, 255]⟩ w (by decide)
  rw [k_count] at this
  exact this
theorem k_at1_any (w : World) : Calls Try.prog 47 #[.string ⟨#[97, 195, 169]⟩, .int .i64 1] w fun e w' => e = .returned (.int .i32 233) ∧ Below w.heap.size w w' := by
  have := at_any ⟨#[97, 195, 169]⟩ 1 w (by decide)
  rw [k_at1] at this
  exact this
theorem k_at2_any (w : World) : Calls Try.prog 47 #[.string ⟨#[97]⟩, .int .i64 5] w fun e w' => e = .returned (.int .i32 0) ∧ Below w.heap.size w w' := by
  have := at_any ⟨#[97]⟩ 5 w (by decide)
  rw [k_at2] at this
  exact this
theorem k_tit1_any (w : World) : Calls Try.prog 60 #[.string ⟨#[116]⟩] w fun e w' => e = .returned (.bool true) ∧ Below w.heap.size w w' := by
  have := title_any ⟨#[116]⟩ w (by decide)
  rw [k_tit1] at this
  exact this
theorem k_tit2_any (w : World) : Calls Try.prog 60 #[.string ⟨#[]⟩] w fun e w' => e = .returned (.bool false) ∧ Below w.heap.size w w' := by
  have := title_any ⟨#[]⟩ w (by decide)
  rw [k_tit2] at this
  exact this

/-- Two calls behind one another. -/
theorem Below.next {B : Nat} {a b c : World} (h : Below B a b) (hB : B ≤ b.heap.size) (k : Below b.heap.size b c) : Below B a c := h.trans (k.mono hB)

set_option maxHeartbeats 1000000 in
theorem cut_any (s : ByteArray) (n : Nat) (w : World) (hn : n ≤ 1000000) :
    Calls Try.prog 21 #[.string s, .int .i64 n] w fun e w' => e = .returned (.string (s.extract 0 (min n s.size))) ∧ w = w' := by
  have hx : s.extract 0 s.size = s := by simp
  have HX := Lib.hid hx; clear hx
  by_cases h : n < s.size
  · have h1 : (s.size : Int) > (n : Int) := by omega
    have hm : min n s.size = n := by omega
    have HM := Lib.hid hm; clear hm h
    go_enter Try.func21, Try.ntmps21
    go_wp2
    go_ret
    exact ⟨by rw [HM.out]; rfl, rfl⟩
  · have h1 : ¬ (s.size : Int) > (n : Int) := by omega
    have hm : min n s.size = s.size := by omega
    have HM := Lib.hid hm; clear hm h
    go_enter Try.func21, Try.ntmps21
    go_wp2
    go_ret
    exact ⟨by rw [HM.out, HX.out]; rfl, rfl⟩
end Go.Proofs.Ytkfbepkejdmaeaa
