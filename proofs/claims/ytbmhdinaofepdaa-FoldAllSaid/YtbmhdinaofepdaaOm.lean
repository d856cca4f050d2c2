/- THE WALKS of the laws' Cut, Short, tells. -/
import Derived.Test.YtbmhdinaofepdaaOi
namespace Go.Proofs.Ytbmhdinaofepdaa
open Go.RowKit
set_option linter.unusedVariables false
attribute [local go_sem ↓] Go.wp_at_zero Go.wp_at_succ

set_option maxHeartbeats 1000000 in
theorem cut40_any (s : ByteArray) (w : World) :
    Calls Try.prog 16 #[.string s, .int .i64 40] w fun e w' => e = .returned (.string (s.extract 0 (min 40 s.size))) ∧ w = w' := by
  have hx : s.extract 0 s.size = s := by simp
  have HX := Lib.hid hx; clear hx
  by_cases h : 40 < s.size
  · have h1 : (s.size : Int) > (40 : Int) := by omega
    have hm : min 40 s.size = 40 := by omega
    have HM := Lib.hid hm; clear hm h
    go_enter Try.func16, Try.ntmps16
    go_wp2
    go_ret
    exact ⟨by rw [HM.out]; rfl, rfl⟩
  · have h1 : ¬ (s.size : Int) > (40 : Int) := by omega
    have hm : min 40 s.size = s.size := by omega
    have HM := Lib.hid hm; clear hm h
    go_enter Try.func16, Try.ntmps16
    go_wp2
    go_ret
    exact ⟨by rw [HM.out, HX.out]; rfl, rfl⟩
/-- a title that is cut -/
def cutT (t : ByteArray) : ByteArray := t.extract 0 (min 40 t.size)
theorem cutT_size (t : ByteArray) : (cutT t).size ≤ 40 := by
  unfold cutT
  rw [ByteArray.size_extract]
  omega
set_option maxHeartbeats 1000000 in
theorem lcut_any (t : ByteArray) (A : Option Addr) (os : List O4) (cap k : Nat) (n : Int) (hn : Hid (n = k)) (w : World) (n0 : 0 ≤ n) (n1 : n ≤ 1000) (hc : os.length ≤ cap) (hm : cap ≤ maxLen) :
    Calls Try.prog 8 #[progV t A os.length cap, .int .i64 n] w fun e w' => e = .returned (progV (cutT t) A (os.take k).length cap) ∧ Below w.heap.size w w' := by
  unfold maxLen at hm
  unfold progV
  rw [List.length_take]
  have HC := Lib.hid (cut40_any t)
  by_cases h : k < os.length
  · have h1 : n < (os.length : Int) := by have := hn.out; omega
    have hz : n.toNat = k := by have := hn.out; omega
    have hq : min k os.length = n.toNat := by omega
    have HQ := Lib.hid hq; clear hq h hz
    go_enter Try.func8, Try.ntmps8
    go_wp2_with (go_at_call 16; refine (HC.out _).mono ?_; rintro e w1 ⟨rfl, rfl⟩)
    refine bodyPost_ret (v := .agg #[.string (cutT t), .slice A n.toNat cap]) (by simp [results, Try.results8, go_sem, cutT]) rfl ⟨by rw [HQ.out], ?_⟩
    exact ((Below.refl _ _).alloc (Nat.le_refl _) _).alloc (by simp) _
  · have h1 : ¬ n < (os.length : Int) := by have := hn.out; omega
    have hq : min k os.length = os.length := by omega
    have HQ := Lib.hid hq; clear hq h
    go_enter Try.func8, Try.ntmps8
    go_wp2_with (go_at_call 16; refine (HC.out _).mono ?_; rintro e w1 ⟨rfl, rfl⟩)
    refine bodyPost_ret (v := .agg #[.string (cutT t), .slice A os.length cap]) (by simp [results, Try.results8, go_sem, cutT]) rfl ⟨by rw [HQ.out], ?_⟩
    exact ((Below.refl _ _).alloc (Nat.le_refl _) _).alloc (by simp) _
set_option maxHeartbeats 1000000 in
theorem lshort_any (A : Option Addr) (l : List UInt8) (cap : Nat) (w : World) (hc : l.length ≤ cap) (hc2 : cap ≤ maxLen) :
    Calls Try.prog 17 #[.slice A l.length cap, .int .i64 100] w fun e w' => e = .returned (.slice A (l.take 100).length cap) ∧ w = w' := by
  unfold maxLen at hc2
  rw [List.length_take]
  by_cases h : 100 < l.length
  · go_enter Try.func17, Try.ntmps17
    go_wp2
    go_ret
    exact ⟨by rw [Nat.min_eq_left (by omega)]; rfl, rfl⟩
  · go_enter Try.func17, Try.ntmps17
    go_wp2
    go_ret
    exact ⟨by rw [Nat.min_eq_right (by omega)]; rfl, rfl⟩
end Go.Proofs.Ytbmhdinaofepdaa
