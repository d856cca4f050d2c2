/- THE SORT's parts: slices.swapRangeCmpFunc, rotateCmpFunc. -/
import Derived.Test.YtomiligjcpmnjaaFc
namespace Go.Proofs.Ytomiligjcpmnjaa
set_option maxRecDepth 100000
open Go.RowKit
set_option linter.unusedVariables false
set_option linter.unusedSimpArgs false

set_option maxHeartbeats 1000000 in
theorem swap_any (w : World) (s g : Nat) (S : Nat → Int) (f : Nat → UInt8) (a b n : Nat) (h : SO w w s g S f) (h1 : a + n ≤ b) (h2 : b + n ≤ 256) :
    Calls Try.prog 53 #[sV g, .int .i64 a, .int .i64 b, .int .i64 n, cmpV s] w fun e w' => e = .returned (.tuple #[]) ∧ SO w w' s g S (swp a b n f) := by
  unfold sV cmpV
  have H0 := Lib.hid h
  clear h
  go_enter Try.func53, Try.ntmps53
  go_wp2_with fail
  go_loopw [10] (fun i wr => ∃ k : Nat, i = .int .i64 k ∧ k ≤ n ∧ Hid (SO w wr s g S (swp a b k f))) (fun i _ => n - (intOf i).toNat)
  case atStart => exact ⟨0, rfl, by omega, by unfold Hid; rw [swp_zero]; exact H0.out⟩
  case round =>
    obtain ⟨k, rfl, hk, HS⟩ := hrel
    by_cases hlt : k < n
    · have hkz : (k : Int) < (n : Int) := by omega
      obtain ⟨x, hx⟩ : ∃ x, swp a b k f (a + k) = x := ⟨_, rfl⟩
      obtain ⟨y, hy⟩ : ∃ y, swp a b k f (b + k) = y := ⟨_, rfl⟩
      have cx := HS.out.of.cell (a + k) (by omega)
      have cy := HS.out.of.cell (b + k) (by omega)
      rw [hx] at cx
      rw [hy] at cy
      have fx := HS.out.of.frozen (a + k)
      have fy := HS.out.of.frozen (b + k)
      obtain ⟨ak, hak⟩ : ∃ ak, a + k = ak := ⟨_, rfl⟩
      obtain ⟨bk, hbk⟩ : ∃ bk, b + k = bk := ⟨_, rfl⟩
      have ea : (a : Int) + (k : Int) = (ak : Int) := by omega
      have eb : (b : Int) + (k : Int) = (bk : Int) := by omega
      have la : ak < 256 := by omega
      have lb : bk < 256 := by omega
      have hne : ak ≠ bk := by omega
      rw [hak] at cx fx
      rw [hbk] at cy fy
      have HE : Hid (upd (upd (swp a b k f) ak y) bk x = swp a b (k + 1) f) := by
        unfold Hid; rw [← hak, ← hbk, ← hx, ← hy]; exact swp_step a b k n f h1 hlt
      have HN : Hid (SO w ((wr.setCell ⟨g, ak, none⟩ (.int .u8 (y.toNat : Int))).setCell ⟨g, bk, none⟩ (.int .u8 (x.toNat : Int))).drew s g S (swp a b (k + 1) f)) := by
        rw [← HE.out]; exact HS.out.swap ak bk y x
      clear HS HE hx hy hak hbk
      go_wp2_with fail
      go_big_region
      all_goals go_wp2_with fail
      all_goals exact ⟨⟨k + 1, by go_num, by omega, HN⟩, by simp [intOf]; omega⟩
    · obtain rfl : k = n := by omega
      go_wp2_with fail
      go_end0
      exact ⟨rfl, HS.out⟩

set_option maxHeartbeats 1000000 in
theorem rot_any (w : World) (s g : Nat) (S : Nat → Int) (f : Nat → UInt8) (a m b : Nat) (h : SO w w s g S f) (h1 : a < m) (h2 : m < b) (h3 : b ≤ 256) :
    Calls Try.prog 52 #[sV g, .int .i64 a, .int .i64 m, .int .i64 b, cmpV s] w fun e w' => e = .returned (.tuple #[]) ∧ SO w w' s g S (rot a m b f) := by
  have HW := Lib.hid swap_any
  unfold sV cmpV at HW ⊢
  have H0 := Lib.hid h
  clear h
  obtain ⟨i0, hi0⟩ : ∃ i0 : Nat, (m : Int) - (a : Int) = i0 := ⟨m - a, by omega⟩
  obtain ⟨j0, hj0⟩ : ∃ j0 : Nat, (b : Int) - (m : Int) = j0 := ⟨b - m, by omega⟩
  have EI : Hid (m = a + i0) := by unfold Hid; omega
  have EJ : Hid (b = m + j0) := by unfold Hid; omega
  go_enter Try.func52, Try.ntmps52
  go_wp2_with fail
  go_loopw [10, 11] (fun x y wr => ∃ i j : Nat, x = .int .i64 i ∧ y = .int .i64 j ∧ 0 < i ∧ 0 < j ∧ i ≤ i0 ∧ j ≤ j0 ∧ Hid (∃ F, SO w wr s g S F ∧ rot (m - i) m (m + j) F = rot a m b f)) (fun x y _ => (intOf x).toNat + (intOf y).toNat)
  case atStart => 
    have ei := EI.out
    have ej := EJ.out
    exact ⟨i0, j0, rfl, rfl, by omega, by omega, by omega, by omega, f, H0.out, by rw [show m - i0 = a by omega, ← ej]⟩
  case round =>
    obtain ⟨i, j, rfl, rfl, pi, pj, hi, hj, HF⟩ := hrel
    obtain ⟨F, hs, hf⟩ := HF.out
    clear HF
    have ei := EI.out
    have ej := EJ.out
    obtain ⟨p, hp⟩ : ∃ p : Nat, (m : Int) - (i : Int) = p := ⟨m - i, by omega⟩
    have ep : m - i = p := by omega
    rw [ep] at hf
    have EP : Hid (m = p + i) := by unfold Hid; omega
    clear ep
    rcases Nat.lt_trichotomy i j with hlt | rfl | hlt
    · have z1 : ¬ (i : Int) = (j : Int) := by omega
      have z2 : ¬ (j : Int) < (i : Int) := by omega
      obtain ⟨mj, hmj⟩ : ∃ q : Nat, (m : Int) + (j : Int) = q := ⟨m + j, by omega⟩
      obtain ⟨q, hq⟩ : ∃ q : Nat, (mj : Int) - (i : Int) = q := ⟨m + j - i, by omega⟩
      have hmj2 : mj ≤ 256 := by omega
      have HC := Lib.hid (HW.out wr s g S F p q i hs.self (by omega) (by omega))
      have HE : Hid (rot p m q (swp p q i F) = rot a m b f) := by
        unfold Hid
        rw [← hf, rot_less p m (m + j) i F (by omega) (by omega), show m + j - i = q by omega]
      have HS := Lib.hid hs
      clear hs hf HW ei ej
      go_wp2_with fail
      (with_reducible refine HC.out.mono ?_)
      rintro e w1 ⟨rfl, hs1⟩
      have HS1 := Lib.hid (HS.out.again hs1)
      clear hs1 HS HC
      go_wp2_with fail
      have ep := EP.out
      exact ⟨⟨i, j - i, rfl, by go_num, by omega, by omega, by omega, by omega, _, HS1.out, by rw [show m - i = p by omega, show m + (j - i) = q by omega]; exact HE.out⟩, by simp [intOf]; omega⟩
    · have HC := Lib.hid (HW.out wr s g S F p m i hs.self (by omega) (by omega))
      have HE : Hid (swp p m i F = rot a m b f) := by
        unfold Hid
        rw [← hf, rot_even p m (m + i) i F (by omega) rfl]
      have HS := Lib.hid hs
      clear hs hf HW ei ej
      go_wp2_with fail
      (with_reducible refine HC.out.mono ?_)
      rintro e w1 ⟨rfl, hs1⟩
      have HS1 := Lib.hid (HS.out.again hs1)
      clear hs1 HS HC
      go_wp2_with fail
      go_end0
      exact ⟨rfl, by rw [← HE.out]; exact HS1.out⟩
    · have z1 : ¬ (i : Int) = (j : Int) := by omega
      have z2 : (j : Int) < (i : Int) := by omega
      have HC := Lib.hid (HW.out wr s g S F p m j hs.self (by omega) (by omega))
      have HE : Hid (rot (p + j) m (m + j) (swp p m j F) = rot a m b f) := by
        unfold Hid
        rw [← hf, rot_more p m (m + j) j F rfl (by omega)]
      have HS := Lib.hid hs
      clear hs hf HW ei ej
      go_wp2_with fail
      (with_reducible refine HC.out.mono ?_)
      rintro e w1 ⟨rfl, hs1⟩
      have HS1 := Lib.hid (HS.out.again hs1)
      clear hs1 HS HC
      go_wp2_with fail
      have ep := EP.out
      exact ⟨⟨i - j, j, by go_num, rfl, by omega, by omega, by omega, by omega, _, HS1.out, by rw [show m - (i - j) = p + j by omega]; exact HE.out⟩, by simp [intOf]; omega⟩
end Go.Proofs.Ytomiligjcpmnjaa
