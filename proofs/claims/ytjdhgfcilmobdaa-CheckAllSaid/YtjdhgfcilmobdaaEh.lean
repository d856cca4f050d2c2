/- WALK of the law CheckAll. -/
import Derived.Test.YtjdhgfcilmobdaaEg
import Derived.Test.YtjdhgfcilmobdaaKo
namespace Go.Proofs.Ytjdhgfcilmobdaa
set_option maxRecDepth 100000
open Go.RowKit
set_option linter.unusedVariables false
attribute [local go_sem ↓] Go.wp_at_zero Go.wp_at_succ

set_option maxHeartbeats 4000000 in
theorem checkall_law (t : ByteArray) (A : Option Addr) (x : List O4) (c : Nat) (w : World) (h1 : RO w w.heap.size A x) (k1 : x.length ≤ c) (m1 : c ≤ maxLen) :
    Calls Try.prog 3 #[progV t A x.length c] w fun e w' => e = .returned (.bool true) ∧ Below w.heap.size w w' := by
  have H1 := Lib.hid h1; clear h1
  unfold progV
  have b0 : Below w.heap.size w (w.alloc (.cells #[.string t, .slice A x.length c] 24)) := (Below.refl _ _).alloc (Nat.le_refl _) _
  have h70 : Hid ((70 : Int) = ((70 : Nat) : Int)) := by unfold Hid; omega
  have C1 := fun W => lcut_named t A x c 70 70 h70 W (by omega) (by omega) k1 m1
  have HC1 := Lib.hid C1; clear C1
  go_enter Try.func3, Try.ntmps3
  go_wp2_with fail
  refine (begun7_any _).mono ?_
  rintro e w1 ⟨rfl, hb1⟩
  obtain ⟨hc0, hc1, hf0, hf1⟩ := two_cells hb1 (by simp)
  have hb2 := b0.trans (hb1.mono (by simp))
  have hs1 := hb1.size
  rw [World.size_alloc] at hs1
  clear hb1 b0
  go_wp2_with fail
  refine (HC1.out _).mono ?_
  rintro e w2 ⟨u, y, hu, hy, rfl, hb3⟩
  have d0 := (hb3.cell (p := ⟨w.heap.size, 0, none⟩) (show w.heap.size < _ by omega)).trans hc0
  have d1 := (hb3.cell (p := ⟨w.heap.size, 1, none⟩) (show w.heap.size < _ by omega)).trans hc1
  have e0 := (hb3.frozen (p := ⟨w.heap.size, 0, none⟩) (show w.heap.size < _ by omega)).trans hf0
  have e1 := (hb3.frozen (p := ⟨w.heap.size, 1, none⟩) (show w.heap.size < _ by omega)).trans hf1
  have hb4 := hb2.trans (hb3.mono hb2.size)
  have hs2 := Nat.le_trans hs1 hb3.size
  clear hc0 hc1 hf0 hf1 hb2 hb3
  obtain ⟨s0, s1, sb, sz⟩ := stored2 (u := .string u) (v := .slice A y.length c) d0 d1 w.heap.size (Nat.le_refl _)
  have hbW := hb4.trans sb
  have hyl : y.length ≤ c := by rw [hy.out, List.length_take]; omega
  have hut : u.size ≤ 40 := by rw [hu.out]; exact cutT_size _
  have R0 := Lib.hid (show RO ((w2.setCell ⟨w.heap.size, 0, none⟩ (.string u)).setCell ⟨w.heap.size, 1, none⟩ (.slice A y.length c)) w.heap.size A y by have r0 := (H1.out.below hbW).take 70; rw [← hy.out] at r0; exact r0)
  obtain ⟨z, hz⟩ : ∃ z, faultN (titB u) y = z := ⟨_, rfl⟩
  have HR := Lib.hid (reffault_any u A y c w.heap.size ((w2.setCell ⟨w.heap.size, 0, none⟩ (.string u)).setCell ⟨w.heap.size, 1, none⟩ (.slice A y.length c)) R0.out (by rw [sz]; omega) hyl m1 (by omega))
  have S0 := Lib.hid s0; have S1 := Lib.hid s1; have SZ := Lib.hid sz
  have hF : ∀ W, Below w.heap.size w W → Calls Try.prog 11 #[progV u A y.length c] W fun e w' => e = .returned (.int .i64 z) ∧ Below W.heap.size W w' := fun W hW => by
    have r0 := (H1.out.below hW).take 70
    rw [← hy.out] at r0
    have := fault_any u A y c w.heap.size W r0 hW.size hyl m1 (by omega)
    rw [hz] at this
    exact this
  have hM : ∀ W, Below w.heap.size w W → Calls Try.prog 12 #[progV u A y.length c] W fun e w' => e = .returned (.bool (z == -1)) ∧ Below W.heap.size W w' := fun W hW => by
    have r0 := (H1.out.below hW).take 70
    rw [← hy.out] at r0
    have := may_any u A y c w.heap.size W r0 hW.size hyl m1 (by omega)
    rw [hz] at this
    exact this
  rw [hz] at HR
  unfold progV at HR hF hM
  have HF := Lib.hid hF; have HM := Lib.hid hM
  clear s0 s1 sz sb HC1 hb4 H1 hz hF hM R0 hyl hut
  go_wp2_with fail
  (with_reducible refine HR.out.mono ?_)
  rintro e w4 ⟨rfl, hb5⟩
  have p0 := (hb5.cell (p := ⟨w.heap.size, 0, none⟩) (show w.heap.size < _ by have := SZ.out; omega)).trans S0.out
  have p1 := (hb5.cell (p := ⟨w.heap.size, 1, none⟩) (show w.heap.size < _ by have := SZ.out; omega)).trans S1.out
  have hs4 : w.heap.size + 1 ≤ w4.heap.size := by have := SZ.out; have := hb5.size; omega
  have hb6 := hbW.trans (hb5.mono (by have := SZ.out; omega))
  clear hb5 hbW SZ S0 S1 HR e0 e1 d0 d1
  go_wp2_with fail
  (with_reducible refine (HF.out _ hb6).mono ?_)
  rintro e w5 ⟨rfl, hb7⟩
  have q0 := (hb7.cell (p := ⟨w.heap.size, 0, none⟩) (show w.heap.size < _ by omega)).trans p0
  have q1 := (hb7.cell (p := ⟨w.heap.size, 1, none⟩) (show w.heap.size < _ by omega)).trans p1
  have hb8 := hb6.trans (hb7.mono hb6.size)
  have z1 : (z == z) = true := by simp
  clear hb7 p0 p1
  go_wp2_with fail
  (with_reducible refine (HM.out _ hb8).mono ?_)
  rintro e w6 ⟨rfl, hb9⟩
  have hb10 := hb8.trans (hb9.mono hb8.size)
  go_wp2
  go_ret
  exact ⟨by simp, hb10⟩
end Go.Proofs.Ytjdhgfcilmobdaa
