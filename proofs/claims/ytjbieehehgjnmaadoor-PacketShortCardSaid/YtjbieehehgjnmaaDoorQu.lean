/- WALK of the law PacketShort. -/
import Derived.Test.YtjbieehehgjnmaaDoorQr
import Derived.Test.YtjbieehehgjnmaaDoorQs
namespace Go.Proofs.YtjbieehehgjnmaaDoor
set_option maxRecDepth 100000
open Go.RowKit
set_option linter.unusedVariables false
set_option linter.unusedSimpArgs false

set_option maxHeartbeats 4000000 in
theorem short_law (k f t id fi : Int) (A0 : Option Addr) (n0 c0 : Nat) (ac fr su : Int) (A : Option Addr) (l : List UInt8) (n c : Nat) (w : World) (hT : TabW w) (h4 : 0 ≤ su) (h5 : su ≤ 4294967295) (hr : RB w w.heap.size A l) (hn : l.length = n) (hc : n ≤ c) (hm : c ≤ maxLen) :
    Calls Tryd.prog 6 #[pkV k f t id fi A0 n0 c0 ac fr su, .slice A n c] w fun e w' => e = .returned (.bool true) ∧ Below w.heap.size w w' := by
  obtain ⟨W1, hW1⟩ : ∃ W1, W1 = w.alloc (pkO k f t id fi A0 n0 c0 ac fr su) := ⟨_, rfl⟩
  have B1 : Below w.heap.size w W1 := by rw [hW1]; exact (Below.refl _ _).alloc (Nat.le_refl _) _
  have HB1 := Lib.hid B1; have HT1 := Lib.hid (hT.below B1 hT.lt)
  have HBG := Lib.hid (begun15_any W1 HT1.out)
  have HP1 : Hid (PkM W1 w.heap.size k f t id fi A0 n0 c0 ac fr su) := by show PkM _ _ _ _ _ _ _ _ _ _ _ _ _; rw [hW1]; exact PkM.new w _ _ _ _ _ _ _ _ _ _ _
  have S1 : Hid (w.heap.size < W1.heap.size) := by show _ < _; rw [hW1]; simp
  have HW1 := Lib.hid hW1; have HR := Lib.hid hr; have HN := Lib.hid hn; have HM := Lib.hid hm
  have hcm := hm
  unfold maxLen at hcm
  have HT := Lib.hid hT
  clear hT hr hn hm B1 hW1
  by_cases h40 : 40 < n
  · have hx : (l.take 40).length = 40 := by rw [List.length_take, HN.out]; omega
    have HX := Lib.hid hx
    have h40c : (40 : Int) ≤ (c : Int) := by omega
    have h40n : (40 : Int) ≤ (n : Int) := by omega
    clear hx
    go_enter Tryd.func6, Tryd.ntmps6
    go_wp2_with fail
    rw [← HW1.out]
    (with_reducible refine HBG.out.mono ?_)
    rintro e w2 ⟨rfl, hb2⟩
    have HP2 := HP1.out.below hb2 S1.out
    obtain ⟨w3, hw3⟩ : ∃ w3, w3 = w2.setCell ⟨w.heap.size, 5, none⟩ (.slice A 40 c) := ⟨_, rfl⟩
    have HP3 : Hid (PkM w3 w.heap.size k f t id fi A 40 c ac fr su) := by show PkM _ _ _ _ _ _ _ _ _ _ _ _ _; rw [hw3]; exact HP2.set_pr A 40 c
    have g3 : w2.grownBy w3 (some w.heap.size) := by rw [hw3]; exact gr_set _ _ _ _
    have hb2w := HB1.out.trans (hb2.mono HB1.out.size)
    have hb3 := below_row hb2w g3 (Nat.le_refl _)
    have HB3 := Lib.hid hb3
    have HT3 := Lib.hid (HT.out.below hb3 HT.out.lt)
    have HE := Lib.hid (enc_any k f t id fi A (l.take 40) 40 c ac fr su w3 HT3.out ((HR.out.next hb3).take 40) HX.out (by omega) HM.out h4 h5)
    have e5 := HP2.c.2.2.2.2.2.1
    have f5 := HP2.fz 5
    have HW3 := Lib.hid hw3
    have hb2s := hb2.size
    clear hb2 HP2 hw3 g3 hb2w hb3 hb2s
    obtain ⟨r0, r1, r2, r3, r4, r5, r6, r7, r8⟩ := HP3.out.c
    have q : ∀ j v, w3.cell? ⟨w.heap.size, j, none⟩ = some v → (w2.setCell ⟨w.heap.size, 5, none⟩ (.slice A 40 c)).cell? ⟨w.heap.size, j, none⟩ = some v := fun j v h => by rw [← HW3.out]; exact h
    have s0 := q _ _ r0; have s1 := q _ _ r1; have s2 := q _ _ r2; have s3 := q _ _ r3; have s4_ := q _ _ r4; have s5 := q _ _ r5; have s6 := q _ _ r6; have s7 := q _ _ r7; have s8 := q _ _ r8
    clear q r0 r1 r2 r3 r4 r5 r6 r7 r8
    go_wp2_with fail
    rw [← HW3.out]
    (with_reducible refine HE.out.mono ?_)
    rintro e w4 ⟨v4, rfl, o4, hb4⟩
    obtain ⟨n4, hn4⟩ : ∃ n4, (encC k f t id fi ac fr su (l.take 40)).length = n4 := ⟨_, rfl⟩
    have hn100 : n4 ≤ 100 := by rw [← hn4]; exact enc_short _ _ _ _ _ _ _ _ _
    obtain ⟨A4, c4, rfl, -, -, -⟩ := o4.form_n n4 hn4
    have hd : decide ((n4 : Int) ≤ 100) = true := by simp; omega
    have HB4 := Lib.hid (HB3.out.trans (hb4.mono HB3.out.size))
    clear o4 hb4 hn4
    go_wp2
    go_ret
    exact ⟨by first | rfl | (simp; omega), HB4.out⟩
  · have HX := HN
    go_enter Tryd.func6, Tryd.ntmps6
    go_wp2_with fail
    rw [← HW1.out]
    (with_reducible refine HBG.out.mono ?_)
    rintro e w2 ⟨rfl, hb2⟩
    have HP2 := HP1.out.below hb2 S1.out
    obtain ⟨w3, hw3⟩ : ∃ w3, w3 = w2.setCell ⟨w.heap.size, 5, none⟩ (.slice A n c) := ⟨_, rfl⟩
    have HP3 : Hid (PkM w3 w.heap.size k f t id fi A n c ac fr su) := by show PkM _ _ _ _ _ _ _ _ _ _ _ _ _; rw [hw3]; exact HP2.set_pr A n c
    have g3 : w2.grownBy w3 (some w.heap.size) := by rw [hw3]; exact gr_set _ _ _ _
    have hb2w := HB1.out.trans (hb2.mono HB1.out.size)
    have hb3 := below_row hb2w g3 (Nat.le_refl _)
    have HB3 := Lib.hid hb3
    have HT3 := Lib.hid (HT.out.below hb3 HT.out.lt)
    have HE := Lib.hid (enc_any k f t id fi A l n c ac fr su w3 HT3.out ((HR.out.next hb3)) HX.out (by omega) HM.out h4 h5)
    have e5 := HP2.c.2.2.2.2.2.1
    have f5 := HP2.fz 5
    have HW3 := Lib.hid hw3
    have hb2s := hb2.size
    clear hb2 HP2 hw3 g3 hb2w hb3 hb2s
    obtain ⟨r0, r1, r2, r3, r4, r5, r6, r7, r8⟩ := HP3.out.c
    have q : ∀ j v, w3.cell? ⟨w.heap.size, j, none⟩ = some v → (w2.setCell ⟨w.heap.size, 5, none⟩ (.slice A n c)).cell? ⟨w.heap.size, j, none⟩ = some v := fun j v h => by rw [← HW3.out]; exact h
    have s0 := q _ _ r0; have s1 := q _ _ r1; have s2 := q _ _ r2; have s3 := q _ _ r3; have s4_ := q _ _ r4; have s5 := q _ _ r5; have s6 := q _ _ r6; have s7 := q _ _ r7; have s8 := q _ _ r8
    clear q r0 r1 r2 r3 r4 r5 r6 r7 r8
    go_wp2_with fail
    rw [← HW3.out]
    (with_reducible refine HE.out.mono ?_)
    rintro e w4 ⟨v4, rfl, o4, hb4⟩
    obtain ⟨n4, hn4⟩ : ∃ n4, (encC k f t id fi ac fr su l).length = n4 := ⟨_, rfl⟩
    have hn100 : n4 ≤ 100 := by rw [← hn4]; exact enc_short _ _ _ _ _ _ _ _ _
    obtain ⟨A4, c4, rfl, -, -, -⟩ := o4.form_n n4 hn4
    have hd : decide ((n4 : Int) ≤ 100) = true := by simp; omega
    have HB4 := Lib.hid (HB3.out.trans (hb4.mono HB3.out.size))
    clear o4 hb4 hn4
    go_wp2
    go_ret
    exact ⟨by first | rfl | (simp; omega), HB4.out⟩
end Go.Proofs.YtjbieehehgjnmaaDoor
