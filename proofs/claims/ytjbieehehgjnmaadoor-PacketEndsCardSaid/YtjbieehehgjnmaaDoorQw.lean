/- WALK of the law PacketEnds. -/
import Derived.Test.YtjbieehehgjnmaaDoorQr
import Derived.Test.YtjbieehehgjnmaaDoorQs
namespace Go.Proofs.YtjbieehehgjnmaaDoor
set_option maxRecDepth 100000
open Go.RowKit
set_option linter.unusedVariables false
set_option linter.unusedSimpArgs false

theorem rb_zeros (W : World) (k B : Nat) (hB : W.heap.size < B) : RB (W.alloc (madeB k)) B (some ⟨W.heap.size, 0, none⟩) (List.replicate k 0) := fun _ =>
  ⟨W.heap.size, 0, rfl, hB, fun j hj => by
    rw [List.length_replicate] at hj
    rw [Nat.zero_add]
    refine (World.rowIs.cell (w := W.alloc (madeB k)) (World.rowIs_made W (.int .u8 0) k 5) hj).trans ?_
    simp [vb]⟩
set_option maxHeartbeats 4000000 in
theorem ends_law (k f t id fi n ac fr : Int) (w : World) (hT : TabW w) :
    Calls Tryd.prog 5 #[.int .i64 k, .int .i64 f, .int .i64 t, .int .i64 id, .int .i64 fi, .int .i64 n, .int .i64 ac, .int .i64 fr] w fun e w' => e = .returned (.bool true) ∧ Below w.heap.size w w' := by
  have HBG := Lib.hid (begun15_any w hT)
  have HT := Lib.hid hT
  clear hT
  by_cases hn0 : n < 0
  · go_enter Tryd.func5, Tryd.ntmps5
    go_wp2_with fail
    (with_reducible refine HBG.out.mono ?_)
    rintro e w1 ⟨rfl, hb1⟩
    go_wp2
    go_ret
    exact ⟨rfl, hb1⟩
  by_cases hn40 : 40 < n
  · go_enter Tryd.func5, Tryd.ntmps5
    go_wp2_with fail
    (with_reducible refine HBG.out.mono ?_)
    rintro e w1 ⟨rfl, hb1⟩
    go_wp2
    go_ret
    exact ⟨rfl, hb1⟩
  obtain ⟨N, rfl⟩ : ∃ N : Nat, n = N := ⟨n.toNat, by omega⟩
  have hN40 : N ≤ 40 := by omega
  have hc0 : (0 : Int) ≤ (N : Int) := by omega
  have hc1 : (N : Int) ≤ 40 := by omega
  have hmk := make_b N (by omega)
  obtain ⟨m, hm⟩ : ∃ m : Bool, decide (mayC k f t id fi ac fr 0 N) = m := ⟨_, rfl⟩
  have HMK := Lib.hid hmk; have HMY := Lib.hid hm; have HN40 := Lib.hid hN40
  have HLN : Hid ((List.replicate N (0 : UInt8)).length = N) := List.length_replicate ..
  clear hn0 hn40 hmk hm hN40
  have HENC : Hid ((0 < (encC k f t id fi ac fr 0 (List.replicate N 0)).length ↔ m = true) ∧ (encC k f t id fi ac fr 0 (List.replicate N 0)).length ≤ 100) := by
    refine ⟨?_, enc_short _ _ _ _ _ _ _ _ _⟩
    constructor
    · intro h
      cases hb : m with
      | true => rfl
      | false =>
        have h2 := of_decide_eq_false (HMY.out.trans hb)
        rw [← HLN.out] at h2
        rw [enc_none h2] at h
        cases h
    · intro h
      have h2 := of_decide_eq_true (HMY.out.trans h)
      rw [← HLN.out] at h2
      exact enc_some h2
  go_enter Tryd.func5, Tryd.ntmps5
  go_wp2_with fail
  (with_reducible refine HBG.out.mono ?_)
  rintro e w1 ⟨rfl, hb1⟩
  have hmk := HMK.out w1
  obtain ⟨w2, hw2⟩ : ∃ w2, w2 = (w1.alloc (madeB N)).alloc (pkO k f t id fi (some ⟨w1.heap.size, 0, none⟩) N N ac fr 0) := ⟨_, rfl⟩
  have a2 : Below w1.heap.size w1 w2 := by rw [hw2]; exact ((Below.refl _ _).alloc (Nat.le_refl _) _).alloc (by simp) _
  have hb2 := hb1.trans (a2.mono hb1.size)
  have HB2 := Lib.hid hb2; have HT2 := Lib.hid (HT.out.below hb2 HT.out.lt)
  have hrz : RB w2 w2.heap.size (some ⟨w1.heap.size, 0, none⟩) (List.replicate N 0) := by
    have h := rb_zeros w1 N (w1.alloc (madeB N)).heap.size (by simp)
    rw [hw2]
    exact h.next ((Below.refl _ _).alloc (Nat.le_refl _) _)
  have HR2 := Lib.hid hrz
  have hp2 : PkM w2 (w1.heap.size + 1) k f t id fi (some ⟨w1.heap.size, 0, none⟩) N N ac fr 0 := by
    have h := PkM.new (w1.alloc (madeB N)) k f t id fi (some ⟨w1.heap.size, 0, none⟩) N N ac fr 0
    rw [World.size_alloc] at h
    rw [hw2]; exact h
  have HP2 := Lib.hid hp2
  have S2 : Hid (w1.heap.size + 1 < w2.heap.size) := by show _ < _; rw [hw2]; simp
  have HRM := Lib.hid (refmay_any k f t id fi (some ⟨w1.heap.size, 0, none⟩) N N ac fr 0 m HMY.out w2 (by unfold maxLen; have := HN40.out; omega))
  have HW2 := Lib.hid hw2
  clear hb1 a2 hb2 hrz hp2 hw2
  go_wp2_with fail
  rw [← HW2.out]
  (with_reducible refine HRM.out.mono ?_)
  rintro e w3 ⟨rfl, hw3⟩
  have b3 : Below w2.heap.size w2 w3 := by rw [← hw3]; exact (Below.refl _ _).alloc (Nat.le_refl _) _
  have HB3 := Lib.hid (HB2.out.trans (b3.mono HB2.out.size)); have HT3 := Lib.hid (HT2.out.below b3 HT2.out.lt)
  have HR3 := Lib.hid (HR2.out.next b3); have HP3 := Lib.hid (HP2.out.below b3 S2.out)
  have S3 : Hid (w1.heap.size + 1 < w3.heap.size) := Nat.lt_of_lt_of_le S2.out b3.size
  have HMM := Lib.hid (may_any k f t id fi (some ⟨w1.heap.size, 0, none⟩) N N ac fr 0 m HMY.out w3 (by unfold maxLen; have := HN40.out; omega))
  obtain ⟨r0, r1, r2, r3, r4, r5, r6, r7, r8⟩ := HP3.out.c
  clear b3 hw3 hmk
  go_wp2_with fail
  (with_reducible refine HMM.out.mono ?_)
  rintro e w4 ⟨rfl, hw4⟩
  have b4 : Below w3.heap.size w3 w4 := by rw [← hw4]; exact (Below.refl _ _).alloc (Nat.le_refl _) _
  have HB4 := Lib.hid (HB3.out.trans (b4.mono HB3.out.size)); have HT4 := Lib.hid (HT3.out.below b4 HT3.out.lt)
  have HE := Lib.hid (enc_any k f t id fi (some ⟨w1.heap.size, 0, none⟩) (List.replicate N 0) N N ac fr 0 w4 HT4.out (HR3.out.next b4) HLN.out (Nat.le_refl _) (by unfold maxLen; have := HN40.out; omega) (by omega) (by omega))
  have hp4 := HP3.out.below b4 S3.out
  clear r0 r1 r2 r3 r4 r5 r6 r7 r8 b4 hw4
  obtain ⟨r0, r1, r2, r3, r4, r5, r6, r7, r8⟩ := hp4.c
  clear hp4
  cases m
  · obtain ⟨x, hx⟩ : ∃ x, encC k f t id fi ac fr 0 (List.replicate N 0) = x := ⟨_, rfl⟩
    rw [hx] at HE HENC
    have hxl : x.length = 0 := by
      rcases Nat.eq_zero_or_pos x.length with h | h
      · exact h
      · have := HENC.out.1.1 h; cases this
    go_wp2_with fail
    (with_reducible refine HE.out.mono ?_)
    rintro e w5 ⟨v5, rfl, o5, hb5⟩
    obtain ⟨A5, c5, rfl, -, -, -⟩ := o5.form_n 0 hxl
    have HB5 := Lib.hid (HB4.out.trans (hb5.mono HB4.out.size))
    clear o5 hb5 hx hxl
    go_wp2
    go_ret
    exact ⟨rfl, HB5.out⟩
  · obtain ⟨x, hx⟩ : ∃ x, encC k f t id fi ac fr 0 (List.replicate N 0) = x := ⟨_, rfl⟩
    rw [hx] at HE HENC
    obtain ⟨X, hX⟩ : ∃ X, x.length = X := ⟨_, rfl⟩
    have hX0 : (0 : Int) < (X : Int) := by have h := HENC.out.1.2 rfl; omega
    go_wp2_with fail
    (with_reducible refine HE.out.mono ?_)
    rintro e w5 ⟨v5, rfl, o5, hb5⟩
    obtain ⟨A5, c5, rfl, -, -, -⟩ := o5.form_n X hX
    have HB5 := Lib.hid (HB4.out.trans (hb5.mono HB4.out.size))
    clear o5 hb5 hx hX
    go_wp2
    go_ret
    exact ⟨by first | rfl | (simp; omega), HB5.out⟩
end Go.Proofs.YtjbieehehgjnmaaDoor
