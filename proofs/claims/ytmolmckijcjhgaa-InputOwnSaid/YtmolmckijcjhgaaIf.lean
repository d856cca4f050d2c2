/- WALKS of the laws of layer 13: begun; InputNone. -/
import Derived.Test.YtmolmckijcjhgaaIe
namespace Go.Proofs.Ytmolmckijcjhgaa
set_option maxRecDepth 100000
open Go.RowKit
set_option linter.unusedVariables false
set_option linter.unusedSimpArgs false

theorem OB.form_n {w : World} {base : Nat} {v : Value} {l : List UInt8} (h : OB w base v l) (n : Nat) (hn : l.length = n) : ∃ A cap, v = .slice A n cap ∧ n ≤ cap ∧ cap ≤ maxLen ∧ RB w w.heap.size A l := by
  subst hn
  exact h.form _ rfl
/-- owned bytes made a string -/
theorem conv_own {w : World} {base n cap : Nat} {A : Option Addr} {l : List UInt8} (h : OB w base (.slice A n cap) l) (hn : l.length = n) : (convert 28 9 (.slice A n cap)).run Try.prog w = .ok (.string (str l)) w := by
  subst hn
  have h' := h
  rcases h.2 with ⟨hv, h0⟩ | ⟨g, cap', cur, hv, _⟩
  · injection hv with h1 h2 h3
    subst h1 h3
    obtain rfl := List.eq_nil_of_length_eq_zero h0
    exact run_convert_bytes_nil w 28 5 Try.underlying28 Try.underlying5 0 0 9 Try.underlying9
  · injection hv with h1 h2 h3
    subst h1 h3
    exact conv_bytes w g 0 cap l _ h'.cells l.length rfl
theorem rb_cells (w : World) (x : List UInt8) (t : TypeId) (B : Nat) (hB : w.heap.size < B) : RB (w.alloc (.cells (x.map vb).toArray t)) B (some ⟨w.heap.size, 0, none⟩) x := fun _ =>
  ⟨w.heap.size, 0, rfl, hB, fun j hj => by simp [go_sem, hj]⟩
theorem below_own {w0 w w' : World} {b : Nat} (h : Below w0.heap.size w0 w) (hg : w.grownBy w' (some b)) (hb : w0.heap.size ≤ b) : Below w0.heap.size w0 w' := h.grown hg h.size (fun k e => by cases e; exact hb)
set_option maxHeartbeats 4000000 in
theorem begun13_any (w : World) : Calls Try.prog 8 #[] w fun e w' => e = .returned (.bool true) ∧ Below w.heap.size w w' := by
  have HN := Lib.hid (new_1 w)
  go_enter Try.func8, Try.ntmps8
  go_wp2_with fail
  (with_reducible refine HN.out.mono ?_)
  rintro e w1 ⟨rfl, hm, hb⟩
  have HA : Hid (Calls Try.prog 12 #[pB w.heap.size, .int .u8 5] w1 fun e w' => e = .returned (.int .i64 0) ∧ LM w' w.heap.size 2 [0, 5] ∧ w1.grownBy w' (some w.heap.size)) := add_ok w1 w.heap.size 1 [0] hm rfl (by omega) 5
  have HB := Lib.hid hb
  clear HN hm hb
  go_wp2_with fail
  (with_reducible refine HA.out.mono ?_)
  rintro e w2 ⟨rfl, hm, hg⟩
  have hb2 := below_own HB.out hg (Nat.le_refl _)
  have hb3 := below_own (b := w.heap.size) hb2 (World.grownBy_alloc w2 (.cells #[.int .u8 9, .int .u8 7] 5) _) (Nat.le_refl _)
  have HP : Hid (Calls Try.prog 10 #[pB w.heap.size, .int .i64 1, .slice (some ⟨w2.heap.size, 0, none⟩) 2 2] (w2.alloc (.cells #[.int .u8 9, .int .u8 7] 5)) fun e w' => e = .returned (.tuple #[.int .i64 1, .int .i64 0]) ∧ LM w' w.heap.size 3 [0, 5, 7] ∧ (w2.alloc (.cells #[.int .u8 9, .int .u8 7] 5)).grownBy w' (some w.heap.size)) :=
    put_in (w2.alloc (.cells #[.int .u8 9, .int .u8 7] 5)) w.heap.size [0, 5] [9, 7] (some ⟨w2.heap.size, 0, none⟩) 2 (w2.heap.size + 1) 1 1 2 2 rfl rfl (hm.alloc _) (by omega) (rb_cells w2 [9, 7] 5 _ (by omega)) (by omega) (by unfold maxLen; omega) (by omega) (by omega) 1 rfl 1 (by omega)
  have HB2 := Lib.hid hb3
  clear HA hm hg HB hb2 hb3
  go_wp2_with fail
  (with_reducible refine HP.out.mono ?_)
  rintro e w3 ⟨rfl, hm, hg⟩
  have hb4 := below_own HB2.out hg (Nat.le_refl _)
  have hb5 := below_own (b := w.heap.size) hb4 (World.grownBy_alloc w3 (.cells #[.int .u8 1] 5) _) (Nat.le_refl _)
  obtain ⟨w4, hw4⟩ : ∃ w4, w4 = w3.alloc (.cells #[.int .u8 1] 5) := ⟨_, rfl⟩
  have hm4 : LM w4 w.heap.size 3 [0, 5, 7] := by rw [hw4]; exact hm.alloc _
  rw [← hw4] at hb5
  have HQ := Lib.hid (put_more w4 w.heap.size 3 [0, 5, 7] hm4 4 (.slice (some ⟨w3.heap.size, 0, none⟩) 1 1) (by omega))
  rw [hw4] at HQ
  have HAt : Hid (Calls Try.prog 16 #[pB w.heap.size, .int .i64 2] w4 fun e w' => e = .returned (.tuple #[.int .u8 7, .bool true]) ∧ w4 = w') := at_2 w4 w.heap.size 0 5 7 hm4
  have HL := Lib.hid (len_any w4 w.heap.size 3 [0, 5, 7] hm4)
  have HF : Hid (Calls Try.prog 15 #[pB w.heap.size, .int .i64 1, .int .i64 9] w4 fun e w' => ∃ v, e = .returned v ∧ OB w' w4.heap.size v [5, 7] ∧ Below w4.heap.size w4 w') := from_any w4 w.heap.size 3 [0, 5, 7] hm4 rfl (by omega) 1 9 1 9 rfl rfl (by omega)
  have HM := Lib.hid hm4
  have HB4 := Lib.hid hb5
  have HW := Lib.hid hw4
  rw [hw4] at HAt
  clear HP hm hg HB2 hb4 hb5 hw4 hm4
  go_wp2_with (first
    | (go_at_call 10; with_reducible refine HQ.out.mono ?_; rintro e w5 ⟨rfl, rfl⟩)
    | (go_at_call 16; with_reducible refine HAt.out.mono ?_; rintro e w5 ⟨rfl, rfl⟩))
  rw [← HW.out]
  (with_reducible refine HL.out.mono ?_)
  rintro e w5 ⟨rfl, rfl⟩
  clear HW HL HAt HQ
  go_wp2_with fail
  (with_reducible refine HF.out.mono ?_)
  rintro e w5 ⟨v, rfl, ho, hb⟩
  obtain ⟨A5, c5, rfl, -, -, -⟩ := ho.form_n 2 rfl
  have hs5 : (convert 28 9 (.slice A5 2 c5)).run Try.prog w5 = .ok (.string ⟨#[5, 7]⟩) w5 := conv_own ho rfl
  have hm5 := HM.out.then_ hb
  have HB5 := Lib.hid (HB4.out.trans (hb.mono HB4.out.size))
  have HO : Hid (Calls Try.prog 14 #[pB w.heap.size] w5 fun e w' => ∃ v, e = .returned v ∧ OB w' w5.heap.size v [0, 5, 7] ∧ Below w5.heap.size w5 w') := all_any w5 w.heap.size 3 [0, 5, 7] hm5 rfl (by omega)
  clear HF ho hb HM HB4 hm5
  go_wp2_with fail
  (with_reducible refine HO.out.mono ?_)
  rintro e w6 ⟨v, rfl, ho, hb⟩
  obtain ⟨A6, c6, rfl, -, -, -⟩ := ho.form_n 3 rfl
  have hs6 : (convert 28 9 (.slice A6 3 c6)).run Try.prog w6 = .ok (.string ⟨#[0, 5, 7]⟩) w6 := conv_own ho rfl
  have HB6 := Lib.hid (HB5.out.trans (hb.mono HB5.out.size))
  clear ho hb HB5 HO
  go_wp2_with fail
  go_ret
  exact ⟨rfl, HB6.out⟩
set_option maxHeartbeats 4000000 in
theorem none_law (w : World) : Calls Try.prog 5 #[] w fun e w' => e = .returned (.bool true) ∧ Below w.heap.size w w' := by
  have HA := Lib.hid at_nil
  have HP := Lib.hid put_nil
  have HG := Lib.hid begun13_any
  have HL := Lib.hid len_nil
  have HD : Hid (∀ W, Calls Try.prog 12 #[.pointer none, .int .u8 1] W fun e w' => e = .returned (.int .i64 7) ∧ Below W.heap.size W w') := fun W => add_nil W 1
  have HF := Lib.hid from_nil
  have HL2 := Lib.hid all_nil
  have BB := Lib.hid ((Below.refl w.heap.size w).alloc (Nat.le_refl _) (.cells #[.int .u8 1] 5))
  go_enter Try.func5, Try.ntmps5
  go_wp2_with (first
    | (go_at_call 16; with_reducible refine (HA.out _).mono ?_; rintro e w3 ⟨rfl, rfl⟩)
    | (go_at_call 10; with_reducible refine (HP.out _ _ _).mono ?_; rintro e w3 ⟨rfl, rfl⟩)
    | (go_at_call 8; with_reducible refine (HG.out _).mono ?_; rintro e w3 ⟨rfl, B⟩; replace BB := Lib.hid (BB.out.trans (B.mono BB.out.size)); clear B)
    | (go_at_call 11; with_reducible refine (HL.out _).mono ?_; rintro e w3 ⟨rfl, rfl⟩)
    | (go_at_call 12; with_reducible refine (HD.out _).mono ?_; rintro e w4 ⟨rfl, B⟩; replace BB := Lib.hid (BB.out.trans (B.mono BB.out.size)); clear B)
    | (go_at_call 15; with_reducible refine (HF.out _ _).mono ?_; rintro e w3 ⟨rfl, rfl⟩)
    | (go_at_call 14; with_reducible refine (HL2.out _).mono ?_; rintro e w3 ⟨rfl, rfl⟩))
  go_ret
  exact ⟨rfl, BB.out⟩
end Go.Proofs.Ytmolmckijcjhgaa
