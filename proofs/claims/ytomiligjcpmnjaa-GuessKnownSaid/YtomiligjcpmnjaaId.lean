/- WALKS over package input: Clone, From, All, Add. -/
import Derived.Test.YtomiligjcpmnjaaIc
import Derived.Lib.SliceRun
namespace Go.Proofs.Ytomiligjcpmnjaa
set_option maxRecDepth 100000
open Go.RowKit
set_option linter.unusedVariables false
set_option linter.unusedSimpArgs false

theorem OB.empty (w : World) : OB (w.alloc (.cells #[] 5)) w.heap.size (.slice (some ⟨w.heap.size, 0, none⟩) 0 0) [] :=
  ⟨by simp, .inr ⟨w.heap.size, 0, _, rfl, Nat.le_refl _, heap_alloc_new w _, Nat.le_refl _, by unfold maxLen; omega, by rfl, by rfl⟩⟩
theorem clone_b (w : World) (A : Addr) (n cap B : Nat) (x : List UInt8) (hx : RB w B (some A) x) (hn : x.length = n) (hB : B ≤ w.heap.size) (hl : n ≤ 1000) :
    Calls Try.prog 49 #[.slice (some A) n cap] w fun e w' => ∃ v, e = .returned v ∧ OB w' w.heap.size v x ∧ Below w.heap.size w w' := by
  subst hn
  have hn : ∀ (a : Addr) (n c : Nat) (W : World), (binOp .eql 23 (.slice (some a) n c) (.slice none 0 0)).run Try.prog W = .ok (.bool false) W := fun a n c W => Lib.run_eql_slice_nil W _ _ _ _ _ _ _ Try.underlying23
  have HW := Lib.hid (OB.empty w)
  have HR := Lib.hid (hx.below (((Below.refl w.heap.size w).alloc (Nat.le_refl _) (.cells #[] 5)).mono hB))
  clear hx
  go_enter Try.func49, Try.ntmps49
  go_wp2_with (at_builtin; refine wpList_append_bytes rfl _ _ rfl w.heap.size _ [] x rfl HW.out B _ cap rfl HR.out (by simp; omega) (by simp) ?_; intro v' w2 hown2 hg2 _)
  go_ret
  have hge : ∀ k, (Value.slice (some ⟨w.heap.size, 0, none⟩) 0 0).ownBlock = some k → w.heap.size ≤ k := HW.out.ge
  exact ⟨_, rfl, by simpa using hown2, ((Below.refl w.heap.size w).alloc (Nat.le_refl _) _).grown hg2 (by simp) hge⟩
theorem from_nil (w : World) (n : Int) : Calls Try.prog 41 #[.pointer none, .int .i64 0, .int .i64 n] w fun e w' => e = .returned (.slice none 0 0) ∧ w = w' := by
  have HL := Lib.hid len_nil
  go_enter Try.func41, Try.ntmps41
  go_wp2_with (go_at_call 35; with_reducible refine (HL.out _).mono ?_; rintro e w1 ⟨rfl, rfl⟩)
  go_ret
  exact ⟨rfl, rfl⟩
theorem from_out (w : World) (b L : Nat) (l : List UInt8) (h : LM w b L l) (f n : Nat) (hf : L ≤ f ∨ n = 0) : Calls Try.prog 41 #[pB b, .int .i64 f, .int .i64 n] w fun e w' => e = .returned (.slice none 0 0) ∧ w = w' := by
  have HL := Lib.hid (len_any w b L l h)
  clear h
  by_cases h1 : L ≤ f
  · clear hf
    go_enter Try.func41, Try.ntmps41
    go_wp2_with (go_at_call 35; with_reducible refine (HL.out).mono ?_; rintro e w1 ⟨rfl, rfl⟩)
    go_ret
    exact ⟨rfl, rfl⟩
  · obtain rfl : n = 0 := by omega
    clear hf
    go_enter Try.func41, Try.ntmps41
    go_wp2_with (go_at_call 35; with_reducible refine (HL.out).mono ?_; rintro e w1 ⟨rfl, rfl⟩)
    go_ret
    exact ⟨rfl, rfl⟩
theorem from_in (w : World) (b L : Nat) (l : List UInt8) (h : LM w b L l) (hL : l.length = L) (hl : L ≤ 1000) (f n : Nat) (hf : f < L) (hn : 0 < n) (hn2 : n ≤ 1000) : Calls Try.prog 41 #[pB b, .int .i64 f, .int .i64 n] w fun e w' => ∃ v, e = .returned v ∧ OB w' w.heap.size v ((l.drop f).take n) ∧ Below w.heap.size w w' := by
  have HL := Lib.hid (len_any w b L l h)
  have c1 : w.drew.cell? ⟨b, 0, none⟩ = some (.int .i64 (L : Int)) := h.known
  obtain ⟨D, hD⟩ : ∃ D, D = (if 1000 = f then 1 else 1 + f) := ⟨_, rfl⟩
  have hsl := slice_both b f L (by omega) hl w.drew
  rw [← hD] at hsl
  have hD1 : D = 1 + f := by rw [hD, if_neg (by omega)]
  clear hD
  have hmn : min (n : Int) ((L - f : Nat) : Int) = ((min n (L - f) : Nat) : Int) := by omega
  obtain ⟨m, hm⟩ : ∃ m, min n (L - f) = m := ⟨_, rfl⟩
  rw [hm] at hmn
  have hm0 : m ≤ 1000 := by omega
  have HR : Hid (RB w.drew w.heap.size (some ⟨b, D, none⟩) ((l.drop f).take n)) := by rw [hD1]; exact h.reads (by omega) f n w.heap.size h.lt
  have HN : Hid (((l.drop f).take n).length = m) := by unfold Hid; rw [List.length_take, List.length_drop]; omega
  have hbn : m ≤ 1000 - f := by omega
  have hLf : f ≤ L := by omega
  have HC := Lib.hid (clone_b w.drew ⟨b, D, none⟩ m (1000 - f) w.heap.size _ HR.out HN.out (Nat.le_refl _) hm0)
  have HM := Lib.hid hm; have HH := Lib.hid hL
  clear h hm hL hD1
  go_enter Try.func41, Try.ntmps41
  go_wp2_with (go_at_call 35; with_reducible refine (HL.out).mono ?_; rintro e w1 ⟨rfl, rfl⟩)
  go_region
  all_goals
    go_wp2_with (go_at_call 49; with_reducible refine (HC.out).mono ?_; rintro e w1 ⟨v, rfl, ho, hb⟩)
    go_ret
    exact ⟨v, rfl, ho, hb.os, hb.tape, hb.output, hb.size, hb.block⟩
theorem from_any (w : World) (b L : Nat) (l : List UInt8) (h : LM w b L l) (hL : l.length = L) (hl : L ≤ 1000) (F N : Int) (f n : Nat) (hF : F = (f : Int)) (hN : N = (n : Int)) (hn2 : n ≤ 1000) : Calls Try.prog 41 #[pB b, .int .i64 F, .int .i64 N] w fun e w' => ∃ v, e = .returned v ∧ OB w' w.heap.size v ((l.drop f).take n) ∧ Below w.heap.size w w' := by
  subst hF hN
  by_cases h0 : f < L ∧ 0 < n
  · exact from_in w b L l h hL hl f n h0.1 h0.2 hn2
  · refine (from_out w b L l h f n (by omega)).mono ?_
    rintro e w' ⟨rfl, rfl⟩
    have e0 : (l.drop f).take n = [] := List.eq_nil_of_length_eq_zero (by rw [List.length_take, List.length_drop]; omega)
    exact ⟨_, rfl, by rw [e0]; exact OB.nil _ _, Below.refl _ _⟩
end Go.Proofs.Ytomiligjcpmnjaa
