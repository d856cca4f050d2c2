/- WALK of the law InputStays. -/
import Derived.Test.YtmolmckijcjhgaaIf
import Derived.Laws.BytesString
namespace Go.Proofs.Ytmolmckijcjhgaa
set_option maxRecDepth 100000
open Go.RowKit
set_option linter.unusedVariables false
set_option linter.unusedSimpArgs false

/-- a slice that reads as some bytes, made a string -/
theorem conv_rb {w : World} {B : Nat} {A : Option Addr} {l : List UInt8} (h : RB w B A l) (n c : Nat) (hn : l.length = n) : (convert 28 9 (.slice A n c)).run Try.prog w = .ok (.string (str l)) w := by
  by_cases h0 : n = 0
  · subst h0
    obtain rfl := List.eq_nil_of_length_eq_zero hn
    rw [run_convert_bytes_string w _ _ 5 A 0 c Try.underlying28 Try.underlying5 Try.underlying9]
    cases A <;> simp [Conv.bytesToString, loadCells]
    all_goals rfl
  · obtain ⟨b, off, rfl, -, -⟩ := h (by omega)
    exact conv_bytes w b off c l B h n hn
theorem short_n (A : Option Addr) (l : List UInt8) (n cap k : Nat) (w : World) (hn : l.length = n) (hk : k ≤ 1000) (hc : n ≤ cap) (hc2 : cap ≤ maxLen) (X : Nat) (hX : (l.take k).length = X) (K : Int) (hK : K = (k : Int)) :
    Calls Try.prog 13 #[.slice A n cap, .int .i64 K] w fun e w' => e = .returned (.slice A X cap) ∧ w = w' := by
  subst hn hX hK
  exact short_any A l cap k w hk hc hc2
/-- Put at the line's start -/
theorem put_first (w : World) (b : Nat) (x : List UInt8) (A : Option Addr) (cap B X : Nat) (hX : x.length = X) (h : LM w b 0 []) (hx : RB w B A x) (hc : X ≤ cap) (hm : cap ≤ maxLen) (hX2 : X ≤ 1000) :
    Calls Try.prog 10 #[pB b, .int .i64 0, .slice A X cap] w fun e w' => e = .returned (.tuple #[.int .i64 X, .int .i64 0]) ∧ LM w' b X x ∧ w.grownBy w' (some b) :=
  (put_in w b [] x A cap B 0 0 0 X rfl hX h (by omega) hx hc hm (Nat.le_refl _) (by omega) X (by omega) X (by omega)).mono fun e w' ⟨he, h1, h2⟩ => by
    refine ⟨by rw [he]; simp, ?_, h2⟩
    rw [List.drop_zero, List.take_of_length_le (by omega), List.nil_append, Nat.zero_add] at h1
    exact h1
theorem put_on (w : World) (b : Nat) (l x : List UInt8) (A : Option Addr) (cap B f p L X m : Nat) (hL : l.length = L) (hX : x.length = X) (h : LM w b L l) (hx : RB w B A x) (hc : X ≤ cap) (hm : cap ≤ maxLen) (hf : f ≤ L) (hp : min (L - f) X = p) (hmm : X - p = m) (hn : L + m ≤ 1000) :
    Calls Try.prog 10 #[pB b, .int .i64 f, .slice A X cap] w fun e w' => e = .returned (.tuple #[.int .i64 m, .int .i64 0]) ∧ LM w' b (L + m : Nat) (l ++ x.drop p) ∧ w.grownBy w' (some b) :=
  (put_in w b l x A cap B f p L X hL hX h (by omega) hx hc hm hf hp m hmm m (by omega)).mono fun e w' ⟨he, h1, h2⟩ => by
    refine ⟨by rw [he]; simp, ?_, h2⟩
    rw [List.take_of_length_le (by rw [List.length_drop]; omega)] at h1
    exact h1
theorem RB.tail {w : World} {B : Nat} {A : Option Addr} {l : List UInt8} (h : RB w B A l) (k cap : Nat) (hk : k ≤ l.length) (hc : l.length ≤ cap) (hne : ¬ cap = k) : RB w B (A.map (·.add k)) (l.drop k) := by
  have := h.cut k cap hk hc
  rwa [if_neg hne] at this

set_option maxHeartbeats 4000000 in
theorem stays_law (A0 : Option Addr) (l0 : List UInt8) (cap0 : Nat) (A1 : Option Addr) (l1 : List UInt8) (cap1 : Nat) (first : Int) (w : World) (h0 : RB w w.heap.size A0 l0) (k0 : l0.length ≤ cap0) (m0 : cap0 ≤ maxLen) (h1 : RB w w.heap.size A1 l1) (k1 : l1.length ≤ cap1) (m1 : cap1 ≤ maxLen) (b1 : -9223372036854775808 ≤ first) (b2 : first ≤ 9223372036854775807) :
    Calls Try.prog 7 #[.slice A0 l0.length cap0, .slice A1 l1.length cap1, .int .i64 first] w fun e w' => e = .returned (.bool true) ∧ Below w.heap.size w w' := by
  have HG := Lib.hid begun13_any
  obtain ⟨x, hx⟩ : ∃ x, l0.take 40 = x := ⟨_, rfl⟩
  obtain ⟨y, hy⟩ : ∃ y, l1.take 40 = y := ⟨_, rfl⟩
  obtain ⟨X, hX⟩ : ∃ X, x.length = X := ⟨_, rfl⟩
  obtain ⟨Y, hY⟩ : ∃ Y, y.length = Y := ⟨_, rfl⟩
  have hX40 : X ≤ 40 ∧ X ≤ cap0 := by rw [← hx, List.length_take] at hX; omega
  have hY40 : Y ≤ 40 ∧ Y ≤ cap1 := by rw [← hy, List.length_take] at hY; omega
  obtain ⟨hX40, hXc⟩ := hX40
  obtain ⟨hY40, hYc⟩ := hY40
  have HS0 := Lib.hid (fun W => short_n A0 l0 l0.length cap0 40 W rfl (by omega) k0 m0 X (by rw [hx, hX]) 40 rfl)
  have HS1 := Lib.hid (fun W => short_n A1 l1 l1.length cap1 40 W rfl (by omega) k1 m1 Y (by rw [hy, hY]) 40 rfl)
  have R0 : RB w w.heap.size A0 x := by rw [← hx]; exact h0.take 40
  have R1 : RB w w.heap.size A1 y := by rw [← hy]; exact h1.take 40
  have H0 := Lib.hid R0; have H1 := Lib.hid R1; have HX := Lib.hid hX; have HY := Lib.hid hY
  have M0 := Lib.hid m0; have M1 := Lib.hid m1
  obtain ⟨n0, hn0⟩ : ∃ n0, l0.length = n0 := ⟨_, rfl⟩
  obtain ⟨n1, hn1⟩ : ∃ n1, l1.length = n1 := ⟨_, rfl⟩
  rw [hn0] at HS0 k0 ⊢; rw [hn1] at HS1 k1 ⊢
  have B1 := Lib.hid b1; have B2 := Lib.hid b2
  clear h0 h1 hx hy hX hY R0 R1 hn0 hn1 k0 k1 b1 b2
  unfold maxLen at m0 m1
  by_cases f1 : first < 0
  · go_enter Try.func7, Try.ntmps7
    go_wp2_with (first
      | (go_at_call 8; with_reducible refine (HG.out _).mono ?_; rintro e w3 ⟨rfl, hb⟩)
      | (go_at_call 13; with_reducible refine (HS0.out _).mono ?_; rintro e w4 ⟨rfl, rfl⟩)
      | (go_at_call 13; with_reducible refine (HS1.out _).mono ?_; rintro e w4 ⟨rfl, rfl⟩))
    go_ret
    exact ⟨rfl, hb⟩
  by_cases f2 : (X : Int) < first
  · go_enter Try.func7, Try.ntmps7
    go_wp2_with (first
      | (go_at_call 8; with_reducible refine (HG.out _).mono ?_; rintro e w3 ⟨rfl, hb⟩)
      | (go_at_call 13; with_reducible refine (HS0.out _).mono ?_; rintro e w4 ⟨rfl, rfl⟩)
      | (go_at_call 13; with_reducible refine (HS1.out _).mono ?_; rintro e w4 ⟨rfl, rfl⟩))
    go_ret
    exact ⟨rfl, hb⟩
  obtain ⟨f, rfl⟩ : ∃ f : Nat, first = f := ⟨first.toNat, by omega⟩
  have hf : f ≤ X := by omega
  obtain ⟨p, hp⟩ : ∃ p, min (X - f) Y = p := ⟨_, rfl⟩
  obtain ⟨m, hm⟩ : ∃ m, Y - p = m := ⟨_, rfl⟩
  obtain ⟨N, hN⟩ : ∃ N, X + m = N := ⟨_, rfl⟩
  obtain ⟨z, hz⟩ : ∃ z, x ++ y.drop p = z := ⟨_, rfl⟩
  have hzN : z.length = N := by rw [← hz, List.length_append, List.length_drop, HX.out, HY.out]; omega
  have e1 : max 0 ((f : Int) + (Y : Int) - (X : Int)) = (m : Int) := by omega
  have e2 : (Y : Int) - (m : Int) = (p : Int) := by omega
  have e3 : N - X = m := by omega
  have HP := Lib.hid hp; have HM := Lib.hid hm; have HN := Lib.hid hN; have HZ := Lib.hid hz; have HZN := Lib.hid hzN
  clear f1 f2 hp hm hN hz hzN
  go_enter Try.func7, Try.ntmps7
  go_wp2_with (first
    | (go_at_call 8; with_reducible refine (HG.out _).mono ?_; rintro e w3 ⟨rfl, hb⟩; have HB := Lib.hid hb; clear hb)
    | (go_at_call 13; with_reducible refine (HS0.out _).mono ?_; rintro e w4 ⟨rfl, rfl⟩)
    | (go_at_call 13; with_reducible refine (HS1.out _).mono ?_; rintro e w4 ⟨rfl, rfl⟩))
  refine (new_0 _).mono ?_
  rintro e w4 ⟨rfl, hm, hb⟩
  have hb4 := HB.out.trans (hb.mono HB.out.size)
  have HC := Lib.hid (put_first w4 w3.heap.size x A0 cap0 w.heap.size X HX.out hm (H0.out.below hb4) hXc M0.out (by omega))
  have HBS := Lib.hid HB.out.size
  have HB4 := Lib.hid hb4
  clear hm hb hb4 HS0 HS1 HG HB
  go_wp2_with fail
  (with_reducible refine HC.out.mono ?_)
  rintro e w5 ⟨rfl, hm, hg⟩
  have hb5 := below_own HB4.out hg HBS.out
  have HD := Lib.hid (put_on w5 w3.heap.size x y A1 cap1 w.heap.size f p X Y m HX.out HY.out hm (H1.out.below hb5) hYc M1.out hf HP.out HM.out (by omega))
  have HB5 := Lib.hid hb5
  clear hm hg hb5 HC HB4
  go_wp2_with fail
  (with_reducible refine HD.out.mono ?_)
  rintro e w6 ⟨rfl, hm, hg⟩
  have hb6 := below_own HB5.out hg HBS.out
  rw [HZ.out, HN.out] at hm
  have HA := Lib.hid (all_any w6 w3.heap.size N z hm HZN.out (by have := HN.out; have := HM.out; omega))
  have HB6 := Lib.hid hb6
  clear hm hg hb6 HD HB5
  go_wp2_with fail
  (with_reducible refine HA.out.mono ?_)
  rintro e w7 ⟨v, rfl, ho, hb⟩
  have hb7 := HB6.out.trans (hb.mono HB6.out.size)
  obtain ⟨A7, c7, rfl, hc7, hm7, hr7⟩ := ho.form_n N HZN.out
  have r0 := H0.out.below hb7
  have r1 := H1.out.below hb7
  obtain ⟨s1, hs1⟩ : ∃ s, str x = s := ⟨_, rfl⟩
  obtain ⟨s2, hs2⟩ : ∃ s, str (y.drop p) = s := ⟨_, rfl⟩
  have q1 : (convert 28 9 (.slice A0 X cap0)).run Try.prog w7.drew = .ok (.string s1) w7.drew := by rw [← hs1]; exact conv_rb (w := w7.drew) r0 X cap0 HX.out
  have q2 : (convert 28 9 (.slice A7 X c7)).run Try.prog w7.drew = .ok (.string s1) w7.drew := by
    rw [← hs1]
    have ht : z.take X = x := by rw [← HZ.out, ← HX.out, List.take_left']; rfl
    exact conv_rb (w := w7.drew) (B := w7.heap.size) (l := x) (by have := hr7.take X; rwa [ht] at this) X c7 HX.out
  have HR7 := Lib.hid hr7; have HR1 := Lib.hid r1; have HB7 := Lib.hid hb7; have HS2 := Lib.hid hs2
  have hXN : X ≤ N := by have := HN.out; omega
  have hc7X : X ≤ c7 := by omega
  clear ho hb hb7 r0 r1 hr7 hs1 hs2 HA HB6
  have e4 : Y - p = m := HM.out
  have hXz : X ≤ z.length := by have := HZN.out; omega
  have hpY : p ≤ Y := by have := HP.out; omega
  have hpy : p ≤ y.length := by have := HY.out; omega
  have hzd : Hid (z.drop X = y.drop p) := by unfold Hid; rw [← HZ.out, ← HX.out, List.drop_left']; rfl
  have hdl : Hid ((y.drop p).length = m) := by unfold Hid; rw [List.length_drop, HY.out]; exact e4
  have nil_ : ∀ {W : World} {A : Option Addr} {c : Nat}, m = 0 → (convert 28 9 (.slice A m c)).run Try.prog W = .ok (.string s2) W := fun {W A c} h => by
    have e : y.drop p = [] := List.eq_nil_of_length_eq_zero (by have := hdl.out; omega)
    rw [← HS2.out, e]
    exact conv_rb (B := 0) (RB.nil _ _ _) m c (by rw [h]; rfl)
  have t7 : ¬ c7 = X → (convert 28 9 (.slice (A7.map (·.add X)) m (c7 - X))).run Try.prog w7.drew.drew = .ok (.string s2) w7.drew.drew := fun h => by
    rw [← HS2.out, ← hzd.out]
    exact conv_rb (w := w7.drew.drew) (HR7.out.tail X c7 hXz (by have := HZN.out; omega) h) m (c7 - X) (by rw [hzd.out]; exact hdl.out)
  have t1 : ¬ cap1 = p → (convert 28 9 (.slice (A1.map (·.add p)) m (cap1 - p))).run Try.prog w7.drew.drew = .ok (.string s2) w7.drew.drew := fun h => by
    rw [← HS2.out]
    exact conv_rb (w := w7.drew.drew) (HR1.out.tail p cap1 hpy (by have := HY.out; omega) h) m (cap1 - p) hdl.out
  have hw1 : IntKind.i64.wrap ((X : Int) + (m : Int)) = (N : Int) := by have := HN.out; rw [IntKind.wrap_i64] <;> omega
  have hw2 : IntKind.i64.wrap ((Y : Int) - (m : Int)) = (p : Int) := by rw [IntKind.wrap_i64] <;> omega
  by_cases g7 : c7 = X
  · have hm0 : m = 0 := by omega
    have n7' := nil_ (W := w7.drew.drew) (A := A7) (c := 0) hm0
    by_cases g1 : cap1 = p
    · have n1' := nil_ (W := w7.drew.drew) (A := A1) (c := 0) hm0
      clear t7 t1 nil_ hm0
      subst g1 g7
      go_wp2_with fail
      go_region
      go_wp2_with fail
      go_region
      all_goals
        go_wp2_with fail
        go_ret
        exact ⟨rfl, HB7.out.os, HB7.out.tape, HB7.out.output, HB7.out.size, HB7.out.block⟩
  
    · have t1' := t1 g1
      clear t7 t1 nil_ hm0
      subst g7
      go_wp2_with fail
      go_region
      go_wp2_with fail
      go_region
      all_goals
        go_wp2_with fail
        go_ret
        exact ⟨rfl, HB7.out.os, HB7.out.tape, HB7.out.output, HB7.out.size, HB7.out.block⟩
  
  · have t7' := t7 g7
    by_cases g1 : cap1 = p
    · have hm0 : m = 0 := by omega
      have n1' := nil_ (W := w7.drew.drew) (A := A1) (c := 0) hm0
      clear t7 t1 nil_ hm0
      subst g1
      go_wp2_with fail
      go_region
      go_wp2_with fail
      go_region
      all_goals
        go_wp2_with fail
        go_ret
        exact ⟨rfl, HB7.out.os, HB7.out.tape, HB7.out.output, HB7.out.size, HB7.out.block⟩
  
    · have t1' := t1 g1
      clear t7 t1 nil_
      go_wp2_with fail
      go_region
      go_wp2_with fail
      go_region
      all_goals
        go_wp2_with fail
        go_ret
        exact ⟨rfl, HB7.out.os, HB7.out.tape, HB7.out.output, HB7.out.size, HB7.out.block⟩
  
end Go.Proofs.Ytmolmckijcjhgaa
