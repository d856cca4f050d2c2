/- WALKS of the laws of layer 14: Short, Decode in one word, begun. -/
import Derived.Test.YtifmohdfpfcikaaJd
import Derived.Test.YtifmohdfpfcikaaJi
import Derived.Test.YtifmohdfpfcikaaJj
import Derived.Test.YtifmohdfpfcikaaKc
import Derived.Laws.BytesString
namespace Go.Proofs.Ytifmohdfpfcikaa
set_option maxRecDepth 100000
open Go.RowKit
set_option linter.unusedVariables false
set_option linter.unusedSimpArgs false

theorem short_any (A : Option Addr) (l : List UInt8) (cap k : Nat) (w : World) (hk : k ≤ 1000) (hc : l.length ≤ cap) (hc2 : cap ≤ maxLen) :
    Calls Try.prog 9 #[.slice A l.length cap, .int .i64 k] w fun e w' => e = .returned (.slice A (l.take k).length cap) ∧ w = w' := by
  unfold maxLen at hc2
  rw [List.length_take]
  by_cases h : k < l.length
  · go_enter Try.func9, Try.ntmps9
    go_wp2
    go_ret
    exact ⟨by rw [Nat.min_eq_left (by omega)]; rfl, rfl⟩
  · go_enter Try.func9, Try.ntmps9
    go_wp2
    go_ret
    exact ⟨by rw [Nat.min_eq_right (by omega)]; rfl, rfl⟩
theorem short_n (A : Option Addr) (l : List UInt8) (n cap k : Nat) (w : World) (hn : l.length = n) (hk : k ≤ 1000) (hc : n ≤ cap) (hc2 : cap ≤ maxLen) (X : Nat) (hX : (l.take k).length = X) (K : Int) (hK : K = (k : Int)) :
    Calls Try.prog 9 #[.slice A n cap, .int .i64 K] w fun e w' => e = .returned (.slice A X cap) ∧ w = w' := by
  subst hn hX hK
  exact short_any A l cap k w hk hc hc2
theorem OB.form_n {w : World} {base : Nat} {v : Value} {l : List UInt8} (h : OB w base v l) (n : Nat) (hn : l.length = n) : ∃ A cap, v = .slice A n cap ∧ n ≤ cap ∧ cap ≤ maxLen ∧ RB w w.heap.size A l := by
  subst hn
  exact h.form _ rfl
/-- owned bytes made a string -/
theorem conv_own {w : World} {base n cap : Nat} {A : Option Addr} {l : List UInt8} (h : OB w base (.slice A n cap) l) (hn : l.length = n) : (convert 22 9 (.slice A n cap)).run Try.prog w = .ok (.string (str l)) w := by
  subst hn
  have h' := h
  rcases h.2 with ⟨hv, h0⟩ | ⟨g, cap', cur, hv, _⟩
  · injection hv with h1 h2 h3
    subst h1 h3
    obtain rfl := List.eq_nil_of_length_eq_zero h0
    exact run_convert_bytes_nil w 22 5 Try.underlying22 Try.underlying5 0 0 9 Try.underlying9
  · injection hv with h1 h2 h3
    subst h1 h3
    exact conv_bytes w g 0 cap l _ h'.cells l.length rfl
/-- a slice that reads as some bytes, made a string -/
theorem conv_rb {w : World} {B : Nat} {A : Option Addr} {l : List UInt8} (h : RB w B A l) (n c : Nat) (hn : l.length = n) : (convert 22 9 (.slice A n c)).run Try.prog w = .ok (.string (str l)) w := by
  by_cases h0 : n = 0
  · subst h0
    obtain rfl := List.eq_nil_of_length_eq_zero hn
    rw [run_convert_bytes_string w _ _ 5 A 0 c Try.underlying22 Try.underlying5 Try.underlying9]
    cases A <;> simp [Conv.bytesToString, loadCells]
    all_goals rfl
  · obtain ⟨b, off, rfl, -, -⟩ := h (by omega)
    exact conv_bytes w b off c l B h n hn
theorem rb_cells (w : World) (x : List UInt8) (t : TypeId) (B : Nat) (hB : w.heap.size < B) : RB (w.alloc (.cells (x.map vb).toArray t)) B (some ⟨w.heap.size, 0, none⟩) x := fun _ =>
  ⟨w.heap.size, 0, rfl, hB, fun j hj => by simp [go_sem, hj]⟩
theorem RB.next {w w' : World} {A : Option Addr} {l : List UInt8} (h : RB w w.heap.size A l) (hb : Below w.heap.size w w') : RB w' w'.heap.size A l := (h.below hb).more hb.size
/-- Decode -/
theorem dec_any (A : Option Addr) (l : List UInt8) (n cap : Nat) (m M : Int) (w : World) (hM : (m < 0 ∧ M = 0) ∨ (0 ≤ m ∧ M = m)) (hM1 : M ≤ 9223372036854775807) (hr : RB w w.heap.size A l) (hn : l.length = n) (hc : n ≤ cap) (hm : cap ≤ maxLen) (hl : n ≤ 4096)
    (ht : ∀ t, cnt M 0 (items true l) = .ok t → t ≤ 2147483647) :
    Calls Try.prog 12 #[.slice A n cap, .int .i64 m] w fun e w' => UnAns (cnt M 0 (items true l)) (expand 0 (items true l)) w w' e ∧ Below w.heap.size w w' := by
  subst hn
  cases h : cnt M 0 (items true l) with
  | form => exact dec_err A l cap m M 1 w hM hM1 hr hc hm (by rw [h]; rfl) (.inl rfl)
  | full => exact dec_err A l cap m M 4 w hM hM1 hr hc hm (by rw [h]; rfl) (.inr rfl)
  | ok t => exact (dec_ok A l cap m M t w hM hM1 hr hc hm h (ht t h) hl).mono fun e w' ⟨v, h1, h2, h3⟩ => ⟨⟨v, h1, h2⟩, h3⟩
theorem enc557 : encG 0 (groups [5, 5, 7]) = [4, 5, 2, 2] := by
  have e : groups [5, 5, 7] = [(2, 5), (1, 7)] := by decide
  rw [e]
  show putN ((2 : Nat) : Int) ++ (5 ^^^ 0) :: (putN ((1 : Nat) : Int) ++ (7 ^^^ 5) :: []) = _
  rw [putN_small 2 (by omega), putN_small 1 (by omega)]
  decide
theorem dec2 : cnt 9 0 (items true [2]) = .form := by
  rw [items_bad (by decide) (stepR_stop (u := 2) (k := 1) true rfl (by decide))]
  exact cnt_form _ _ _ _ rfl
set_option maxHeartbeats 4000000 in
theorem begun14_any (w : World) : Calls Try.prog 8 #[] w fun e w' => e = .returned (.bool true) ∧ Below w.heap.size w w' := by
  have hE := encode_any (some ⟨w.heap.size, 0, none⟩) [5, 5, 7] 3 3 0 (w.alloc (.cells #[.int .u8 5, .int .u8 5, .int .u8 7] 5)) (rb_cells w [5, 5, 7] 5 _ (by rw [World.size_alloc]; omega)) rfl (Nat.le_refl _) (by unfold maxLen; omega) (by omega)
  rw [enc557] at hE
  have HE := Lib.hid hE
  have HB0 := Lib.hid ((Below.refl w.heap.size w).alloc (Nat.le_refl _) (.cells #[.int .u8 5, .int .u8 5, .int .u8 7] 5))
  clear hE
  have hx : expand 0 (items true [4, 5, 2, 2]) = [5, 5, 7] := by rw [← enc557]; exact expand_of _ (by decide)
  have h3 : cnt 3 0 (items true [4, 5, 2, 2]) = .ok 3 := by rw [← enc557]; exact cnt_of _ (by decide) 3 (by omega)
  have h2 : cnt 2 0 (items true [4, 5, 2, 2]) = .full := by rw [← enc557]; exact cnt_of _ (by decide) 2 (by omega)
  have HX := Lib.hid hx; have H3 := Lib.hid h3; have H2 := Lib.hid h2
  clear hx h3 h2
  go_enter Try.func8, Try.ntmps8
  go_wp2_with fail
  (with_reducible refine HE.out.mono ?_)
  rintro e w1 ⟨v, rfl, ho, hb⟩
  obtain ⟨A1, c1, rfl, hc1, hm1, hr1⟩ := ho.form_n 4 rfl
  have hb1 := HB0.out.trans (hb.mono HB0.out.size)
  have hD := dec_any A1 [4, 5, 2, 2] 4 c1 3 3 w1 (.inr ⟨by omega, rfl⟩) (by omega) hr1 rfl hc1 hm1 (by omega) (fun t h => by rw [H3.out] at h; injection h with h; omega)
  rw [H3.out, HX.out] at hD
  have HD : Hid (Calls Try.prog 12 #[.slice A1 4 c1, .int .i64 3] w1 fun e w' => (∃ v, e = .returned (.tuple #[v, .int .i64 0]) ∧ OB w' w1.heap.size v [5, 5, 7]) ∧ Below w1.heap.size w1 w') := hD
  have HO1 := Lib.hid ho; have HR1 := Lib.hid hr1; have HB1 := Lib.hid hb1; have HM1 := Lib.hid hm1
  clear hD HE ho hb hr1 hb1 HB0 hm1
  go_wp2_with fail
  (with_reducible refine HD.out.mono ?_)
  rintro e w2 ⟨⟨v2, rfl, ho2⟩, hb⟩
  obtain ⟨A2, c2, rfl, -, -, hr2⟩ := ho2.form_n 3 rfl
  have hb2 := HB1.out.trans (hb.mono HB1.out.size)
  have hrn := HR1.out.next hb
  have hD := dec_any A1 [4, 5, 2, 2] 4 c1 2 2 w2 (.inr ⟨by omega, rfl⟩) (by omega) hrn rfl hc1 HM1.out (by omega) (fun t h => by rw [H2.out] at h; cases h)
  rw [H2.out] at hD
  have HD2 : Hid (Calls Try.prog 12 #[.slice A1 4 c1, .int .i64 2] w2 fun e w' => e = .returned (.tuple #[.slice none 0 0, .int .i64 4]) ∧ Below w2.heap.size w2 w') := hD
  have HR2 := Lib.hid hr2; have HB2 := Lib.hid hb2; have HR3 := Lib.hid hrn
  clear hD HD ho2 hb hr2 hb2 hrn HB1 HR1 H3
  go_wp2_with fail
  (with_reducible refine HD2.out.mono ?_)
  rintro e w3 ⟨rfl, hb⟩
  have hb3 := HB2.out.trans (hb.mono HB2.out.size)
  have hr3 := HR3.out.next hb
  have hr4 := HR2.out.next hb
  have hD := dec_any (some ⟨w3.heap.size, 0, none⟩) [2] 1 1 9 9 (w3.alloc (.cells #[.int .u8 2] 5)) (.inr ⟨by omega, rfl⟩) (by omega) (rb_cells w3 [2] 5 _ (by rw [World.size_alloc]; omega)) rfl (Nat.le_refl _) (by unfold maxLen; omega) (by omega) (fun t h => by rw [dec2] at h; cases h)
  rw [dec2] at hD
  have HD3 : Hid (Calls Try.prog 12 #[.slice (some ⟨w3.heap.size, 0, none⟩) 1 1, .int .i64 9] (w3.alloc (.cells #[.int .u8 2] 5)) fun e w' => e = .returned (.tuple #[.slice none 0 0, .int .i64 1]) ∧ Below (w3.alloc (.cells #[.int .u8 2] 5)).heap.size (w3.alloc (.cells #[.int .u8 2] 5)) w') := hD
  have b34 := (Below.refl w3.heap.size w3).alloc (Nat.le_refl _) (.cells #[.int .u8 2] 5)
  have hb4 := hb3.trans (b34.mono hb3.size)
  have HR5 := Lib.hid (hr3.next b34); have HR6 := Lib.hid (hr4.next b34); have HB4 := Lib.hid hb4
  clear hD HD2 hb hb3 hr3 hr4 b34 hb4 HB2 HR2 HR3 H2 HO1
  go_wp2_with fail
  (with_reducible refine HD3.out.mono ?_)
  rintro e w4 ⟨rfl, hb⟩
  have hs1 : (convert 22 9 (.slice A1 4 c1)).run Try.prog w4 = .ok (.string ⟨#[4, 5, 2, 2]⟩) w4 := conv_rb (HR5.out.next hb) 4 c1 rfl
  have hs2 : (convert 22 9 (.slice A2 3 c2)).run Try.prog w4 = .ok (.string ⟨#[5, 5, 7]⟩) w4 := conv_rb (HR6.out.next hb) 3 c2 rfl
  have HB5 := Lib.hid (HB4.out.trans (hb.mono HB4.out.size))
  clear hb HB4 HR5 HR6
  go_wp2
  go_ret
  exact ⟨rfl, HB5.out⟩
end Go.Proofs.Ytifmohdfpfcikaa
