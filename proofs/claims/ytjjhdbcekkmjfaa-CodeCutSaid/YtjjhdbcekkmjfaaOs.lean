/- WALK of the law CodeCut. -/
import Derived.Test.YtjjhdbcekkmjfaaOr
namespace Go.Proofs.Ytjjhdbcekkmjfaa
open Go.RowKit
set_option linter.unusedVariables false
attribute [local go_sem ↓] Go.wp_at_zero Go.wp_at_succ

theorem OB.form_n {w : World} {base : Nat} {v : Value} {l : List UInt8} (h : OB w base v l) (n : Nat) (hn : l.length = n) : ∃ A cap, v = .slice A n cap ∧ n ≤ cap ∧ cap ≤ maxLen ∧ RB w w.heap.size A l := by
  subst hn
  exact h.form _ rfl
theorem unpack_no {l : List UInt8} (h : progN titL l = none) (n : Nat) (hn : l.length = n) (A : Option Addr) (c B : Nat) (w : World) (hr : RB w B A l) (hB : B ≤ w.heap.size) (hc : n ≤ c) (hm : c ≤ maxLen) :
    Calls Try.prog 13 #[.slice A n c] w fun e w' => e = .returned (.tuple #[.agg #[.string ⟨#[]⟩, .slice none 0 0], .int .i64 1]) ∧ Below w.heap.size w w' := by
  subst hn
  refine (unpack_any A l c B w hr hB hc hm).mono ?_
  intro e w' hd
  unfold Decoded at hd
  rw [h] at hd
  exact hd
/-- what a program's bytes begin with, and are not, is none; what begins with them, and is not them, neither -/
theorem prog_short {u : ByteArray} {y : List O4} (hne : encB u y ≠ []) (hu : u.size ≤ 40) (m : Nat) (hm : m < (encB u y).length) : progN titL ((encB u y).take m) = none := by
  have hf := encB_fits hne
  have f2 := (fitsB_iff _ _).1 hf
  have e : encB u y = encP u.data.toList y := by unfold encB; rw [if_pos hf]
  have s1 : u.data.toList.length = u.size := rfl
  cases hp : progN titL ((encB u y).take m) with
  | none => rfl
  | some q =>
    obtain ⟨t', os'⟩ := q
    obtain ⟨g1, g2, g3⟩ := progN_got hp
    have k2 := (fitsB_iff _ _).1 g2
    have hh := List.take_append_drop m (encB u y)
    rw [g1, e] at hh
    obtain ⟨_, _, h3⟩ := encP_apart t' u.data.toList os' y ((encP u.data.toList y).drop m) [] (by omega) (by omega) (by omega) (by omega) k2.2.2.2 f2.2.2.2 (by rw [List.append_nil]; exact hh)
    have hl := congrArg List.length h3
    rw [List.length_drop] at hl
    rw [e] at hm
    simp at hl
    omega
theorem prog_long {u : ByteArray} {y : List O4} (hne : encB u y ≠ []) (hu : u.size ≤ 40) (more : List UInt8) (hm : more ≠ []) : progN titL (encB u y ++ more) = none := by
  have hf := encB_fits hne
  have f2 := (fitsB_iff _ _).1 hf
  have e : encB u y = encP u.data.toList y := by unfold encB; rw [if_pos hf]
  have s1 : u.data.toList.length = u.size := rfl
  cases hp : progN titL (encB u y ++ more) with
  | none => rfl
  | some q =>
    obtain ⟨t', os'⟩ := q
    obtain ⟨g1, g2, g3⟩ := progN_got hp
    have k2 := (fitsB_iff _ _).1 g2
    rw [e] at g1
    obtain ⟨_, _, h3⟩ := encP_apart u.data.toList t' y os' more [] (by omega) (by omega) (by omega) (by omega) f2.2.2.2 k2.2.2.2 (by rw [List.append_nil]; exact g1)
    exact absurd h3 hm
theorem encB_small {u : ByteArray} {y : List O4} (hu : u.size ≤ 40) : (encB u y).length ≤ 2700 := by
  by_cases h : fitsB (titB u) y = true
  · have f2 := (fitsB_iff _ _).1 h
    have e : encB u y = encP u.data.toList y := by unfold encB; rw [if_pos h]
    have s1 : u.data.toList.length = u.size := rfl
    have := encP_len u.data.toList y (by omega) (by omega) f2.2.2.2
    rw [e]; omega
  · unfold encB; rw [if_neg h]; simp
set_option maxHeartbeats 4000000 in
theorem cut_law (t : ByteArray) (A : Option Addr) (x : List O4) (c : Nat) (cut : Int) (M : Option Addr) (lm : List UInt8) (cm : Nat) (w : World) (h1 : RO w w.heap.size A x) (k1 : x.length ≤ c) (m1 : c ≤ maxLen) (n1 : -9223372036854775808 ≤ cut) (n2 : cut ≤ 9223372036854775807)
    (h2 : RB w w.heap.size M lm) (k2 : lm.length ≤ cm) (m2 : cm ≤ maxLen) (hreach : lm.length ≤ 140737488351232) :
    Calls Try.prog 7 #[progV t A x.length c, .int .i64 cut, .slice M lm.length cm] w fun e w' => e = .returned (.bool true) ∧ Below w.heap.size w w' := by
  have H1 := Lib.hid h1; have H2 := Lib.hid h2; clear h1 h2
  unfold progV
  have b0 : Below w.heap.size w (w.alloc (.cells #[.string t, .slice A x.length c] 24)) := (Below.refl _ _).alloc (Nat.le_refl _) _
  have h30 : Hid ((30 : Int) = ((30 : Nat) : Int)) := by unfold Hid; omega
  have C1 := fun W => lcut_named t A x c 30 30 h30 W (by omega) (by omega) k1 m1
  have HC1 := Lib.hid C1; clear C1
  have N1 := Lib.hid n1; have N2 := Lib.hid n2; clear n1 n2
  have HM := Lib.hid hreach; clear hreach
  have K2 := Lib.hid k2; have M2 := Lib.hid m2; clear k2 m2
  go_enter Try.func7, Try.ntmps7
  go_wp2_with fail
  refine (begun_any _).mono ?_
  rintro e w1 ⟨rfl, hb1⟩
  obtain ⟨hc0, hc1, hf0, hf1⟩ := two_cells hb1 (by simp)
  have hb2 := b0.trans (hb1.mono (by simp))
  have hs1 := hb1.size
  rw [World.size_alloc] at hs1
  clear hb1 b0
  go_wp2_with fail
  refine (HC1.out _).mono ?_
  rintro e w2 ⟨u, y, hu, hy, rfl, hb3⟩
  have d0 := (hb3.cell (p := ⟨w.heap.size, 0, none⟩) (show w.heap.size < _ by omega)).trans hc0
  have d1 := (hb3.cell (p := ⟨w.heap.size, 1, none⟩) (show w.heap.size < _ by omega)).trans hc1
  have e0 := (hb3.frozen (p := ⟨w.heap.size, 0, none⟩) (show w.heap.size < _ by omega)).trans hf0
  have e1 := (hb3.frozen (p := ⟨w.heap.size, 1, none⟩) (show w.heap.size < _ by omega)).trans hf1
  have hb4 := hb2.trans (hb3.mono hb2.size)
  have hs2 := Nat.le_trans hs1 hb3.size
  clear hc0 hc1 hf0 hf1 hb2 hb3
  obtain ⟨s0, s1, sb, sz⟩ := stored2 (u := .string u) (v := .slice A y.length c) d0 d1 w.heap.size (Nat.le_refl _)
  have hbW := hb4.trans sb
  have hyl : y.length ≤ c := by rw [hy.out, List.length_take]; omega
  have hut : u.size ≤ 40 := by rw [hu.out]; exact cutT_size _
  have R0 := Lib.hid (show RO ((w2.setCell ⟨w.heap.size, 0, none⟩ (.string u)).setCell ⟨w.heap.size, 1, none⟩ (.slice A y.length c)) w.heap.size A y by have r0 := (H1.out.below hbW).take 30; rw [← hy.out] at r0; exact r0)
  have HE := Lib.hid (refencode_any u A y c w.heap.size ((w2.setCell ⟨w.heap.size, 0, none⟩ (.string u)).setCell ⟨w.heap.size, 1, none⟩ (.slice A y.length c)) R0.out (by rw [sz]; omega) hyl m1 (by omega))
  have SZ := Lib.hid sz
  clear s0 s1 sz sb HC1 hb4 H1
  unfold progV at HE
  go_wp2_with fail
  (with_reducible refine HE.out.mono ?_)
  rintro e w4 ⟨v, rfl, ho, hb5⟩
  obtain ⟨l, hl⟩ : ∃ l, encB u y = l := ⟨_, rfl⟩
  rw [hl] at ho
  obtain ⟨A4, c4, rfl, hc4, hm4, hr4⟩ := ho.form _ rfl
  have hb6 := hbW.trans (hb5.mono (by have := SZ.out; omega))
  have hsm := encB_small (u := u) (y := y) hut
  rw [hl] at hsm
  have HS := Lib.hid hsm
  have HO := Lib.hid ho; have HL := Lib.hid hl
  have HR4 := Lib.hid hr4
  have RM := Lib.hid (H2.out.below hb6)
  clear ho hl hr4 hb5 R0 hbW SZ HE d0 d1 e0 e1 hsm H2
  by_cases z1 : l = []
  · subst z1
    go_wp2_with fail
    go_ret
    exact ⟨rfl, hb6⟩
  have q1 : ((l.length : Int) == 0) = false := by simp; exact z1
  have Z1 := Lib.hid z1; clear z1
  by_cases z2 : cut < 1
  · go_wp2_with fail
    go_ret
    exact ⟨rfl, hb6⟩
  by_cases z3 : (l.length : Int) < cut
  · go_wp2_with fail
    go_ret
    exact ⟨rfl, hb6⟩
  by_cases z4 : lm = []
  · subst z4
    go_wp2_with fail
    go_ret
    exact ⟨rfl, hb6⟩
  have q4 : ((lm.length : Int) == 0) = false := by simp; exact z4
  have Z4 := Lib.hid z4; clear z4
  obtain ⟨k, rfl⟩ : ∃ k : Nat, cut = k := ⟨cut.toNat, by omega⟩
  obtain ⟨m, hmm⟩ : ∃ m : Nat, l.length - k = m := ⟨_, rfl⟩
  have hsub : (l.length : Int) - (k : Int) = (m : Int) := by omega
  have hml : m < l.length := by omega
  have hlt : (l.take m).length = m := by rw [List.length_take]; omega
  have P1 := Lib.hid (show progN titL (l.take m) = none by
    have := prog_short (u := u) (y := y) (by rw [HL.out]; exact Z1.out) hut m (by rw [HL.out]; exact hml)
    rw [HL.out] at this; exact this)
  have P2 := Lib.hid (show progN titL (l ++ lm) = none by
    have := prog_long (u := u) (y := y) (by rw [HL.out]; exact Z1.out) hut lm Z4.out
    rw [HL.out] at this; exact this)
  have HD := Lib.hid (unpack_no P1.out m hlt A4 c4 w4.heap.size w4 (HR4.out.take m) (Nat.le_refl _) (by omega) hm4)
  have hm0 : (0 : Int) ≤ (m : Int) := by omega
  have hm5 : (m : Int) ≤ (c4 : Int) := by omega
  have HML := Lib.hid hml
  have hm4' := hm4
  unfold maxLen at hm4'
  clear hlt hmm
  go_wp2_with fail
  (with_reducible refine HD.out.mono ?_)
  rintro e w5 ⟨rfl, hb7⟩
  have bq : Below w5.heap.size w5 (w5.alloc (.cells #[.string ⟨#[]⟩, .slice none 0 0] 24)) := (Below.refl _ _).alloc (Nat.le_refl _) _
  have hs5 := hb7.size
  have hb8 : Below w4.heap.size w4 (w5.alloc (.cells #[.string ⟨#[]⟩, .slice none 0 0] 24)) := hb7.trans (bq.mono hb7.size)
  have rq4 := HR4.out.below hb8
  have rqM := RM.out.below (hb8.mono hb6.size)
  have x1 : (w5.alloc (.cells #[.string ⟨#[]⟩, .slice none 0 0] 24)).cell? ⟨w5.heap.size, 1, none⟩ = some (.slice none 0 0) := by simp
  have X1 := Lib.hid x1
  have hsq : (w5.alloc (.cells #[.string ⟨#[]⟩, .slice none 0 0] 24)).heap.size = w5.heap.size + 1 := by simp
  have HSQ := Lib.hid hsq
  have hl0 : ([] : List UInt8).length + l.length ≤ 140737488355328 := by have := HS.out; simp; omega
  have hl1 : l.length + lm.length ≤ 140737488355328 := by have := HS.out; have := HM.out; omega
  obtain ⟨N, hN⟩ : ∃ N, (l ++ lm).length = N := ⟨_, rfl⟩
  have L0 := Lib.hid hl0; have L1 := Lib.hid hl1; have HN := Lib.hid hN
  have HB8 := Lib.hid hb8
  clear hl0 hl1 hN x1 hsq hsub hm0 hm5 hb7 bq q4 q1 hm4'
  go_wp2_with (first
    | (at_builtin; refine wpList_append_bytes rfl (.const (.slice none 0 0)) (.tmp 49) rfl (w5.alloc (.cells #[.string ⟨#[]⟩, .slice none 0 0] 24)).heap.size (.slice none 0 0) [] l rfl (OB.nil _ _) w4.heap.size A4 c4 rfl rq4 L0.out (Nat.le_refl _) ?_; intro v7 w7 o7 g7 e7; rw [List.nil_append] at o7; have bq7 : Below (w5.alloc (.cells #[.string ⟨#[]⟩, .slice none 0 0] 24)).heap.size (w5.alloc (.cells #[.string ⟨#[]⟩, .slice none 0 0] 24)) w7 := (Below.refl _ _).grown g7 (Nat.le_refl _) (by simp [Value.ownBlock]); have rM7 := rqM.below (bq7.mono (by rw [HSQ.out]; have := hb6.size; omega)); have hs7 := bq7.size; have HO7 := Lib.hid o7; clear o7 g7 e7)
    | (at_builtin; refine wpList_append_bytes rfl (.tmp 50) (.tmp 51) rfl (w5.alloc (.cells #[.string ⟨#[]⟩, .slice none 0 0] 24)).heap.size v7 l lm rfl HO7.out w.heap.size M cm rfl rM7 L1.out hs7 ?_; intro v8 w8 o8 g8 e8; have bq8 : Below (w5.alloc (.cells #[.string ⟨#[]⟩, .slice none 0 0] 24)).heap.size (w5.alloc (.cells #[.string ⟨#[]⟩, .slice none 0 0] 24)) w8 := bq7.grown g8 hs7 HO7.out.ge; obtain ⟨A8, c8, rfl, hc8, hm8, hr8⟩ := o8.form_n N HN.out; have HR8 := Lib.hid hr8; clear o8 g8 e8 hr8)
    | (go_at_call 13; refine (unpack_no P2.out N HN.out A8 c8 w8.heap.size w8 HR8.out (Nat.le_refl _) hc8 hm8).mono ?_; rintro e w9 ⟨rfl, hb9⟩; have bq9 := bq8.trans (hb9.mono bq8.size); have y1 := (bq9.cell (p := ⟨w5.heap.size, 1, none⟩) (by rw [HSQ.out]; show w5.heap.size < _; omega)).trans X1.out; have hs9 := bq9.size; rw [HSQ.out] at hs9; have bz := (Below.refl w9.heap.size w9).alloc (Nat.le_refl _) (.cells #[.string ⟨#[]⟩, .slice none 0 0] 24); have y2 := (bz.cell (p := ⟨w5.heap.size, 1, none⟩) (show w5.heap.size < _ by omega)).trans y1; clear bz))
  go_ret
  have hz : Below w.heap.size w w9 := hb6.trans ((HB8.out.trans (bq9.mono HB8.out.size)).mono hb6.size)
  exact ⟨rfl, hz.alloc hz.size _⟩
end Go.Proofs.Ytjjhdbcekkmjfaa
