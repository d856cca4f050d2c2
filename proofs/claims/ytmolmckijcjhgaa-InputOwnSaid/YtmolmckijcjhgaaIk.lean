/- WALK of the law InputOwn. -/
import Derived.Test.YtmolmckijcjhgaaIh
import Derived.Laws.BitsLemmas
namespace Go.Proofs.Ytmolmckijcjhgaa
set_option maxRecDepth 100000
open Go.RowKit
set_option linter.unusedVariables false
set_option linter.unusedSimpArgs false

theorem grown_set (w : World) (a : Addr) (v : Value) : w.grownBy (w.setCell a v) (some a.block) :=
  ⟨rfl, rfl, rfl, by simp [World.setCell], fun k hk hne => Deep.blk_setCell_other _ _ _ _ (fun e => hne (by rw [e]))⟩
/-- a store elsewhere -/
theorem OB.other {w : World} {base : Nat} {v : Value} {l : List UInt8} (h : OB w base v l) (a : Addr) (u : Value) (hne : v.ownBlock ≠ some a.block) : OB (w.setCell a u) base v l :=
  World.ownsRow.kept h (grown_set w a u) (.inr hne)
theorem more_u8 (y : UInt8) : ∃ (D E : Nat), D = y.toNat ∧ E = (y + 1).toNat ∧ IntKind.u8.wrap ((D : Int) + 1) = (E : Int) ∧ ((D : Int) + 1) % 256 = (E : Int) ∧ D ≤ 255 ∧ E ≤ 255 := by
  have h1 := y.toNat_lt
  have h2 := (y + 1).toNat_lt
  have e : (y + 1).toNat = (y.toNat + 1) % 256 := by rw [UInt8.toNat_add]; rfl
  exact ⟨_, _, rfl, rfl, by rw [IntKind.wrap_u8, e]; omega, by rw [e]; omega, by omega, by omega⟩
theorem less_u8 (y : UInt8) : ∃ (D E : Nat), D = y.toNat ∧ E = (y - 1).toNat ∧ IntKind.u8.wrap ((D : Int) - 1) = (E : Int) ∧ ((D : Int) - 1) % 256 = (E : Int) ∧ D ≤ 255 ∧ E ≤ 255 := by
  have h1 := y.toNat_lt
  have h2 := (y - 1).toNat_lt
  have e : (y - 1).toNat = (256 - 1 + y.toNat) % 256 := by rw [UInt8.toNat_sub]; rfl
  exact ⟨_, _, rfl, rfl, by rw [IntKind.wrap_u8, e]; omega, by rw [e]; omega, by omega, by omega⟩
set_option maxHeartbeats 4000000 in
theorem own_law (A0 : Option Addr) (l0 : List UInt8) (cap0 : Nat) (w : World) (h0 : RB w w.heap.size A0 l0) (k0 : l0.length ≤ cap0) (m0 : cap0 ≤ maxLen) :
    Calls Try.prog 4 #[.slice A0 l0.length cap0] w fun e w' => e = .returned (.bool true) ∧ Below w.heap.size w w' := by
  have HG := Lib.hid (begun13_any w)
  obtain ⟨y, hy⟩ : ∃ y, l0.take 40 = y := ⟨_, rfl⟩
  obtain ⟨Y, hY⟩ : ∃ Y, y.length = Y := ⟨_, rfl⟩
  have hX40 : Y ≤ 40 ∧ Y ≤ cap0 := by rw [← hy, List.length_take] at hY; omega
  obtain ⟨hY40, hYc⟩ := hX40
  have HS0 := Lib.hid (fun W => short_n A0 l0 l0.length cap0 40 W rfl (by omega) k0 m0 Y (by rw [hy, hY]) 40 rfl)
  have R0 : RB w w.heap.size A0 y := by rw [← hy]; exact h0.take 40
  have H0 := Lib.hid R0; have HY := Lib.hid hY
  have M0 := Lib.hid m0
  obtain ⟨n0, hn0⟩ : ∃ n0, l0.length = n0 := ⟨_, rfl⟩
  rw [hn0] at HS0 k0 ⊢
  clear h0 hy hY R0 hn0
  unfold maxLen at m0
  go_enter Try.func4, Try.ntmps4
  go_wp2_with fail
  (with_reducible refine HG.out.mono ?_)
  rintro e w3 ⟨rfl, hb3⟩
  have HB3 := Lib.hid hb3
  obtain ⟨s, hs⟩ : ∃ s, str y = s := ⟨_, rfl⟩
  have HSS := Lib.hid hs; clear hs
  have HLN := Lib.hid (show ([] : List UInt8).length + y.length ≤ 140737488355328 by have := HY.out; simp; omega)
  clear HG hb3
  go_wp2_with (first
    | (go_at_call 13; with_reducible refine (HS0.out _).mono ?_; rintro e w4 ⟨rfl, rfl⟩)
    | (at_builtin; refine wpList_append_bytes rfl (.const (.slice none 0 0)) (.tmp 15) rfl w3.heap.size (.slice none 0 0) [] y rfl (OB.nil _ _) w.heap.size A0 cap0 (by rw [HY.out]; rfl) (H0.out.below HB3.out) HLN.out (Nat.le_refl _) ?_; intro v1 w4 ho hg hv; rw [List.nil_append] at ho; obtain ⟨A1, c1, rfl, hc1, hm1, -⟩ := ho.form_n Y HY.out; have q1 : (convert 28 9 (.slice A1 Y c1)).run Try.prog w4 = .ok (.string s) w4 := (by rw [← HSS.out]; exact conv_own ho HY.out); have HO := Lib.hid ho; have HB4 := Lib.hid (show Below w.heap.size w w4 from HB3.out.grown hg HB3.out.size (by simp [Value.ownBlock])); clear ho hg hv))
  have HN := Lib.hid (new_0 w4)
  clear HS0 HLN H0
  (with_reducible refine HN.out.mono ?_)
  rintro e w5 ⟨rfl, hm, hb⟩
  have ho5 := HO.out.below hb (Nat.le_refl _)
  have HL1 : Hid (Low (.slice A1 Y c1) w4.heap.size) := Lib.hid HO.out.low
  have hb5 := HB4.out.trans (hb.mono HB4.out.size)
  have HP := Lib.hid (put_first w5 w4.heap.size y A1 c1 w5.heap.size Y HY.out hm ho5.cells hc1 hm1 (by omega))
  have HO5 := Lib.hid (ho5.less HB3.out.size)
  have HB5 := Lib.hid hb5
  have HG4 := Lib.hid HB4.out.size
  have HNE1 : Hid ((Value.slice A1 Y c1).ownBlock ≠ some w4.heap.size) := fun e => by have := HL1.out _ e; omega
  clear hm hb ho5 hb5 HN HO HB4 q1
  go_wp2_with fail
  (with_reducible refine HP.out.mono ?_)
  rintro e w6 ⟨rfl, hm, hg⟩
  have HO6 := Lib.hid (show OB w6 w.heap.size (.slice A1 Y c1) y from World.ownsRow.kept HO5.out hg (.inr HNE1.out))
  have HB6 := Lib.hid (below_own HB5.out hg HG4.out)
  have HM6 := Lib.hid hm
  unfold maxLen at hm1
  clear hm hg HP HO5 HB5 HB3
  go_wp2_with fail
  go_loopw [6] (fun i wr => ∃ (k : Nat) (l1 : List UInt8), i = .int .i64 k ∧ k ≤ Y ∧ Hid (l1.length = Y) ∧ Hid (OB wr w.heap.size (.slice A1 Y c1) l1) ∧ Hid (LM wr w4.heap.size Y y) ∧ Hid (Below w.heap.size w wr)) (fun i _ => Y - (intOf i).toNat)
  case atStart => exact ⟨0, y, rfl, by omega, HY, HO6, HM6, HB6⟩
  case round =>
    clear HO6 HM6 HB6
    obtain ⟨k, l1, rfl, hk, HLL, HOW, HMW, HBW⟩ := hrel
    by_cases hlt : k < Y
    · obtain ⟨g, cg, hv, hgb, -, -⟩ := HOW.out.some_ (by rw [HLL.out]; omega)
      injection hv with hA hn hc
      subst hA
      have hlt' : (k : Int) < (Y : Int) := by omega
      have hcell := HOW.out.cell_at HLL.out k (by rw [HLL.out]; exact hlt)
      have hfr := HOW.out.frozen_at HLL.out k
      obtain ⟨D, E, hD, hE, e1, e2, e3, e4⟩ := more_u8 (l1[k]'(by rw [HLL.out]; exact hlt))
      have hset := HOW.out.set HLL.out k (l1[k]'(by rw [HLL.out]; exact hlt) + 1)
      have HLS : Hid ((l1.set k (l1[k]'(by rw [HLL.out]; exact hlt) + 1)).length = Y) := by unfold Hid; rw [List.length_set, HLL.out]
      have hmo := HMW.out.other ⟨g, k, none⟩ (vb (l1[k]'(by rw [HLL.out]; exact hlt) + 1)) (fun e => HNE1.out (by rw [e]; rfl))
      have hbo := HBW.out.setCell (p := ⟨g, k, none⟩) (show w.heap.size ≤ g by exact hgb) (vb (l1[k]'(by rw [HLL.out]; exact hlt) + 1))
      unfold vb at hcell hset hmo hbo
      rw [← hD] at hcell
      rw [← hE] at hset hmo hbo
      have HST := Lib.hid hset; have HMO := Lib.hid hmo; have HBO := Lib.hid hbo
      have HGB := Lib.hid hgb
      clear hD hE hset hmo hbo hn hc hgb
      go_wp2_with fail
      go_roundw
      case rel => exact ⟨k + 1, _, by go_num, by omega, HLS, HST, HMO, HBO⟩
      case measure => simp [intOf]; omega
    obtain rfl : Y = k := by omega
    clear hlt hk
    have HAL := Lib.hid (all_any wr w4.heap.size Y y HMW.out HY.out (by omega))
    have HS0 := Lib.hid HBW.out.size
    clear HLL HOW
    go_wp2_with fail
    (with_reducible refine HAL.out.mono ?_)
    rintro e w7 ⟨v, rfl, ho, hb⟩
    obtain ⟨A2, c2, rfl, hc2, hm2, -⟩ := ho.form_n Y HY.out
    have HM7 := Lib.hid (HMW.out.then_ hb)
    have HFR := Lib.hid (from_any w7 w4.heap.size Y y HM7.out HY.out (by omega) 0 50 0 50 rfl rfl (by omega))
    rw [List.drop_zero, List.take_of_length_le (by rw [HY.out]; omega)] at HFR
    have HO7 := Lib.hid (ho.less (b' := w4.heap.size + 1) HMW.out.lt)
    have HL2 : Hid (Low (.slice A2 Y c2) w7.heap.size) := Lib.hid HO7.out.low
    have HB7 := Lib.hid (HBW.out.trans (hb.mono HBW.out.size))
    clear ho hb HAL HMW HBW HNE1 HL1
    go_wp2_with fail
    (with_reducible refine HFR.out.mono ?_)
    rintro e w8 ⟨v, rfl, ho, hb⟩
    obtain ⟨A3, c3, rfl, hc3, hm3, -⟩ := ho.form_n Y HY.out
    have HM8 := Lib.hid (HM7.out.then_ hb)
    have HO8 := Lib.hid (HO7.out.below hb (Nat.le_refl _))
    have HQ8 := Lib.hid ho
    have HB8 := Lib.hid (HB7.out.trans (hb.mono HB7.out.size))
    have HNE2 : Hid ((Value.slice A2 Y c2).ownBlock ≠ some w4.heap.size) := fun e => by have := HO7.out.ge _ e; omega
    have HNE3 : Hid ((Value.slice A3 Y c3).ownBlock ≠ some w4.heap.size) := fun e => by have := HQ8.out.ge _ e; have := HM7.out.lt; omega
    have HWL := Lib.hid HM7.out.lt
    unfold maxLen at hm2 hm3
    clear ho hb HM7 HO7 HB7 HFR
    go_wp2_with fail
    go_loopw [9] (fun i wr => ∃ (k : Nat) (l1 : List UInt8), i = .int .i64 k ∧ k ≤ Y ∧ Hid (l1.length = Y) ∧ Hid (OB wr (w4.heap.size + 1) (.slice A2 Y c2) l1) ∧ Hid (LM wr w4.heap.size Y y) ∧ Hid (OB wr w7.heap.size (.slice A3 Y c3) y) ∧ Hid (Below w.heap.size w wr)) (fun i _ => Y - (intOf i).toNat)
    case atStart => exact ⟨0, y, rfl, by omega, HY, HO8, HM8, HQ8, HB8⟩
    case round =>
      clear HO8 HM8 HQ8 HB8
      obtain ⟨k, l1, rfl, hk, HLL, HOW, HMW, HQW, HBW⟩ := hrel
      by_cases hlt : k < Y
      · obtain ⟨g, cg, hv, hgb, -, -⟩ := HOW.out.some_ (by rw [HLL.out]; omega)
        injection hv with hA hn hc
        subst hA
        have hlt' : (k : Int) < (Y : Int) := by omega
        have hcell := HOW.out.cell_at HLL.out k (by rw [HLL.out]; exact hlt)
        have hfr := HOW.out.frozen_at HLL.out k
        obtain ⟨D, E, hD, hE, e1, e2, e3, e4⟩ := more_u8 (l1[k]'(by rw [HLL.out]; exact hlt))
        have hset := HOW.out.set HLL.out k (l1[k]'(by rw [HLL.out]; exact hlt) + 1)
        have HLS : Hid ((l1.set k (l1[k]'(by rw [HLL.out]; exact hlt) + 1)).length = Y) := by unfold Hid; rw [List.length_set, HLL.out]
        have hmo := HMW.out.other ⟨g, k, none⟩ (vb (l1[k]'(by rw [HLL.out]; exact hlt) + 1)) (fun e => HNE2.out (by rw [e]; rfl))
        have hqo := HQW.out.other ⟨g, k, none⟩ (vb (l1[k]'(by rw [HLL.out]; exact hlt) + 1)) (fun e => by have h1 := HQW.out.ge _ e; have h2 := HL2.out g rfl; exact absurd (Nat.lt_of_lt_of_le h2 h1) (Nat.lt_irrefl _))
        have hbo := HBW.out.setCell (p := ⟨g, k, none⟩) (show w.heap.size ≤ g by have := HG4.out; omega) (vb (l1[k]'(by rw [HLL.out]; exact hlt) + 1))
        unfold vb at hcell hset hmo hbo hqo
        rw [← hD] at hcell
        rw [← hE] at hset hmo hbo hqo
        have HST := Lib.hid hset; have HMO := Lib.hid hmo; have HBO := Lib.hid hbo; have HQO := Lib.hid hqo
        have HGB := Lib.hid hgb
        clear hD hE hset hmo hbo hn hc hgb hqo
        go_wp2_with fail
        go_roundw
        case rel => exact ⟨k + 1, _, by go_num, by omega, HLS, HST, HMO, HQO, HBO⟩
        case measure => simp [intOf]; omega
      obtain rfl : Y = k := by omega
      clear hlt hk
      clear HLL HOW HL2 HNE2
      go_wp2_with fail
      go_loopw [10] (fun i wr => ∃ (k : Nat) (l1 : List UInt8), i = .int .i64 k ∧ k ≤ Y ∧ Hid (l1.length = Y) ∧ Hid (OB wr w7.heap.size (.slice A3 Y c3) l1) ∧ Hid (LM wr w4.heap.size Y y) ∧ Hid (Below w.heap.size w wr)) (fun i _ => Y - (intOf i).toNat)
      case atStart => exact ⟨0, y, rfl, by omega, HY, HQW, HMW, HBW⟩
      case round =>
        clear HQW HMW HBW
        obtain ⟨k, l1, rfl, hk, HLL, HOW, HMW, HBW⟩ := hrel
        by_cases hlt : k < Y
        · obtain ⟨g, cg, hv, hgb, -, -⟩ := HOW.out.some_ (by rw [HLL.out]; omega)
          injection hv with hA hn hc
          subst hA
          have hlt' : (k : Int) < (Y : Int) := by omega
          have hcell := HOW.out.cell_at HLL.out k (by rw [HLL.out]; exact hlt)
          have hfr := HOW.out.frozen_at HLL.out k
          obtain ⟨D, E, hD, hE, e1, e2, e3, e4⟩ := less_u8 (l1[k]'(by rw [HLL.out]; exact hlt))
          have hset := HOW.out.set HLL.out k (l1[k]'(by rw [HLL.out]; exact hlt) - 1)
          have HLS : Hid ((l1.set k (l1[k]'(by rw [HLL.out]; exact hlt) - 1)).length = Y) := by unfold Hid; rw [List.length_set, HLL.out]
          have hmo := HMW.out.other ⟨g, k, none⟩ (vb (l1[k]'(by rw [HLL.out]; exact hlt) - 1)) (fun e => HNE3.out (by rw [e]; rfl))
          have hbo := HBW.out.setCell (p := ⟨g, k, none⟩) (show w.heap.size ≤ g by have := HG4.out; have := HWL.out; omega) (vb (l1[k]'(by rw [HLL.out]; exact hlt) - 1))
          unfold vb at hcell hset hmo hbo
          rw [← hD] at hcell
          rw [← hE] at hset hmo hbo
          have HST := Lib.hid hset; have HMO := Lib.hid hmo; have HBO := Lib.hid hbo
          have HGB := Lib.hid hgb
          clear hD hE hset hmo hbo hn hc hgb
          go_wp2_with fail
          go_roundw
          case rel => exact ⟨k + 1, _, by go_num, by omega, HLS, HST, HMO, HBO⟩
          case measure => simp [intOf]; omega
        obtain rfl : Y = k := by omega
        clear hlt hk
        have HAL := Lib.hid (all_any wr w4.heap.size Y y HMW.out HY.out (by omega))
        clear HLL HOW
        go_wp2_with fail
        (with_reducible refine HAL.out.mono ?_)
        rintro e w9 ⟨v, rfl, ho, hb⟩
        obtain ⟨A4, c4, rfl, hc4, hm4, -⟩ := ho.form_n Y HY.out
        have q2 : (convert 28 9 (.slice A4 Y c4)).run Try.prog w9 = .ok (.string s) w9 := by rw [← HSS.out]; exact conv_own ho HY.out
        have HB9 := Lib.hid (HBW.out.trans (hb.mono HBW.out.size))
        clear ho hb HAL HMW HBW
        go_wp2_with fail
        go_ret
        exact ⟨rfl, HB9.out⟩
end Go.Proofs.Ytmolmckijcjhgaa
