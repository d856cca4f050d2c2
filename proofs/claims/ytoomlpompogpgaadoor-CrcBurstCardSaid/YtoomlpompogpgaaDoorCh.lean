/- WALK: quintainlaw3.CrcBurst. -/
import Derived.Test.YtoomlpompogpgaaDoorCg
namespace Go.Proofs.YtoomlpompogpgaaDoor
open Go.RowKit
set_option linter.unusedVariables false

/-- is there a byte that is no nought? -/
def an (l : List UInt8) : Bool := l.any (fun b => decide (b ≠ 0))
theorem an_succ (l : List UInt8) (k : Nat) (h : k < l.length) : an (l.take (k + 1)) = (an (l.take k) || decide (l[k] ≠ 0)) := by
  unfold an; rw [List.take_succ_eq_append_getElem h, List.any_append]; simp
theorem an_some {l : List UInt8} (h : an l = true) : ∃ b ∈ l, b ≠ 0 := by
  unfold an at h; rw [List.any_eq_true] at h
  obtain ⟨b, hb, hd⟩ := h
  exact ⟨b, hb, of_decide_eq_true hd⟩
/-- c is l, of which from a on k bytes are changed by x -/
def DoneB (l x c : List UInt8) (a k : Nat) : Prop := c.length = l.length ∧ ∀ j, c[j]? = if a ≤ j ∧ j < a + k then some (l.getD j 0 ^^^ x.getD (j - a) 0) else l[j]?
theorem DoneB.zero (l x : List UInt8) (a : Nat) : DoneB l x l a 0 := ⟨rfl, fun j => by rw [if_neg (by omega)]⟩
theorem DoneB.next {l x c : List UInt8} {a k : Nat} (h : DoneB l x c a k) (ha : a + k < l.length) : c[a + k]? = some l[a + k] := by
  rw [h.2, if_neg (by omega), List.getElem?_eq_getElem ha]
theorem DoneB.step {l x c : List UInt8} {a k : Nat} (h : DoneB l x c a k) (ha : a + k < l.length) (hx : k < x.length) {y : UInt8} (hy : y = l[a + k] ^^^ x[k]) : DoneB l x (c.set (a + k) y) a (k + 1) := by
  refine ⟨by rw [List.length_set]; exact h.1, fun j => ?_⟩
  by_cases e : j = a + k
  · subst e
    rw [List.getElem?_set_self (by rw [h.1]; exact ha), if_pos (by omega), hy]
    simp [List.getD, ha, hx]
  · rw [List.getElem?_set_ne (by omega), h.2]
    by_cases h1 : a ≤ j ∧ j < a + k
    · rw [if_pos h1, if_pos (by omega)]
    · rw [if_neg h1, if_neg (by omega)]
theorem DoneB.all {l x c : List UInt8} {a : Nat} (h : DoneB l x c a x.length) (ha : a + x.length ≤ l.length) (h4 : x.length ≤ 4) (hx : ∃ b ∈ x, b ≠ 0) : sumL l ≠ sumL c := by
  have hs : ((l.drop a).take x.length).length = x.length := by rw [List.length_take, List.length_drop]; omega
  have e1 : l = l.take a ++ (l.drop a).take x.length ++ l.drop (a + x.length) := by
    rw [List.append_assoc, ← List.drop_drop, List.take_append_drop, List.take_append_drop]
  have e2 : c = l.take a ++ zipX ((l.drop a).take x.length) x ++ l.drop (a + x.length) := by
    apply List.ext_getElem?
    intro j
    rw [h.2]
    have hz : (zipX ((l.drop a).take x.length) x).length = x.length := by rw [zipX_length _ _ hs, hs]
    have hl1 : (l.take a).length = a := by rw [List.length_take]; omega
    by_cases h1 : j < a
    · rw [if_neg (by omega), List.append_assoc, List.getElem?_append_left (by omega), List.getElem?_take, if_pos h1]
    · by_cases h2 : j < a + x.length
      · rw [if_pos (by omega), List.getElem?_append_left (by rw [List.length_append]; omega), List.getElem?_append_right (by omega), hl1, zipX_zipWith]
        rw [List.getElem?_eq_getElem (by rw [List.length_zipWith]; omega), List.getElem_zipWith]
        simp [List.getD, show j < l.length by omega, show j - a < x.length by omega, show a + (j - a) = j by omega]
      · rw [if_neg (by omega), List.getElem?_append_right (by rw [List.length_append]; omega), List.length_append, hl1, hz, List.getElem?_drop]
        congr 1; omega
  intro e
  rw [e1, e2] at e
  exact sumL_burst _ _ _ _ hs h4 hx e

set_option maxRecDepth 100000 in
set_option maxHeartbeats 1000000 in
theorem crcburst_law (A1 A2 : Option Addr) (l1 l2 : List UInt8) (cap1 cap2 : Nat) (at0 : Int) (w : World) (hw : TabW w) (h1 : RB w w.heap.size A1 l1) (h2 : RB w w.heap.size A2 l2)
    (c1 : l1.length ≤ cap1) (c2 : l2.length ≤ cap2) (m1 : cap1 ≤ maxLen) (m2 : cap2 ≤ maxLen) (ha1 : -9223372036854775808 ≤ at0) (ha2 : at0 ≤ 9223372036854775807) :
    Calls Tryd.prog 4 #[.slice A1 l1.length cap1, .int .i64 at0, .slice A2 l2.length cap2] w fun e w' => e = .returned (.bool true) ∧ Below w.heap.size w w' := by
  go_enter Tryd.func4, Tryd.ntmps4
  go_wp2_with (first
    | (go_at_call 7; ((with_reducible refine (begun_any w hw).mono ?_); rintro e w1 ⟨rfl, hb1⟩))
    | (go_at_call 8; ((with_reducible refine (short_named A1 l1 cap1 200 200 rfl _ (by omega) c1 m1).mono ?_); rintro e w' ⟨b, HB, rfl, rfl⟩; have lb := take_le HB))
    | (go_at_call 8; ((with_reducible refine (short_named A2 l2 cap2 4 4 rfl _ (by omega) c2 m2).mono ?_); rintro e w' ⟨x, HX, rfl, rfl⟩; have lx := take_le HX)))
  have rb : RB w w.heap.size A1 b := by rw [HB.out]; exact h1.take _
  have rx : RB w w.heap.size A2 x := by rw [HX.out]; exact h2.take _
  clear HB HX h1 h2 c1 c2
  have rx1 := rx.below hb1
  go_loop [8, 9] (fun s i => ∃ k : Nat, i = .int .i64 k ∧ k ≤ x.length ∧ s = .bool (an (x.take k))) (fun _ i => x.length - (intOf i).toNat)
  case atStart => exact ⟨0, rfl, by omega, rfl⟩
  case round =>
    obtain ⟨k, rfl, hk, rfl⟩ := hrel
    by_cases hkx : k < x.length
    · obtain ⟨bb, off, rfl, _, hcell⟩ := rx1 (by omega)
      have hx := hcell k hkx
      have HA := Lib.hid (an_succ x k hkx)
      generalize x[k] = y at hx HA
      generalize an (x.take k) = s at HA ⊢
      clear hcell
      unfold vb at hx
      have hyl := y.toNat_lt
      cases s with
      | true =>
        go_wp2
        go_round
        case rel => exact ⟨k + 1, by go_num, by omega, by rw [HA.out]; rfl⟩
        case measure => simp [intOf]; omega
      | false =>
        by_cases hy : y = 0
        · have HY : Hid (an (x.take (k + 1)) = false) := by unfold Hid; rw [HA.out, hy]; rfl
          subst hy
          go_wp2
          go_round
          case rel => exact ⟨k + 1, by go_num, by omega, by rw [HY.out]⟩
          case measure => simp [intOf]; omega
        · have HY : Hid (an (x.take (k + 1)) = true) := by unfold Hid; rw [HA.out]; simp [hy]
          have hy1 : ((y.toNat : Int) == 0) = false := by
            rw [beq_eq_false_iff_ne]; intro h; exact hy (UInt8.toNat_inj.1 (by simpa using h))
          have hy2 : ((y.toNat : Int) != 0) = true := by rw [bne, hy1]; rfl
          clear hy
          go_wp2
          go_round
          case rel => exact ⟨k + 1, by go_num, by omega, by rw [HY.out]⟩
          case measure => simp [intOf]; omega
    · have HA : Hid (an x = an (x.take k)) := by unfold Hid; rw [List.take_of_length_le (by omega)]
      generalize an (x.take k) = s at HA ⊢
      by_cases hgood : 0 ≤ at0 ∧ at0 ≤ (b.length : Int) - x.length ∧ s = true
      · obtain ⟨g1, g2, rfl⟩ := hgood
        obtain ⟨a, rfl⟩ : ∃ a : Nat, at0 = (a : Int) := ⟨at0.toNat, by omega⟩
        have ha : a + x.length ≤ b.length := by omega
        have g3 : ¬ (a : Int) > (b.length : Int) - x.length := by omega
        have hsome := Lib.hid (an_some HA.out)
        have rb1 := rb.below hb1
        go_wp2_with (at_builtin; refine wpList_append_bytes rfl (.const (.slice none 0 0)) _ rfl w.heap.size (.slice none 0 0) [] b rfl (OB.nil _ _) w.heap.size A1 cap1 rfl rb1 (by simp; omega) hb1.size ?_; intro v1 w2 o1 g1 e1; have hb2 : Below w.heap.size w w2 := hb1.grown g1 hb1.size (by simp [Value.ownBlock]); rw [List.nil_append] at o1)
        have hx0 : 0 < x.length := by
          obtain ⟨y, hy, _⟩ := hsome.out
          exact List.length_pos_of_mem hy
        obtain ⟨g, cap, rfl, hg, hc1, hc2⟩ := o1.some_ (by omega)
        unfold maxLen at hc2
        clear g1 e1 HA hb1 rb1 rx1
        go_loopw [11] (fun i wr => ∃ (k : Nat) (c : List UInt8), i = .int .i64 k ∧ k ≤ x.length ∧ OB wr w.heap.size (.slice (some ⟨g, 0, none⟩) b.length cap) c ∧ Hid (DoneB b x c a k) ∧ Below w.heap.size w wr) (fun i _ => x.length - (intOf i).toNat)
        case atStart => exact ⟨0, b, rfl, by omega, o1, DoneB.zero b x a, hb2⟩
        case round =>
          obtain ⟨k, c, rfl, hk, ol, HD, hB⟩ := hrel
          clear o1 hb2
          by_cases hkx : k < x.length
          · obtain ⟨b2, f2, rfl, q2, e2⟩ := (rx.below hB) (by omega)
            have x2 := e2 k (by omega)
            clear e2
            have hak : a + k < b.length := by omega
            have HS := fun (y : UInt8) (hy : y = b[a + k] ^^^ x[k]) => Lib.hid (DoneB.step HD.out hak hkx hy)
            have hln := HD.out.1
            have hcell := ol.cell_at hln (a + k) (by omega)
            have hnext : c[a + k]'(by omega) = b[a + k] := by
              have e := HD.out.next (k := k) (by omega)
              rw [List.getElem?_eq_getElem (by omega)] at e
              injection e
            rw [hnext] at hcell
            clear hnext
            have hfr := ol.frozen_at hln (a + k)
            generalize x[k] = y2 at x2 HS
            generalize b[a + k] = y1 at hcell HS
            have HS := HS _ rfl
            have hx : bits .xor .u8 (y1.toNat : Int) (y2.toNat : Int) = ((y1 ^^^ y2).toNat : Int) := b8_xor _ _
            generalize y1 ^^^ y2 = y at hx HS
            have os := ol.set hln (a + k) y
            have hbs := hB.setCell (p := ⟨g, a + k, none⟩) (by exact hg) (vb y)
            have ht : ((a : Int) + k).toNat = a + k := by omega
            unfold vb at x2 hcell os hbs
            have HL := Lib.hid hln
            clear hln
            go_wp2_with fail
            go_region
            go_wp2
            go_roundw
            case rel => exact ⟨k + 1, c.set (a + k) y, by go_num, by omega, os.drew, HS, hbs.drew⟩
            case measure => simp [intOf]; omega
          · obtain rfl : k = x.length := by omega
            have HE := Lib.hid (HD.out.all ha (by omega) hsome.out)
            have HL := Lib.hid HD.out.1
            have hwr := hw.below hB hw.lt
            have r0 := ol.cells
            have r1 := rb.below hB
            have hne : ((tn (sumL b)) == tn (sumL c)) = false := by
              rw [beq_eq_false_iff_ne]; intro h; exact HE.out (tn_inj h)
            have hne2 : ((tn (sumL b)) != tn (sumL c)) = true := by rw [bne, hne]; rfl
            go_wp2_with (go_at_call 9; first
              | ((with_reducible refine (sum_any A1 b cap1 _ _ hwr r1 (by unfold maxLen; omega)).mono ?_); rintro e w' ⟨rfl, rfl⟩)
              | ((with_reducible refine (sum_n (some ⟨g, 0, none⟩) c b.length cap _ _ hwr r0 (by unfold maxLen; omega) HL).mono ?_); rintro e w' ⟨rfl, rfl⟩))
            go_ret
            exact ⟨rfl, hB⟩
      · have hbad : (at0 < 0) ∨ (¬ at0 < 0 ∧ at0 > (b.length : Int) - x.length) ∨ (¬ at0 < 0 ∧ ¬ at0 > (b.length : Int) - x.length ∧ s = false) := by
          by_cases q1 : at0 < 0
          · exact .inl q1
          · by_cases q2 : at0 > (b.length : Int) - x.length
            · exact .inr (.inl ⟨q1, q2⟩)
            · refine .inr (.inr ⟨q1, q2, ?_⟩)
              cases s with
              | false => rfl
              | true => exact absurd ⟨by omega, by omega, rfl⟩ hgood
        clear hgood
        rcases hbad with q1 | ⟨q1, q2⟩ | ⟨q1, q2, rfl⟩
        all_goals
          go_wp2
          go_ret
          exact ⟨rfl, hb1⟩
end Go.Proofs.YtoomlpompogpgaaDoor
