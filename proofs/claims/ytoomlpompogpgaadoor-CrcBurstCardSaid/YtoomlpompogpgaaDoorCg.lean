/- WALK: quintainlaw3.CrcThree. -/
import Derived.Test.YtoomlpompogpgaaDoorCf
import Derived.BigQuiet
import Derived.BigRegion
namespace Go.Proofs.YtoomlpompogpgaaDoor
open Go.RowKit
set_option linter.unusedVariables false

theorem zipX_zipWith : ∀ (a b : List UInt8), zipX a b = List.zipWith (· ^^^ ·) a b
  | [], _ => by simp [zipX]
  | _ :: _, [] => by simp [zipX]
  | x :: a, y :: b => by simp [zipX, zipX_zipWith a b]
/-- of the three texts the first k bytes are done -/
def Done3 (a b c l : List UInt8) (n k : Nat) : Prop := l.length = n ∧ ∀ j, j < k → l[j]? = (zipX (zipX (a.take n) (b.take n)) (c.take n))[j]?
theorem Done3.zero {a b c : List UInt8} {n : Nat} : Done3 a b c (List.replicate n 0) n 0 := ⟨List.length_replicate .., fun j hj => absurd hj (by omega)⟩
theorem three_at {a b c : List UInt8} {n k : Nat} (hk : k < n) (ha : n ≤ a.length) (hb : n ≤ b.length) (hc : n ≤ c.length) :
    (zipX (zipX (a.take n) (b.take n)) (c.take n))[k]? = some (a[k] ^^^ b[k] ^^^ c[k]) := by
  rw [zipX_zipWith, zipX_zipWith]
  rw [List.getElem?_eq_getElem (by simp; omega)]
  simp
theorem Done3.step {a b c l : List UInt8} {n k : Nat} (h : Done3 a b c l n k) (hk : k < n) (ha : n ≤ a.length) (hb : n ≤ b.length) (hc : n ≤ c.length) {y : UInt8} (hy : y = a[k] ^^^ b[k] ^^^ c[k]) :
    Done3 a b c (l.set k y) n (k + 1) := by
  refine ⟨by rw [List.length_set]; exact h.1, fun j hj => ?_⟩
  by_cases e : j = k
  · subst e
    rw [three_at hk ha hb hc, List.getElem?_set_self (by rw [h.1]; exact hk), hy]
  · rw [List.getElem?_set_ne (by omega)]
    exact h.2 j (by omega)
theorem Done3.all {a b c l : List UInt8} {n : Nat} (h : Done3 a b c l n n) (ha : n ≤ a.length) (hb : n ≤ b.length) (hc : n ≤ c.length) : sumL l = sumL (a.take n) ^^^ sumL (b.take n) ^^^ sumL (c.take n) := by
  have e : l = zipX (zipX (a.take n) (b.take n)) (c.take n) := by
    apply List.ext_getElem?
    intro j
    by_cases hj : j < n
    · exact h.2 j hj
    · rw [List.getElem?_eq_none (by rw [h.1]; omega), List.getElem?_eq_none]
      rw [zipX_zipWith, zipX_zipWith]; simp; omega
  rw [e, sumL_three _ _ _ (by rw [List.length_take, List.length_take]; omega) (by rw [List.length_take, List.length_take]; omega)]

set_option maxRecDepth 100000 in
set_option maxHeartbeats 1000000 in
theorem crcthree_law (A1 A2 A3 : Option Addr) (l1 l2 l3 : List UInt8) (cap1 cap2 cap3 : Nat) (w : World) (hw : TabW w) (h1 : RB w w.heap.size A1 l1) (h2 : RB w w.heap.size A2 l2) (h3 : RB w w.heap.size A3 l3)
    (c1 : l1.length ≤ cap1) (c2 : l2.length ≤ cap2) (c3 : l3.length ≤ cap3) (m1 : cap1 ≤ maxLen) (m2 : cap2 ≤ maxLen) (m3 : cap3 ≤ maxLen) :
    Calls Tryd.prog 5 #[.slice A1 l1.length cap1, .slice A2 l2.length cap2, .slice A3 l3.length cap3] w fun e w' => e = .returned (.bool true) ∧ Below w.heap.size w w' := by
  unfold maxLen at m1 m2 m3
  go_enter Tryd.func5, Tryd.ntmps5
  go_upto_region 4 with (go_at_call 7; ((with_reducible refine (begun_any w hw).mono ?_); rintro e w1 ⟨rfl, hb1⟩))
  go_cut [8] (fun s8 wx => wx = w1 ∧ ∃ n : Nat, s8 = .int .i64 n ∧ n ≤ 100 ∧ n ≤ l1.length ∧ n ≤ l2.length ∧ n ≤ l3.length)
  case first =>
    go_wp2_with fail
    all_goals (go_meet; exact ⟨rfl, min (min l1.length 100) (min l2.length l3.length), by congr 1; omega, by omega, by omega, by omega, by omega⟩)
  case rest =>
    obtain ⟨rfl, n, rfl, hn, n1, n2, n3⟩ := hcut
    obtain ⟨i0, hi0, hz0, hz1, hz2⟩ := info_parts byte_info
    have hlt := hb1.size
    go_wp2_with (refine wpList_make_full _ rfl _ _ 22 rfl w.heap.size 5 i0 (.int .u8 0) 1 Tryd.underlying22 hi0 hz0 hz1 .i64 .i64 n n n rfl rfl rfl rfl (by rw [hz2]; omega) (by unfold maxLen; omega) hb1.size ?_; intro w2 o2 g2)
    have hB2 : Below w.heap.size w w2 := hb1.grown g2 hb1.size (by simp)
    have o2 := OB.made rfl o2
    generalize wc.heap.size = g at o2 hlt ⊢
    clear g2 hb1
    go_loopw [10] (fun i wr => ∃ (k : Nat) (l : List UInt8), i = .int .i64 k ∧ k ≤ n ∧ OB wr w.heap.size (.slice (some ⟨g, 0, none⟩) n n) l ∧ Hid (Done3 l1 l2 l3 l n k) ∧ Below w.heap.size w wr) (fun i _ => n - (intOf i).toNat)
    case atStart => exact ⟨0, _, rfl, by omega, o2, Done3.zero, hB2⟩
    case round =>
      obtain ⟨k, l, rfl, hk, ol, HD, hB⟩ := hrel
      by_cases hkn : k < n
      · obtain ⟨b1, f1, rfl, q1, e1⟩ := (h1.below hB) (by omega)
        obtain ⟨b2, f2, rfl, q2, e2⟩ := (h2.below hB) (by omega)
        obtain ⟨b3, f3, rfl, q3, e3⟩ := (h3.below hB) (by omega)
        have x1 := e1 k (by omega)
        have x2 := e2 k (by omega)
        have x3 := e3 k (by omega)
        clear e1 e2 e3
        have HS := fun y hy => Lib.hid (Done3.step HD.out hkn n1 n2 n3 (y := y) hy)
        generalize l1[k] = y1 at x1 HS
        generalize l2[k] = y2 at x2 HS
        generalize l3[k] = y3 at x3 HS
        have HS := HS _ rfl
        have hx : bits .xor .u8 (bits .xor .u8 (y1.toNat : Int) (y2.toNat : Int)) (y3.toNat : Int) = ((y1 ^^^ y2 ^^^ y3).toNat : Int) := by rw [b8_xor, b8_xor]
        generalize y1 ^^^ y2 ^^^ y3 = y at hx HS
        have hln := HD.out.1
        have os := ol.set hln k y
        have hcell := ol.cell_at hln k (by omega)
        have hfr := ol.frozen_at hln k
        have hbs := hB.setCell (p := ⟨g, k, none⟩) (by exact hlt) (vb y)
        unfold vb at x1 x2 x3 hcell os hbs
        generalize l[k] = z at hcell
        have HL := Lib.hid hln
        clear hln
        go_wp2_with fail
        go_region
        go_wp2
        go_roundw
        case rel => exact ⟨k + 1, l.set k y, by go_num, by omega, os.drew, HS, hbs.drew⟩
        case measure => simp [intOf]; omega
      · obtain rfl : k = n := by omega
        have HE := Lib.hid (HD.out.all n1 n2 n3)
        have HL := Lib.hid HD.out.1
        have hwr := hw.below hB hw.lt
        have r0 := ol.cells
        obtain ⟨a, H1⟩ : ∃ a, Hid (a = l1.take k) := ⟨_, rfl⟩
        obtain ⟨b, H2⟩ : ∃ a, Hid (a = l2.take k) := ⟨_, rfl⟩
        obtain ⟨c, H3⟩ : ∃ a, Hid (a = l3.take k) := ⟨_, rfl⟩
        have ra : RB wr w.heap.size A1 a := by rw [H1.out]; exact (h1.below hB).take k
        have rb : RB wr w.heap.size A2 b := by rw [H2.out]; exact (h2.below hB).take k
        have rc : RB wr w.heap.size A3 c := by rw [H3.out]; exact (h3.below hB).take k
        have La : Hid (a.length = k) := by unfold Hid; rw [H1.out, List.length_take]; omega
        have Lb : Hid (b.length = k) := by unfold Hid; rw [H2.out, List.length_take]; omega
        have Lc : Hid (c.length = k) := by unfold Hid; rw [H3.out, List.length_take]; omega
        have hs : bits .xor .u32 (bits .xor .u32 (tn (sumL a)) (tn (sumL b))) (tn (sumL c)) = tn (sumL l) := by rw [x_xor, x_xor, HE.out, H1.out, H2.out, H3.out]
        clear HD h1 h2 h3
        go_wp2_with fail
        go_quiet ((go_at_call 9; first
          | exact same_left (sum_n (some ⟨g, 0, none⟩) l k k wr.heap.size _ hwr r0 (by unfold maxLen; omega) HL)
          | exact same_left (sum_n A1 a k cap1 w.heap.size _ hwr ra (by unfold maxLen; omega) La)
          | exact same_left (sum_n A2 b k cap2 w.heap.size _ hwr rb (by unfold maxLen; omega) Lb)
          | exact same_left (sum_n A3 c k cap3 w.heap.size _ hwr rc (by unfold maxLen; omega) Lc)))
        go_wp2
        go_ret
        exact ⟨rfl, below_drewN hB nq⟩
end Go.Proofs.YtoomlpompogpgaaDoor
