/- WALK of the law NetSpoil. -/
import Derived.Test.YtolnafpicfemnaaHg
import Derived.Test.YtolnafpicfemnaaKr
namespace Go.Proofs.Ytolnafpicfemnaa
set_option maxRecDepth 100000
open Go.RowKit
set_option linter.unusedVariables false
set_option linter.unusedSimpArgs false

/-- byte k turned by x -/
def spl (l : List UInt8) (k : Nat) (x : UInt8) : List UInt8 := l.set k ((l[k]?).getD 0 ^^^ x)
theorem spl_len (l : List UInt8) (k : Nat) (x : UInt8) : (spl l k x).length = l.length := by unfold spl; rw [List.length_set]
theorem spl_at (l : List UInt8) (k : Nat) (x : UInt8) (hk : k < l.length) (h : k < (spl l k x).length) : (spl l k x)[k]'h = l[k] ^^^ x := by
  simp only [spl, List.getElem_set_self, List.getElem?_eq_getElem hk, Option.getD_some]
theorem spl_eq (l : List UInt8) (k : Nat) (x : UInt8) (hk : k < l.length) : l.set k (l[k] ^^^ x) = spl l k x := by
  unfold spl; rw [List.getElem?_eq_getElem hk]; rfl
theorem spl_twice (l : List UInt8) (k : Nat) (x : UInt8) (hk : k < l.length) : spl (spl l k x) k x = l := by
  have e : spl (spl l k x) k x = (spl l k x).set k (((spl l k x)[k]?).getD 0 ^^^ x) := rfl
  rw [e, List.getElem?_eq_getElem (by rw [spl_len]; exact hk), spl_at l k x hk]
  unfold spl
  rw [List.set_set]
  show l.set k (l[k] ^^^ x ^^^ x) = l
  rw [UInt8.xor_assoc, UInt8.xor_self, UInt8.xor_zero]
  exact List.set_getElem_self hk
theorem nf_spl {w0 w : World} {b : Nat} {ps : List Pm} {O : Nat → Prop} (h : NF w0 w b ps O) (hl : ps.length ≤ 1000) (i : Int) (j : Nat) (hi : i = j) (p : Pm) (hp : ps[j]? = some p) (K : Int) (k : Nat) (hK : K = k) (hk : k < p.l.length) (x : UInt8) (X : Int) (hX : X = (x.toNat : Int)) :
    Calls Try.prog 16 #[pB b, .int .i64 i, .int .i64 K, .int .u8 X] w fun e w' => e = .returned (.bool true) ∧ NF w0 w' b (ps.set j ⟨p.f, p.t, spl p.l k x⟩) O ∧ Same O w w' := by
  have := nf_spoil h hl i j hi p hp K k hK hk x X hX
  rw [spl_eq p.l k x hk] at this
  exact this
/-- a told mail laid in a block of the law's own, the net beside it -/
theorem NF.laid {w0 w w6 w7 : World} {b : Nat} {ps : List Pm} {O : Nat → Prop} (h : NF w0 w b ps O) (b6 : Below w.heap.size w w6) (P : Nat) (hP : P = w6.heap.size) (f t : Int) (A : Option Addr) (n c : Nat) (l : List UInt8) (o6 : OB w6 w.heap.size (.slice A n c) l) (g7 : (w6.alloc (mlO 0 0 none 0 0)).grownBy w7 (some P)) :
    NF w0 w7 b ps (fun k => O k ∨ k = P ∨ (Value.slice A n c).ownBlock = some k) ∧ Below w.heap.size w w7 ∧ OB w7 w.heap.size (.slice A n c) l ∧ Below w6.heap.size w6 w7 := by
  subst hP
  have b7 : Below w6.heap.size w6 w7 := below_own ((Below.refl _ _).alloc (Nat.le_refl _) _) g7 (Nat.le_refl _)
  have hs : w6.heap.size < w7.heap.size := by have := g7.size; simp at this; omega
  refine ⟨h.add (b6.trans (b7.mono b6.size)) fun k hk => ?_, b6.trans (b7.mono b6.size), o6.below b7 (Nat.le_refl _), b7⟩
  rcases hk with hk | rfl | hk
  · exact .inl hk
  · exact .inr ⟨b6.size, hs⟩
  · exact .inr ⟨(o6.lt k hk).1, by have := (o6.lt k hk).2; omega⟩
theorem two_no (p q : Pm) (K : Int) : ¬ ∃ (j : Nat) (p' : Pm), (2 : Int) = j ∧ [p, q][j]? = some p' ∧ 0 ≤ K ∧ K < (p'.l.length : Int) := by
  rintro ⟨j, p', h1, h2, -⟩
  obtain rfl : j = 2 := by omega
  simp at h2
set_option maxHeartbeats 8000000 in
theorem spoil_law (A0 : Option Addr) (l0 : List UInt8) (cap0 : Nat) (A1 : Option Addr) (l1 : List UInt8) (cap1 : Nat) (K X : Int) (w : World) (h0 : RB w w.heap.size A0 l0) (k0 : l0.length ≤ cap0) (m0 : cap0 ≤ maxLen) (h1 : RB w w.heap.size A1 l1) (k1 : l1.length ≤ cap1) (m1 : cap1 ≤ maxLen)
    (hK : -9223372036854775808 ≤ K ∧ K ≤ 9223372036854775807) (hX : 0 ≤ X ∧ X ≤ 255) :
    Calls Try.prog 7 #[.slice A0 l0.length cap0, .slice A1 l1.length cap1, .int .i64 K, .int .u8 X] w fun e w' => e = .returned (.bool true) ∧ Below w.heap.size w w' := by
  have HG := Lib.hid (begun16_any w)
  obtain ⟨x, hx⟩ : ∃ x : UInt8, X = (x.toNat : Int) := ⟨UInt8.ofNat X.toNat, by rw [UInt8.toNat_ofNat']; omega⟩
  obtain ⟨n0, hn0⟩ : ∃ n, l0.length = n := ⟨_, rfl⟩
  obtain ⟨n1, hn1⟩ : ∃ n, l1.length = n := ⟨_, rfl⟩
  have H0 := Lib.hid h0; have H1 := Lib.hid h1; have HN0 := Lib.hid hn0; have HN1 := Lib.hid hn1
  rw [hn0] at k0 ⊢; rw [hn1] at k1 ⊢
  clear h0 h1 hn0 hn1
  unfold maxLen at m0 m1
  by_cases c0 : n0 ≤ 60
  rotate_left 1
  · have z0 : (60 : Int) < n0 := by omega
    go_enter Try.func7, Try.ntmps7
    go_wp2_with (go_at_call 8; with_reducible refine HG.out.mono ?_; rintro e w1 ⟨rfl, b1⟩)
    go_ret
    exact ⟨rfl, b1⟩
  have z0 : ¬ (60 : Int) < n0 := by omega
  by_cases c1 : n1 ≤ 60
  rotate_left 1
  · have z1 : (60 : Int) < n1 := by omega
    go_enter Try.func7, Try.ntmps7
    go_wp2_with (go_at_call 8; with_reducible refine HG.out.mono ?_; rintro e w1 ⟨rfl, b1⟩)
    go_ret
    exact ⟨rfl, b1⟩
  have z1 : ¬ (60 : Int) < n1 := by omega
  obtain ⟨s0, hs0⟩ : ∃ s, str l0 = s := ⟨_, rfl⟩
  obtain ⟨s1, hs1⟩ : ∃ s, str l1 = s := ⟨_, rfl⟩
  have HS0 := Lib.hid hs0; have HS1 := Lib.hid hs1
  clear hs0 hs1
  by_cases hin : 0 ≤ K ∧ K < (n0 : Int)
  · obtain ⟨k, rfl⟩ : ∃ k : Nat, K = k := ⟨K.toNat, by omega⟩
    obtain ⟨hi0, hi1⟩ := hin
    have hk : k < l0.length := by have := HN0.out; omega
    have hkn : k < n0 := by omega
    have hk60 : k < 60 := by omega
    obtain ⟨a0, ha0⟩ : ∃ a, l0[k] = a := ⟨_, rfl⟩
    obtain ⟨y, hy⟩ : ∃ y, spl l0 k x = y := ⟨_, rfl⟩
    have HYL : Hid (y.length = n0) := by show _ = _; rw [← hy, spl_len]; exact HN0.out
    have HKL : Hid (k < l0.length) := hk
    have HKY : Hid (k < y.length) := by show k < _; rw [HYL.out]; exact hkn
    have HTW : Hid (spl y k x = l0) := by show _ = _; rw [← hy]; exact spl_twice l0 k x hk
    have HYK : Hid (y[k]'HKY.out = a0 ^^^ x) := by
      show _ = _
      rw [← ha0, ← spl_at l0 k x hk (by rw [hy]; exact HKY.out)]
      simp only [hy]
    obtain ⟨b0, o0, rfl, hb0, hc0⟩ := H0.out (by omega)
    have hck := hc0 k hk
    rw [ha0] at hck
    have hxor := b8_xor a0 x
    have HY := Lib.hid hy
    have H0c : Hid (∀ W, Below w.heap.size w W → W.cell? ⟨b0, o0 + k, none⟩ = w.cell? ⟨b0, o0 + k, none⟩) := fun W hW => hW.cell (p := ⟨b0, _, none⟩) hb0
    have HCK := Lib.hid hck
    subst hx
    clear hy hb0 hc0 hck hk ha0 hX hK
    go_enter Try.func7, Try.ntmps7
    go_wp2_with fail
    (with_reducible refine HG.out.mono ?_)
    rintro e w1 ⟨rfl, b1⟩
    have HNw := Lib.hid (nf_new w w1 b1 noB (no_noB w w1))
    clear HG b1
    go_wp2_with fail
    (with_reducible refine HNw.out.mono ?_)
    rintro e w2 ⟨rfl, F2, -⟩
    have HSe := Lib.hid (nf_send F2 1 0 (some ⟨b0, o0, none⟩) n0 cap0 l0 ((H0.out.below F2.be).more F2.be.size) HN0.out (by decide) (by omega))
    clear HNw F2
    go_wp2_with fail
    (with_reducible refine HSe.out.mono ?_)
    rintro e w3 ⟨rfl, F3, -⟩
    have HSe2 := Lib.hid (nf_send F3 2 0 A1 n1 cap1 l1 ((H1.out.below F3.be).more F3.be.size) HN1.out (by simp) (by omega))
    clear HSe F3
    go_wp2_with fail
    (with_reducible refine HSe2.out.mono ?_)
    rintro e w4 ⟨rfl, F4, -⟩
    have F4 : NF w w4 w1.heap.size [⟨1, 0, l0⟩, ⟨2, 0, l1⟩] noB := F4
    clear HSe2
    have HP1 := Lib.hid (nf_spl F4 (by simp) 0 0 rfl ⟨1, 0, l0⟩ rfl (k : Int) k rfl HKL.out x (x.toNat : Int) rfl)
    clear F4
    go_wp2_with fail
    (with_reducible refine HP1.out.mono ?_)
    rintro e w5 ⟨rfl, F5, -⟩
    have F5 : NF w w5 w1.heap.size [⟨1, 0, spl l0 k x⟩, ⟨2, 0, l1⟩] noB := F5
    rw [HY.out] at F5
    have HL := Lib.hid (nf_look F5 (by simp) 0 0 rfl ⟨1, 0, y⟩ rfl n0 HYL.out)
    have HF5 := Lib.hid F5
    clear HP1 F5
    go_wp2_with fail
    (with_reducible refine HL.out.mono ?_)
    rintro e w6 ⟨A6, c6, rfl, o6, b6⟩
    obtain ⟨g6, c6', e6, -⟩ := o6.some_ (by show 0 < y.length; rw [HYL.out]; omega)
    injection e6 with e6 e7 e8
    subst e6
    have HO6 := Lib.hid o6; have HB6 := Lib.hid b6
    clear HL o6 b6 e7 e8
    go_wp2_with (first
      | (refine wpList_store_ml rfl (.tmp 12) (.tmp 55) rfl w6.heap.size (by rfl) (MlM.new w6 0 0 none 0 0) (by rfl) ?_; intro w7 p7 t7 g7))
    obtain ⟨F7, b7, o7, e7⟩ := NF.laid HF5.out HB6.out w6.heap.size rfl 1 0 (some ⟨g6, 0, none⟩) n0 c6 y HO6.out g7
    have x1 := p7.c.2.2
    have x2 := o7.cell_at HYL.out k HKY.out
    have x3 := (H0c.out _ F7.be).trans HCK.out
    have HBE : Hid (Below w.heap.size w w7.drew) := F7.drew.be
    have HP2 := Lib.hid (nf_spl F7.drew (by simp) 0 0 rfl ⟨1, 0, y⟩ rfl (k : Int) k rfl HKY.out x (x.toNat : Int) rfl)
    have hl2 : ([⟨1, 0, y⟩, ⟨2, 0, l1⟩] : List Pm).set 0 ⟨1, 0, spl y k x⟩ = [⟨1, 0, l0⟩, ⟨2, 0, l1⟩] := by rw [HTW.out]; rfl
    rw [hl2] at HP2
    rw [HYK.out] at x2
    have HXS := Lib.hid (show w7.drew.cell? ⟨w6.heap.size, 2, none⟩ = some (.slice (some ⟨g6, 0, none⟩) n0 c6) ∧ w7.drew.cell? ⟨g6, k, none⟩ = some (vb (a0 ^^^ x)) ∧ w7.drew.cell? ⟨b0, o0 + k, none⟩ = some (vb a0) from ⟨x1, x2, x3⟩)
    clear x1 x2 x3 hl2 p7 t7 g7 F7 b7 o7 e7 HF5 HO6 HB6
    generalize a0 ^^^ x = z at *
    unfold vb at HXS
    go_wp2_with fail
    refine wp_region_held_drew (S := (fun w' => w'.cell? ⟨w6.heap.size, 2, none⟩ = some (.slice (some ⟨g6, 0, none⟩) n0 c6) ∧ w'.cell? ⟨g6, k, none⟩ = some (.int .u8 (z.toNat : Int)) ∧ w'.cell? ⟨b0, o0 + k, none⟩ = some (.int .u8 (a0.toNat : Int)))) (by kernel_rfl) (HXS.out) (fun hHeld => ?_)
    refine held_take (i := 0) (v := ?_) rfl (by kernel_rfl) (by kernel_rfl) (by kernel_rfl) (fun _ _ _ h => h) (by rfl) hHeld ?_ ?_
    rotate_left 1
    · (intro w hSw; (try dsimp only at hSw); go_simp; try (with_reducible rfl))
    try simp only [Act.put, List.setIfInBounds_toArray, List.set_cons_zero, List.set_cons_succ]
    refine held_take (i := 1) (v := ?_) rfl (by kernel_rfl) (by kernel_rfl) (by kernel_rfl) (fun _ _ _ h => h) (by rfl) hHeld ?_ ?_
    rotate_left 1
    · (intro w hSw; (try dsimp only at hSw); go_simp; try (with_reducible rfl))
    try simp only [Act.put, List.setIfInBounds_toArray, List.set_cons_zero, List.set_cons_succ]
    refine held_take (i := 2) (v := ?_) rfl (by kernel_rfl) (by kernel_rfl) (by kernel_rfl) (fun _ _ _ h => h) (by rfl) hHeld ?_ ?_
    rotate_left 1
    · (intro w hSw; (try dsimp only at hSw); go_simp; try (with_reducible rfl))
    try simp only [Act.put, List.setIfInBounds_toArray, List.set_cons_zero, List.set_cons_succ]
    refine held_take (i := 3) (v := ?_) rfl (by kernel_rfl) (by kernel_rfl) (by kernel_rfl) (fun _ _ _ h => h) (by rfl) hHeld ?_ ?_
    rotate_left 1
    · (intro w hSw; (try dsimp only at hSw); go_simp; try (with_reducible rfl))
    try simp only [Act.put, List.setIfInBounds_toArray, List.set_cons_zero, List.set_cons_succ]
    refine held_take (i := 4) (v := ?_) rfl (by kernel_rfl) (by kernel_rfl) (by kernel_rfl) (fun _ _ _ h => h) (by rfl) hHeld ?_ ?_
    rotate_left 1
    · (intro w hSw; (try dsimp only at hSw); go_simp; try (with_reducible rfl))
    try simp only [Act.put, List.setIfInBounds_toArray, List.set_cons_zero, List.set_cons_succ]
    refine held_take (i := 5) (v := ?_) rfl (by kernel_rfl) (by kernel_rfl) (by kernel_rfl) (fun _ _ _ h => h) (by rfl) hHeld ?_ ?_
    rotate_left 1
    · (intro w hSw; (try dsimp only at hSw); go_simp; try (with_reducible rfl))
    try simp only [Act.put, List.setIfInBounds_toArray, List.set_cons_zero, List.set_cons_succ]
    refine held_take (i := 6) (v := ?_) rfl (by kernel_rfl) (by kernel_rfl) (by kernel_rfl) (fun _ _ _ h => h) (by rfl) hHeld ?_ ?_
    rotate_left 1
    · (intro w hSw; (try dsimp only at hSw); go_simp; try (with_reducible rfl))
    try simp only [Act.put, List.setIfInBounds_toArray, List.set_cons_zero, List.set_cons_succ]
    refine held_take (i := 7) (v := ?_) rfl (by kernel_rfl) (by kernel_rfl) (by kernel_rfl) (fun _ _ _ h => h) (by rfl) hHeld ?_ ?_
    rotate_left 1
    · (intro w hSw; (try dsimp only at hSw); go_simp; try (with_reducible rfl))
    try simp only [Act.put, List.setIfInBounds_toArray, List.set_cons_zero, List.set_cons_succ]
    refine held_take (i := 8) (v := ?_) rfl (by kernel_rfl) (by kernel_rfl) (by kernel_rfl) (fun _ _ _ h => h) (by rfl) hHeld ?_ ?_
    rotate_left 1
    · (intro w hSw; (try dsimp only at hSw); go_simp; try (with_reducible rfl))
    try simp only [Act.put, List.setIfInBounds_toArray, List.set_cons_zero, List.set_cons_succ]
    refine held_take (i := 9) (v := ?_) rfl (by kernel_rfl) (by kernel_rfl) (by kernel_rfl) (fun _ _ _ h => h) (by rfl) hHeld ?_ ?_
    rotate_left 1
    · (intro w hSw; (try dsimp only at hSw); go_simp; try (with_reducible rfl))
    try simp only [Act.put, List.setIfInBounds_toArray, List.set_cons_zero, List.set_cons_succ]
    refine held_take (i := 10) (v := ?_) rfl (by kernel_rfl) (by kernel_rfl) (by kernel_rfl) (fun _ _ _ h => h) (by rfl) hHeld ?_ ?_
    rotate_left 1
    · (intro w hSw; (try dsimp only at hSw); go_simp; try (with_reducible rfl))
    try simp only [Act.put, List.setIfInBounds_toArray, List.set_cons_zero, List.set_cons_succ]
    refine held_take (i := 11) (v := ?_) rfl (by kernel_rfl) (by kernel_rfl) (by kernel_rfl) (fun _ _ _ h => h) (by rfl) hHeld ?_ ?_
    rotate_left 1
    · (intro w hSw; (try dsimp only at hSw); go_simp; try (with_reducible rfl))
    try simp only [Act.put, List.setIfInBounds_toArray, List.set_cons_zero, List.set_cons_succ]
    refine held_take (i := 12) (v := ?_) rfl (by kernel_rfl) (by kernel_rfl) (by kernel_rfl) (fun _ _ _ h => h) (by rfl) hHeld ?_ ?_
    rotate_left 1
    · (intro w hSw; (try dsimp only at hSw); go_simp; try (with_reducible rfl))
    try simp only [Act.put, List.setIfInBounds_toArray, List.set_cons_zero, List.set_cons_succ]
    refine held_take (i := 13) (v := ?_) rfl (by kernel_rfl) (by kernel_rfl) (by kernel_rfl) (fun _ _ _ h => h) (by rfl) hHeld ?_ ?_
    rotate_left 1
    · (intro w hSw; (try dsimp only at hSw); go_simp; try (with_reducible rfl))
    try simp only [Act.put, List.setIfInBounds_toArray, List.set_cons_zero, List.set_cons_succ]
    refine held_take (i := 14) (v := ?_) rfl (by kernel_rfl) (by kernel_rfl) (by kernel_rfl) (fun _ _ _ h => h) (by rfl) hHeld ?_ ?_
    rotate_left 1
    · (intro w hSw; (try dsimp only at hSw); go_simp; try (with_reducible rfl))
    try simp only [Act.put, List.setIfInBounds_toArray, List.set_cons_zero, List.set_cons_succ]
    refine held_take (i := 15) (v := ?_) rfl (by kernel_rfl) (by kernel_rfl) (by kernel_rfl) (fun _ _ _ h => h) (by rfl) hHeld ?_ ?_
    rotate_left 1
    · (intro w hSw; (try dsimp only at hSw); go_simp; try (with_reducible rfl))
    try simp only [Act.put, List.setIfInBounds_toArray, List.set_cons_zero, List.set_cons_succ]
    refine held_take (i := 16) (v := ?_) rfl (by kernel_rfl) (by kernel_rfl) (by kernel_rfl) (fun _ _ _ h => h) (by rfl) hHeld ?_ ?_
    rotate_left 1
    · (intro w hSw; (try dsimp only at hSw); go_simp; try (with_reducible rfl))
    try simp only [Act.put, List.setIfInBounds_toArray, List.set_cons_zero, List.set_cons_succ]
    refine held_take (i := 17) (v := ?_) rfl (by kernel_rfl) (by kernel_rfl) (by kernel_rfl) (fun _ _ _ h => h) (by rfl) hHeld ?_ ?_
    rotate_left 1
    · (intro w hSw; (try dsimp only at hSw); go_simp; try (with_reducible rfl))
    try simp only [Act.put, List.setIfInBounds_toArray, List.set_cons_zero, List.set_cons_succ]
    refine held_take (i := 18) (v := ?_) rfl (by kernel_rfl) (by kernel_rfl) (by kernel_rfl) (fun _ _ _ h => h) (by rfl) hHeld ?_ ?_
    rotate_left 1
    · (intro w hSw; (try dsimp only at hSw); go_simp; try (with_reducible rfl))
    try simp only [Act.put, List.setIfInBounds_toArray, List.set_cons_zero, List.set_cons_succ]
    refine held_take (i := 20) (v := ?_) rfl (by kernel_rfl) (by kernel_rfl) (by kernel_rfl) (fun _ _ _ h => h) (by rfl) hHeld ?_ ?_
    rotate_left 1
    · (intro w hSw; (try dsimp only at hSw); go_simp; try (with_reducible rfl))
    try simp only [Act.put, List.setIfInBounds_toArray, List.set_cons_zero, List.set_cons_succ]
    refine held_one (i := 19) rfl (by kernel_rfl) (by rfl) (fun K hK => ?_)
    go_simp
    with_reducible refine HP2.out.mono ?_
    rintro e w8 ⟨rfl, F8, S8⟩
    have HF8 := Lib.hid F8; have HS8 := Lib.hid S8; clear F8 S8
    have HP3 := Lib.hid (nf_spoilno HF8.out (by simp) 2 0 1 (two_no _ _ _))
    refine hK.out _ _ (⟨(World.cell?_of_block (a := ⟨w6.heap.size, 2, none⟩) (HS8.out _ (.inr (.inl rfl)))).trans hHeld.1, (World.cell?_of_block (a := ⟨g6, k, none⟩) (HS8.out _ (.inr (.inr rfl)))).trans hHeld.2.1, ((H0c.out _ HF8.out.be).trans (H0c.out _ HBE.out).symm).trans hHeld.2.2⟩) (fun hHeld2 => ?_)
    clear hK K hHeld; have hHeld := hHeld2; clear hHeld2
    try simp only [Act.put, List.setIfInBounds_toArray, List.set_cons_zero, List.set_cons_succ]
    refine held_take (i := 21) (v := ?_) rfl (by kernel_rfl) (by kernel_rfl) (by kernel_rfl) (fun _ _ _ h => h) (by rfl) hHeld ?_ ?_
    rotate_left 1
    · (intro w hSw; (try dsimp only at hSw); go_simp; try (with_reducible rfl))
    try simp only [Act.put, List.setIfInBounds_toArray, List.set_cons_zero, List.set_cons_succ]
    refine held_take (i := 22) (v := ?_) rfl (by kernel_rfl) (by kernel_rfl) (by kernel_rfl) (fun _ _ _ h => h) (by rfl) hHeld ?_ ?_
    rotate_left 1
    · (intro w hSw; (try dsimp only at hSw); go_simp; try (with_reducible rfl))
    try simp only [Act.put, List.setIfInBounds_toArray, List.set_cons_zero, List.set_cons_succ]
    refine held_take (i := 23) (v := ?_) rfl (by kernel_rfl) (by kernel_rfl) (by kernel_rfl) (fun _ _ _ h => h) (by rfl) hHeld ?_ ?_
    rotate_left 1
    · (intro w hSw; (try dsimp only at hSw); go_simp; try (with_reducible rfl))
    try simp only [Act.put, List.setIfInBounds_toArray, List.set_cons_zero, List.set_cons_succ]
    refine held_take (i := 24) (v := ?_) rfl (by kernel_rfl) (by kernel_rfl) (by kernel_rfl) (fun _ _ _ h => h) (by rfl) hHeld ?_ ?_
    rotate_left 1
    · (intro w hSw; (try dsimp only at hSw); go_simp; try (with_reducible rfl))
    try simp only [Act.put, List.setIfInBounds_toArray, List.set_cons_zero, List.set_cons_succ]
    refine held_one (i := 25) rfl (by kernel_rfl) (by rfl) (fun K hK => ?_)
    go_simp
    with_reducible refine HP3.out.mono ?_
    rintro e w9 ⟨rfl, rfl⟩
    refine hK.out _ _ (hHeld) (fun hHeld2 => ?_)
    clear hK K hHeld; have hHeld := hHeld2; clear hHeld2
    try simp only [Act.put, List.setIfInBounds_toArray, List.set_cons_zero, List.set_cons_succ]
    refine held_take (i := 26) (v := ?_) rfl (by kernel_rfl) (by kernel_rfl) (by kernel_rfl) (fun _ _ _ h => h) (by rfl) hHeld ?_ ?_
    rotate_left 1
    · (intro w hSw; (try dsimp only at hSw); go_simp; try (with_reducible rfl))
    try simp only [Act.put, List.setIfInBounds_toArray, List.set_cons_zero, List.set_cons_succ]
    refine wpAnyH_done (by kernel_rfl) ?_ _
    skip
    have HLp := Lib.hid (nf_look (ps := [⟨1, 0, l0⟩, ⟨2, 0, l1⟩]) (HF8.out) (by simp) 0 0 rfl ⟨1, 0, l0⟩ rfl n0 HN0.out)
    have HFp := Lib.hid (HF8.out)
    have HBp := Lib.hid HFp.out.be
    go_wp2_with fail
    (with_reducible refine HLp.out.mono ?_)
    rintro e w10 ⟨A10, c10, rfl, o10, b10⟩
    have HO10 := Lib.hid o10; have HB10 := Lib.hid b10
    clear HLp o10 b10
    go_wp2_with (first
      | (refine wpList_store_ml rfl (.tmp 14) (.tmp 87) rfl w10.heap.size (by rfl) (MlM.new w10 0 0 none 0 0) (by rfl) ?_; intro w11 p11 t11 g11))
    obtain ⟨F11, b11, o11, e11⟩ := NF.laid HFp.out HB10.out w10.heap.size rfl 1 0 A10 n0 c10 l0 HO10.out g11
    have P11 := Lib.hid p11
    have HLq := Lib.hid (nf_look (ps := [⟨1, 0, l0⟩, ⟨2, 0, l1⟩]) F11 (by simp) 1 1 rfl ⟨2, 0, l1⟩ rfl n1 HN1.out)
    have HF11 := Lib.hid F11; have HO11 := Lib.hid o11
    clear HFp HBp HO10 HB10 p11 t11 g11 F11 b11 o11 e11
    go_wp2_with fail
    (with_reducible refine HLq.out.mono ?_)
    rintro e w12 ⟨A12, c12, rfl, o12, b12⟩
    have HO12 := Lib.hid o12; have HB12 := Lib.hid b12
    clear HLq o12 b12
    go_wp2_with (first
      | (refine wpList_store_ml rfl (.tmp 16) (.tmp 92) rfl w12.heap.size (by rfl) (MlM.new w12 0 0 none 0 0) (by rfl) ?_; intro w13 p13 t13 g13
         obtain ⟨F13, b13, o13, e13⟩ := NF.laid HF11.out HB12.out w12.heap.size rfl 2 0 A12 n1 c12 l1 HO12.out g13
         obtain ⟨u0, u1, u2⟩ := p13.c
         obtain ⟨y0, y1, y2⟩ := ((P11.out.then_ HB12.out).then_ e13).c
         have B13 := Lib.hid F13.be
         have q1 : (convert 27 9 (.slice A10 n0 c10)).run Try.prog w13 = .ok (.string s0) w13 := by rw [← HS0.out]; exact conv_rb (HO11.out.cells.below b13) n0 c10 HN0.out
         have q2 : (convert 27 9 (.slice (some ⟨b0, o0, none⟩) n0 cap0)).run Try.prog w13 = .ok (.string s0) w13 := by rw [← HS0.out]; exact conv_rb (H0.out.below F13.be) n0 cap0 HN0.out
         have q3 : (convert 27 9 (.slice A12 n1 c12)).run Try.prog w13 = .ok (.string s1) w13 := by rw [← HS1.out]; exact conv_rb o13.cells n1 c12 HN1.out
         have q4 : (convert 27 9 (.slice A1 n1 cap1)).run Try.prog w13 = .ok (.string s1) w13 := by rw [← HS1.out]; exact conv_rb (H1.out.below F13.be) n1 cap1 HN1.out
         clear p13 t13 g13 F13 b13 o13 e13))
    go_ret
    exact ⟨rfl, B13.out⟩
  · have HNI : Hid (¬ ∃ (j : Nat) (p : Pm), (0 : Int) = j ∧ ([⟨1, 0, l0⟩, ⟨2, 0, l1⟩] : List Pm)[j]? = some p ∧ 0 ≤ K ∧ K < (p.l.length : Int)) := by
      rintro ⟨j, p, h1, h2, h3⟩
      obtain rfl : j = 0 := by omega
      obtain rfl := Option.some.inj h2
      have h4 := HN0.out
      simp only [h4] at h3
      exact hin h3
    by_cases hk0 : 0 ≤ K
    · have hk1 : ¬ K < (n0 : Int) := fun h => hin ⟨hk0, h⟩
      have hk2 : decide (K < (n0 : Int)) = false := by simp only [hk1, decide_false]
      clear hin hx
      go_enter Try.func7, Try.ntmps7
      go_wp2_with fail
      (with_reducible refine HG.out.mono ?_)
      rintro e w1 ⟨rfl, b1⟩
      have HNw := Lib.hid (nf_new w w1 b1 noB (no_noB w w1))
      clear HG b1
      go_wp2_with fail
      (with_reducible refine HNw.out.mono ?_)
      rintro e w2 ⟨rfl, F2, -⟩
      have HSe := Lib.hid (nf_send F2 1 0 A0 n0 cap0 l0 ((H0.out.below F2.be).more F2.be.size) HN0.out (by decide) (by omega))
      clear HNw F2
      go_wp2_with fail
      (with_reducible refine HSe.out.mono ?_)
      rintro e w3 ⟨rfl, F3, -⟩
      have HSe2 := Lib.hid (nf_send F3 2 0 A1 n1 cap1 l1 ((H1.out.below F3.be).more F3.be.size) HN1.out (by simp) (by omega))
      clear HSe F3
      go_wp2_with fail
      (with_reducible refine HSe2.out.mono ?_)
      rintro e w4 ⟨rfl, F4, -⟩
      have F4 : NF w w4 w1.heap.size [⟨1, 0, l0⟩, ⟨2, 0, l1⟩] noB := F4
      clear HSe2
      have HP1 := Lib.hid (nf_spoilno F4 (by simp) 0 K X HNI.out)
      have HL := Lib.hid (nf_look F4 (by simp) 0 0 rfl ⟨1, 0, l0⟩ rfl n0 HN0.out)
      have HF5 := Lib.hid F4
      clear F4
      go_wp2_with fail
      (with_reducible refine HP1.out.mono ?_)
      rintro e w5 ⟨rfl, rfl⟩
      clear HP1
      go_wp2_with fail
      (with_reducible refine HL.out.mono ?_)
      rintro e w6 ⟨A6, c6, rfl, o6, b6⟩
      have HO6 := Lib.hid o6; have HB6 := Lib.hid b6
      clear HL o6 b6
      go_wp2_with (first
        | (refine wpList_store_ml rfl (.tmp 12) (.tmp 55) rfl w6.heap.size (by rfl) (MlM.new w6 0 0 none 0 0) (by rfl) ?_; intro w7 p7 t7 g7))
      obtain ⟨F7, b7, o7, e7⟩ := NF.laid HF5.out HB6.out w6.heap.size rfl 1 0 A6 n0 c6 l0 HO6.out g7
      have HP2 := Lib.hid (nf_spoilno F7.drew (by simp) 0 K X HNI.out)
      have HP3 := Lib.hid (nf_spoilno F7.drew (by simp) 2 0 1 (two_no _ _ _))
      have HF8 := Lib.hid F7.drew
      clear p7 t7 g7 F7 b7 o7 e7 HF5 HO6 HB6
      go_wp2_with fail
      refine wp_region_held_drew (S := (fun _ => True)) (by kernel_rfl) (trivial) (fun hHeld => ?_)
      refine held_take (i := 0) (v := ?_) rfl (by kernel_rfl) (by kernel_rfl) (by kernel_rfl) (fun _ _ _ h => h) (by rfl) hHeld ?_ ?_
      rotate_left 1
      · (intro w hSw; (try dsimp only at hSw); go_simp; try (with_reducible rfl))
      try simp only [Act.put, List.setIfInBounds_toArray, List.set_cons_zero, List.set_cons_succ]
      refine held_take (i := 1) (v := ?_) rfl (by kernel_rfl) (by kernel_rfl) (by kernel_rfl) (fun _ _ _ h => h) (by rfl) hHeld ?_ ?_
      rotate_left 1
      · (intro w hSw; (try dsimp only at hSw); go_simp; try (with_reducible rfl))
      try simp only [Act.put, List.setIfInBounds_toArray, List.set_cons_zero, List.set_cons_succ]
      refine held_off (i := 2) rfl (by kernel_rfl) (by kernel_rfl) (by kernel_rfl) (fun _ _ _ h => h) (by rfl) hHeld ?_
      try simp only [Act.put, List.setIfInBounds_toArray, List.set_cons_zero, List.set_cons_succ]
      refine held_off (i := 3) rfl (by kernel_rfl) (by kernel_rfl) (by kernel_rfl) (fun _ _ _ h => h) (by rfl) hHeld ?_
      try simp only [Act.put, List.setIfInBounds_toArray, List.set_cons_zero, List.set_cons_succ]
      refine held_off (i := 4) rfl (by kernel_rfl) (by kernel_rfl) (by kernel_rfl) (fun _ _ _ h => h) (by rfl) hHeld ?_
      try simp only [Act.put, List.setIfInBounds_toArray, List.set_cons_zero, List.set_cons_succ]
      refine held_off (i := 5) rfl (by kernel_rfl) (by kernel_rfl) (by kernel_rfl) (fun _ _ _ h => h) (by rfl) hHeld ?_
      try simp only [Act.put, List.setIfInBounds_toArray, List.set_cons_zero, List.set_cons_succ]
      refine held_off (i := 6) rfl (by kernel_rfl) (by kernel_rfl) (by kernel_rfl) (fun _ _ _ h => h) (by rfl) hHeld ?_
      try simp only [Act.put, List.setIfInBounds_toArray, List.set_cons_zero, List.set_cons_succ]
      refine held_off (i := 7) rfl (by kernel_rfl) (by kernel_rfl) (by kernel_rfl) (fun _ _ _ h => h) (by rfl) hHeld ?_
      try simp only [Act.put, List.setIfInBounds_toArray, List.set_cons_zero, List.set_cons_succ]
      refine held_off (i := 8) rfl (by kernel_rfl) (by kernel_rfl) (by kernel_rfl) (fun _ _ _ h => h) (by rfl) hHeld ?_
      try simp only [Act.put, List.setIfInBounds_toArray, List.set_cons_zero, List.set_cons_succ]
      refine held_off (i := 9) rfl (by kernel_rfl) (by kernel_rfl) (by kernel_rfl) (fun _ _ _ h => h) (by rfl) hHeld ?_
      try simp only [Act.put, List.setIfInBounds_toArray, List.set_cons_zero, List.set_cons_succ]
      refine held_off (i := 10) rfl (by kernel_rfl) (by kernel_rfl) (by kernel_rfl) (fun _ _ _ h => h) (by rfl) hHeld ?_
      try simp only [Act.put, List.setIfInBounds_toArray, List.set_cons_zero, List.set_cons_succ]
      refine held_off (i := 11) rfl (by kernel_rfl) (by kernel_rfl) (by kernel_rfl) (fun _ _ _ h => h) (by rfl) hHeld ?_
      try simp only [Act.put, List.setIfInBounds_toArray, List.set_cons_zero, List.set_cons_succ]
      refine held_off (i := 12) rfl (by kernel_rfl) (by kernel_rfl) (by kernel_rfl) (fun _ _ _ h => h) (by rfl) hHeld ?_
      try simp only [Act.put, List.setIfInBounds_toArray, List.set_cons_zero, List.set_cons_succ]
      refine held_off (i := 13) rfl (by kernel_rfl) (by kernel_rfl) (by kernel_rfl) (fun _ _ _ h => h) (by rfl) hHeld ?_
      try simp only [Act.put, List.setIfInBounds_toArray, List.set_cons_zero, List.set_cons_succ]
      refine held_take (i := 14) (v := ?_) rfl (by kernel_rfl) (by kernel_rfl) (by kernel_rfl) (fun _ _ _ h => h) (by rfl) hHeld ?_ ?_
      rotate_left 1
      · (intro w hSw; (try dsimp only at hSw); go_simp; try (with_reducible rfl))
      try simp only [Act.put, List.setIfInBounds_toArray, List.set_cons_zero, List.set_cons_succ]
      refine held_take (i := 15) (v := ?_) rfl (by kernel_rfl) (by kernel_rfl) (by kernel_rfl) (fun _ _ _ h => h) (by rfl) hHeld ?_ ?_
      rotate_left 1
      · (intro w hSw; (try dsimp only at hSw); go_simp; try (with_reducible rfl))
      try simp only [Act.put, List.setIfInBounds_toArray, List.set_cons_zero, List.set_cons_succ]
      refine held_take (i := 16) (v := ?_) rfl (by kernel_rfl) (by kernel_rfl) (by kernel_rfl) (fun _ _ _ h => h) (by rfl) hHeld ?_ ?_
      rotate_left 1
      · (intro w hSw; (try dsimp only at hSw); go_simp; try (with_reducible rfl))
      try simp only [Act.put, List.setIfInBounds_toArray, List.set_cons_zero, List.set_cons_succ]
      refine held_take (i := 17) (v := ?_) rfl (by kernel_rfl) (by kernel_rfl) (by kernel_rfl) (fun _ _ _ h => h) (by rfl) hHeld ?_ ?_
      rotate_left 1
      · (intro w hSw; (try dsimp only at hSw); go_simp; try (with_reducible rfl))
      try simp only [Act.put, List.setIfInBounds_toArray, List.set_cons_zero, List.set_cons_succ]
      refine held_take (i := 18) (v := ?_) rfl (by kernel_rfl) (by kernel_rfl) (by kernel_rfl) (fun _ _ _ h => h) (by rfl) hHeld ?_ ?_
      rotate_left 1
      · (intro w hSw; (try dsimp only at hSw); go_simp; try (with_reducible rfl))
      try simp only [Act.put, List.setIfInBounds_toArray, List.set_cons_zero, List.set_cons_succ]
      refine held_take (i := 20) (v := ?_) rfl (by kernel_rfl) (by kernel_rfl) (by kernel_rfl) (fun _ _ _ h => h) (by rfl) hHeld ?_ ?_
      rotate_left 1
      · (intro w hSw; (try dsimp only at hSw); go_simp; try (with_reducible rfl))
      try simp only [Act.put, List.setIfInBounds_toArray, List.set_cons_zero, List.set_cons_succ]
      refine held_one (i := 19) rfl (by kernel_rfl) (by rfl) (fun K hK => ?_)
      go_simp
      with_reducible refine HP2.out.mono ?_
      rintro e w8 ⟨rfl, rfl⟩
      refine hK.out _ _ (trivial) (fun hHeld2 => ?_)
      clear hK K hHeld; have hHeld := hHeld2; clear hHeld2
      try simp only [Act.put, List.setIfInBounds_toArray, List.set_cons_zero, List.set_cons_succ]
      refine held_take (i := 21) (v := ?_) rfl (by kernel_rfl) (by kernel_rfl) (by kernel_rfl) (fun _ _ _ h => h) (by rfl) hHeld ?_ ?_
      rotate_left 1
      · (intro w hSw; (try dsimp only at hSw); go_simp; try (with_reducible rfl))
      try simp only [Act.put, List.setIfInBounds_toArray, List.set_cons_zero, List.set_cons_succ]
      refine held_take (i := 22) (v := ?_) rfl (by kernel_rfl) (by kernel_rfl) (by kernel_rfl) (fun _ _ _ h => h) (by rfl) hHeld ?_ ?_
      rotate_left 1
      · (intro w hSw; (try dsimp only at hSw); go_simp; try (with_reducible rfl))
      try simp only [Act.put, List.setIfInBounds_toArray, List.set_cons_zero, List.set_cons_succ]
      refine held_take (i := 23) (v := ?_) rfl (by kernel_rfl) (by kernel_rfl) (by kernel_rfl) (fun _ _ _ h => h) (by rfl) hHeld ?_ ?_
      rotate_left 1
      · (intro w hSw; (try dsimp only at hSw); go_simp; try (with_reducible rfl))
      try simp only [Act.put, List.setIfInBounds_toArray, List.set_cons_zero, List.set_cons_succ]
      refine held_take (i := 24) (v := ?_) rfl (by kernel_rfl) (by kernel_rfl) (by kernel_rfl) (fun _ _ _ h => h) (by rfl) hHeld ?_ ?_
      rotate_left 1
      · (intro w hSw; (try dsimp only at hSw); go_simp; try (with_reducible rfl))
      try simp only [Act.put, List.setIfInBounds_toArray, List.set_cons_zero, List.set_cons_succ]
      refine held_one (i := 25) rfl (by kernel_rfl) (by rfl) (fun K hK => ?_)
      go_simp
      with_reducible refine HP3.out.mono ?_
      rintro e w9 ⟨rfl, rfl⟩
      refine hK.out _ _ (trivial) (fun hHeld2 => ?_)
      clear hK K hHeld; have hHeld := hHeld2; clear hHeld2
      try simp only [Act.put, List.setIfInBounds_toArray, List.set_cons_zero, List.set_cons_succ]
      refine held_take (i := 26) (v := ?_) rfl (by kernel_rfl) (by kernel_rfl) (by kernel_rfl) (fun _ _ _ h => h) (by rfl) hHeld ?_ ?_
      rotate_left 1
      · (intro w hSw; (try dsimp only at hSw); go_simp; try (with_reducible rfl))
      try simp only [Act.put, List.setIfInBounds_toArray, List.set_cons_zero, List.set_cons_succ]
      refine wpAnyH_done (by kernel_rfl) ?_ _
      skip
      have HLp := Lib.hid (nf_look (ps := [⟨1, 0, l0⟩, ⟨2, 0, l1⟩]) (HF8.out) (by simp) 0 0 rfl ⟨1, 0, l0⟩ rfl n0 HN0.out)
      have HFp := Lib.hid (HF8.out)
      have HBp := Lib.hid HFp.out.be
      go_wp2_with fail
      (with_reducible refine HLp.out.mono ?_)
      rintro e w10 ⟨A10, c10, rfl, o10, b10⟩
      have HO10 := Lib.hid o10; have HB10 := Lib.hid b10
      clear HLp o10 b10
      go_wp2_with (first
        | (refine wpList_store_ml rfl (.tmp 14) (.tmp 87) rfl w10.heap.size (by rfl) (MlM.new w10 0 0 none 0 0) (by rfl) ?_; intro w11 p11 t11 g11))
      obtain ⟨F11, b11, o11, e11⟩ := NF.laid HFp.out HB10.out w10.heap.size rfl 1 0 A10 n0 c10 l0 HO10.out g11
      have P11 := Lib.hid p11
      have HLq := Lib.hid (nf_look (ps := [⟨1, 0, l0⟩, ⟨2, 0, l1⟩]) F11 (by simp) 1 1 rfl ⟨2, 0, l1⟩ rfl n1 HN1.out)
      have HF11 := Lib.hid F11; have HO11 := Lib.hid o11
      clear HFp HBp HO10 HB10 p11 t11 g11 F11 b11 o11 e11
      go_wp2_with fail
      (with_reducible refine HLq.out.mono ?_)
      rintro e w12 ⟨A12, c12, rfl, o12, b12⟩
      have HO12 := Lib.hid o12; have HB12 := Lib.hid b12
      clear HLq o12 b12
      go_wp2_with (first
        | (refine wpList_store_ml rfl (.tmp 16) (.tmp 92) rfl w12.heap.size (by rfl) (MlM.new w12 0 0 none 0 0) (by rfl) ?_; intro w13 p13 t13 g13
           obtain ⟨F13, b13, o13, e13⟩ := NF.laid HF11.out HB12.out w12.heap.size rfl 2 0 A12 n1 c12 l1 HO12.out g13
           obtain ⟨u0, u1, u2⟩ := p13.c
           obtain ⟨y0, y1, y2⟩ := ((P11.out.then_ HB12.out).then_ e13).c
           have B13 := Lib.hid F13.be
           have q1 : (convert 27 9 (.slice A10 n0 c10)).run Try.prog w13 = .ok (.string s0) w13 := by rw [← HS0.out]; exact conv_rb (HO11.out.cells.below b13) n0 c10 HN0.out
           have q2 : (convert 27 9 (.slice A0 n0 cap0)).run Try.prog w13 = .ok (.string s0) w13 := by rw [← HS0.out]; exact conv_rb (H0.out.below F13.be) n0 cap0 HN0.out
           have q3 : (convert 27 9 (.slice A12 n1 c12)).run Try.prog w13 = .ok (.string s1) w13 := by rw [← HS1.out]; exact conv_rb o13.cells n1 c12 HN1.out
           have q4 : (convert 27 9 (.slice A1 n1 cap1)).run Try.prog w13 = .ok (.string s1) w13 := by rw [← HS1.out]; exact conv_rb (H1.out.below F13.be) n1 cap1 HN1.out
           clear p13 t13 g13 F13 b13 o13 e13))
      go_ret
      exact ⟨rfl, B13.out⟩
    · clear hin hx
      go_enter Try.func7, Try.ntmps7
      go_wp2_with fail
      (with_reducible refine HG.out.mono ?_)
      rintro e w1 ⟨rfl, b1⟩
      have HNw := Lib.hid (nf_new w w1 b1 noB (no_noB w w1))
      clear HG b1
      go_wp2_with fail
      (with_reducible refine HNw.out.mono ?_)
      rintro e w2 ⟨rfl, F2, -⟩
      have HSe := Lib.hid (nf_send F2 1 0 A0 n0 cap0 l0 ((H0.out.below F2.be).more F2.be.size) HN0.out (by decide) (by omega))
      clear HNw F2
      go_wp2_with fail
      (with_reducible refine HSe.out.mono ?_)
      rintro e w3 ⟨rfl, F3, -⟩
      have HSe2 := Lib.hid (nf_send F3 2 0 A1 n1 cap1 l1 ((H1.out.below F3.be).more F3.be.size) HN1.out (by simp) (by omega))
      clear HSe F3
      go_wp2_with fail
      (with_reducible refine HSe2.out.mono ?_)
      rintro e w4 ⟨rfl, F4, -⟩
      have F4 : NF w w4 w1.heap.size [⟨1, 0, l0⟩, ⟨2, 0, l1⟩] noB := F4
      clear HSe2
      have HP1 := Lib.hid (nf_spoilno F4 (by simp) 0 K X HNI.out)
      have HL := Lib.hid (nf_look F4 (by simp) 0 0 rfl ⟨1, 0, l0⟩ rfl n0 HN0.out)
      have HF5 := Lib.hid F4
      clear F4
      go_wp2_with fail
      (with_reducible refine HP1.out.mono ?_)
      rintro e w5 ⟨rfl, rfl⟩
      clear HP1
      go_wp2_with fail
      (with_reducible refine HL.out.mono ?_)
      rintro e w6 ⟨A6, c6, rfl, o6, b6⟩
      have HO6 := Lib.hid o6; have HB6 := Lib.hid b6
      clear HL o6 b6
      go_wp2_with (first
        | (refine wpList_store_ml rfl (.tmp 12) (.tmp 55) rfl w6.heap.size (by rfl) (MlM.new w6 0 0 none 0 0) (by rfl) ?_; intro w7 p7 t7 g7))
      obtain ⟨F7, b7, o7, e7⟩ := NF.laid HF5.out HB6.out w6.heap.size rfl 1 0 A6 n0 c6 l0 HO6.out g7
      have HP2 := Lib.hid (nf_spoilno F7.drew (by simp) 0 K X HNI.out)
      have HP3 := Lib.hid (nf_spoilno F7.drew (by simp) 2 0 1 (two_no _ _ _))
      have HF8 := Lib.hid F7.drew
      clear p7 t7 g7 F7 b7 o7 e7 HF5 HO6 HB6
      go_wp2_with fail
      refine wp_region_held_drew (S := (fun _ => True)) (by kernel_rfl) (trivial) (fun hHeld => ?_)
      refine held_take (i := 0) (v := ?_) rfl (by kernel_rfl) (by kernel_rfl) (by kernel_rfl) (fun _ _ _ h => h) (by rfl) hHeld ?_ ?_
      rotate_left 1
      · (intro w hSw; (try dsimp only at hSw); go_simp; try (with_reducible rfl))
      try simp only [Act.put, List.setIfInBounds_toArray, List.set_cons_zero, List.set_cons_succ]
      refine held_take (i := 1) (v := ?_) rfl (by kernel_rfl) (by kernel_rfl) (by kernel_rfl) (fun _ _ _ h => h) (by rfl) hHeld ?_ ?_
      rotate_left 1
      · (intro w hSw; (try dsimp only at hSw); go_simp; try (with_reducible rfl))
      try simp only [Act.put, List.setIfInBounds_toArray, List.set_cons_zero, List.set_cons_succ]
      refine held_off (i := 2) rfl (by kernel_rfl) (by kernel_rfl) (by kernel_rfl) (fun _ _ _ h => h) (by rfl) hHeld ?_
      try simp only [Act.put, List.setIfInBounds_toArray, List.set_cons_zero, List.set_cons_succ]
      refine held_off (i := 3) rfl (by kernel_rfl) (by kernel_rfl) (by kernel_rfl) (fun _ _ _ h => h) (by rfl) hHeld ?_
      try simp only [Act.put, List.setIfInBounds_toArray, List.set_cons_zero, List.set_cons_succ]
      refine held_off (i := 4) rfl (by kernel_rfl) (by kernel_rfl) (by kernel_rfl) (fun _ _ _ h => h) (by rfl) hHeld ?_
      try simp only [Act.put, List.setIfInBounds_toArray, List.set_cons_zero, List.set_cons_succ]
      refine held_off (i := 5) rfl (by kernel_rfl) (by kernel_rfl) (by kernel_rfl) (fun _ _ _ h => h) (by rfl) hHeld ?_
      try simp only [Act.put, List.setIfInBounds_toArray, List.set_cons_zero, List.set_cons_succ]
      refine held_off (i := 6) rfl (by kernel_rfl) (by kernel_rfl) (by kernel_rfl) (fun _ _ _ h => h) (by rfl) hHeld ?_
      try simp only [Act.put, List.setIfInBounds_toArray, List.set_cons_zero, List.set_cons_succ]
      refine held_off (i := 7) rfl (by kernel_rfl) (by kernel_rfl) (by kernel_rfl) (fun _ _ _ h => h) (by rfl) hHeld ?_
      try simp only [Act.put, List.setIfInBounds_toArray, List.set_cons_zero, List.set_cons_succ]
      refine held_off (i := 8) rfl (by kernel_rfl) (by kernel_rfl) (by kernel_rfl) (fun _ _ _ h => h) (by rfl) hHeld ?_
      try simp only [Act.put, List.setIfInBounds_toArray, List.set_cons_zero, List.set_cons_succ]
      refine held_off (i := 9) rfl (by kernel_rfl) (by kernel_rfl) (by kernel_rfl) (fun _ _ _ h => h) (by rfl) hHeld ?_
      try simp only [Act.put, List.setIfInBounds_toArray, List.set_cons_zero, List.set_cons_succ]
      refine held_off (i := 10) rfl (by kernel_rfl) (by kernel_rfl) (by kernel_rfl) (fun _ _ _ h => h) (by rfl) hHeld ?_
      try simp only [Act.put, List.setIfInBounds_toArray, List.set_cons_zero, List.set_cons_succ]
      refine held_off (i := 11) rfl (by kernel_rfl) (by kernel_rfl) (by kernel_rfl) (fun _ _ _ h => h) (by rfl) hHeld ?_
      try simp only [Act.put, List.setIfInBounds_toArray, List.set_cons_zero, List.set_cons_succ]
      refine held_off (i := 12) rfl (by kernel_rfl) (by kernel_rfl) (by kernel_rfl) (fun _ _ _ h => h) (by rfl) hHeld ?_
      try simp only [Act.put, List.setIfInBounds_toArray, List.set_cons_zero, List.set_cons_succ]
      refine held_off (i := 13) rfl (by kernel_rfl) (by kernel_rfl) (by kernel_rfl) (fun _ _ _ h => h) (by rfl) hHeld ?_
      try simp only [Act.put, List.setIfInBounds_toArray, List.set_cons_zero, List.set_cons_succ]
      refine held_take (i := 14) (v := ?_) rfl (by kernel_rfl) (by kernel_rfl) (by kernel_rfl) (fun _ _ _ h => h) (by rfl) hHeld ?_ ?_
      rotate_left 1
      · (intro w hSw; (try dsimp only at hSw); go_simp; try (with_reducible rfl))
      try simp only [Act.put, List.setIfInBounds_toArray, List.set_cons_zero, List.set_cons_succ]
      refine held_take (i := 15) (v := ?_) rfl (by kernel_rfl) (by kernel_rfl) (by kernel_rfl) (fun _ _ _ h => h) (by rfl) hHeld ?_ ?_
      rotate_left 1
      · (intro w hSw; (try dsimp only at hSw); go_simp; try (with_reducible rfl))
      try simp only [Act.put, List.setIfInBounds_toArray, List.set_cons_zero, List.set_cons_succ]
      refine held_take (i := 16) (v := ?_) rfl (by kernel_rfl) (by kernel_rfl) (by kernel_rfl) (fun _ _ _ h => h) (by rfl) hHeld ?_ ?_
      rotate_left 1
      · (intro w hSw; (try dsimp only at hSw); go_simp; try (with_reducible rfl))
      try simp only [Act.put, List.setIfInBounds_toArray, List.set_cons_zero, List.set_cons_succ]
      refine held_take (i := 17) (v := ?_) rfl (by kernel_rfl) (by kernel_rfl) (by kernel_rfl) (fun _ _ _ h => h) (by rfl) hHeld ?_ ?_
      rotate_left 1
      · (intro w hSw; (try dsimp only at hSw); go_simp; try (with_reducible rfl))
      try simp only [Act.put, List.setIfInBounds_toArray, List.set_cons_zero, List.set_cons_succ]
      refine held_take (i := 18) (v := ?_) rfl (by kernel_rfl) (by kernel_rfl) (by kernel_rfl) (fun _ _ _ h => h) (by rfl) hHeld ?_ ?_
      rotate_left 1
      · (intro w hSw; (try dsimp only at hSw); go_simp; try (with_reducible rfl))
      try simp only [Act.put, List.setIfInBounds_toArray, List.set_cons_zero, List.set_cons_succ]
      refine held_take (i := 20) (v := ?_) rfl (by kernel_rfl) (by kernel_rfl) (by kernel_rfl) (fun _ _ _ h => h) (by rfl) hHeld ?_ ?_
      rotate_left 1
      · (intro w hSw; (try dsimp only at hSw); go_simp; try (with_reducible rfl))
      try simp only [Act.put, List.setIfInBounds_toArray, List.set_cons_zero, List.set_cons_succ]
      refine held_one (i := 19) rfl (by kernel_rfl) (by rfl) (fun K hK => ?_)
      go_simp
      with_reducible refine HP2.out.mono ?_
      rintro e w8 ⟨rfl, rfl⟩
      refine hK.out _ _ (trivial) (fun hHeld2 => ?_)
      clear hK K hHeld; have hHeld := hHeld2; clear hHeld2
      try simp only [Act.put, List.setIfInBounds_toArray, List.set_cons_zero, List.set_cons_succ]
      refine held_take (i := 21) (v := ?_) rfl (by kernel_rfl) (by kernel_rfl) (by kernel_rfl) (fun _ _ _ h => h) (by rfl) hHeld ?_ ?_
      rotate_left 1
      · (intro w hSw; (try dsimp only at hSw); go_simp; try (with_reducible rfl))
      try simp only [Act.put, List.setIfInBounds_toArray, List.set_cons_zero, List.set_cons_succ]
      refine held_take (i := 22) (v := ?_) rfl (by kernel_rfl) (by kernel_rfl) (by kernel_rfl) (fun _ _ _ h => h) (by rfl) hHeld ?_ ?_
      rotate_left 1
      · (intro w hSw; (try dsimp only at hSw); go_simp; try (with_reducible rfl))
      try simp only [Act.put, List.setIfInBounds_toArray, List.set_cons_zero, List.set_cons_succ]
      refine held_take (i := 23) (v := ?_) rfl (by kernel_rfl) (by kernel_rfl) (by kernel_rfl) (fun _ _ _ h => h) (by rfl) hHeld ?_ ?_
      rotate_left 1
      · (intro w hSw; (try dsimp only at hSw); go_simp; try (with_reducible rfl))
      try simp only [Act.put, List.setIfInBounds_toArray, List.set_cons_zero, List.set_cons_succ]
      refine held_take (i := 24) (v := ?_) rfl (by kernel_rfl) (by kernel_rfl) (by kernel_rfl) (fun _ _ _ h => h) (by rfl) hHeld ?_ ?_
      rotate_left 1
      · (intro w hSw; (try dsimp only at hSw); go_simp; try (with_reducible rfl))
      try simp only [Act.put, List.setIfInBounds_toArray, List.set_cons_zero, List.set_cons_succ]
      refine held_one (i := 25) rfl (by kernel_rfl) (by rfl) (fun K hK => ?_)
      go_simp
      with_reducible refine HP3.out.mono ?_
      rintro e w9 ⟨rfl, rfl⟩
      refine hK.out _ _ (trivial) (fun hHeld2 => ?_)
      clear hK K hHeld; have hHeld := hHeld2; clear hHeld2
      try simp only [Act.put, List.setIfInBounds_toArray, List.set_cons_zero, List.set_cons_succ]
      refine held_take (i := 26) (v := ?_) rfl (by kernel_rfl) (by kernel_rfl) (by kernel_rfl) (fun _ _ _ h => h) (by rfl) hHeld ?_ ?_
      rotate_left 1
      · (intro w hSw; (try dsimp only at hSw); go_simp; try (with_reducible rfl))
      try simp only [Act.put, List.setIfInBounds_toArray, List.set_cons_zero, List.set_cons_succ]
      refine wpAnyH_done (by kernel_rfl) ?_ _
      skip
      have HLp := Lib.hid (nf_look (ps := [⟨1, 0, l0⟩, ⟨2, 0, l1⟩]) (HF8.out) (by simp) 0 0 rfl ⟨1, 0, l0⟩ rfl n0 HN0.out)
      have HFp := Lib.hid (HF8.out)
      have HBp := Lib.hid HFp.out.be
      go_wp2_with fail
      (with_reducible refine HLp.out.mono ?_)
      rintro e w10 ⟨A10, c10, rfl, o10, b10⟩
      have HO10 := Lib.hid o10; have HB10 := Lib.hid b10
      clear HLp o10 b10
      go_wp2_with (first
        | (refine wpList_store_ml rfl (.tmp 14) (.tmp 87) rfl w10.heap.size (by rfl) (MlM.new w10 0 0 none 0 0) (by rfl) ?_; intro w11 p11 t11 g11))
      obtain ⟨F11, b11, o11, e11⟩ := NF.laid HFp.out HB10.out w10.heap.size rfl 1 0 A10 n0 c10 l0 HO10.out g11
      have P11 := Lib.hid p11
      have HLq := Lib.hid (nf_look (ps := [⟨1, 0, l0⟩, ⟨2, 0, l1⟩]) F11 (by simp) 1 1 rfl ⟨2, 0, l1⟩ rfl n1 HN1.out)
      have HF11 := Lib.hid F11; have HO11 := Lib.hid o11
      clear HFp HBp HO10 HB10 p11 t11 g11 F11 b11 o11 e11
      go_wp2_with fail
      (with_reducible refine HLq.out.mono ?_)
      rintro e w12 ⟨A12, c12, rfl, o12, b12⟩
      have HO12 := Lib.hid o12; have HB12 := Lib.hid b12
      clear HLq o12 b12
      go_wp2_with (first
        | (refine wpList_store_ml rfl (.tmp 16) (.tmp 92) rfl w12.heap.size (by rfl) (MlM.new w12 0 0 none 0 0) (by rfl) ?_; intro w13 p13 t13 g13
           obtain ⟨F13, b13, o13, e13⟩ := NF.laid HF11.out HB12.out w12.heap.size rfl 2 0 A12 n1 c12 l1 HO12.out g13
           obtain ⟨u0, u1, u2⟩ := p13.c
           obtain ⟨y0, y1, y2⟩ := ((P11.out.then_ HB12.out).then_ e13).c
           have B13 := Lib.hid F13.be
           have q1 : (convert 27 9 (.slice A10 n0 c10)).run Try.prog w13 = .ok (.string s0) w13 := by rw [← HS0.out]; exact conv_rb (HO11.out.cells.below b13) n0 c10 HN0.out
           have q2 : (convert 27 9 (.slice A0 n0 cap0)).run Try.prog w13 = .ok (.string s0) w13 := by rw [← HS0.out]; exact conv_rb (H0.out.below F13.be) n0 cap0 HN0.out
           have q3 : (convert 27 9 (.slice A12 n1 c12)).run Try.prog w13 = .ok (.string s1) w13 := by rw [← HS1.out]; exact conv_rb o13.cells n1 c12 HN1.out
           have q4 : (convert 27 9 (.slice A1 n1 cap1)).run Try.prog w13 = .ok (.string s1) w13 := by rw [← HS1.out]; exact conv_rb (H1.out.below F13.be) n1 cap1 HN1.out
           clear p13 t13 g13 F13 b13 o13 e13))
      go_ret
      exact ⟨rfl, B13.out⟩
end Go.Proofs.Ytolnafpicfemnaa
