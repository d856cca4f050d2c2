/- WALK of the law PredictCounts. -/
import Derived.Test.YtphcbeccipjlgaaFw
namespace Go.Proofs.Ytphcbeccipjlgaa
set_option maxRecDepth 100000
open Go.RowKit Go.Maps
set_option linter.unusedVariables false
set_option linter.unusedSimpArgs false

set_option maxHeartbeats 4000000 in
theorem count_any (x : UInt8) (N M o : Nat) (P : Option Addr) (p : List UInt8) (L pc : Nat) (w : World) (hp : PM w P p L pc) (hl : L ≤ 1000) (ho : o ≤ L) (ho3 : o ≤ 3) (c0 : w.cell? ⟨N, 0, none⟩ = some (.int .i64 (o : Int))) (c1 : w.cell? ⟨M, 0, none⟩ = some (.slice P L pc)) :
    Calls Try.prog 21 #[.int .u8 (x.toNat : Int), .pointer (some ⟨N, 0, none⟩), .pointer (some ⟨M, 0, none⟩)] w fun e w' => e = .returned (.int .i64 (wts o (endN o p) p L x.toNat)) ∧ Below w.heap.size w w' := by
  have HP := Lib.hid hp
  have C0 := Lib.hid c0; have C1 := Lib.hid c1
  have hpm := hp.cm
  unfold maxLen at hpm
  have hpn := hp.nc
  obtain ⟨lo, hlo⟩ : ∃ lo : Nat, (L : Int) - (o : Int) = lo := ⟨L - o, by omega⟩
  have HLo : Hid (lo = L - o) := by unfold Hid; omega
  have hLlo : L - lo = o := by omega
  have hloL : lo ≤ L := by omega
  obtain ⟨E, hE⟩ : ∃ E, endN o p = E := ⟨_, rfl⟩
  have HE : Hid (p.drop lo = E) := by rw [← hE]; unfold endN Hid; rw [hp.len, HLo.out]
  rw [hE]
  obtain ⟨X, hX⟩ : ∃ X, x.toNat = X := ⟨_, rfl⟩
  rw [hX]
  clear hp hE hX
  go_enter Try.func21, Try.ntmps21
  go_wp2_with fail
  clear c0 c1
  go_loopw [5, 6] (fun s5 s6 wr => ∃ (i : Nat) (y : Int), s5 = .int .i64 y ∧ s6 = .int .i64 i ∧ o ≤ i ∧ i ≤ L ∧ Hid (y = wts o E p i X) ∧ ∃ k, w.drewN k = wr) (fun _ v _ => L - (intOf v).toNat)
  case atStart => exact ⟨o, 0, rfl, rfl, Nat.le_refl _, ho, (wts_low o E p X o (Nat.le_refl _)).symm, 0, rfl⟩
  case round =>
    obtain ⟨i, y, rfl, rfl, hoi, hiL, HY, k, hwr⟩ := hrel
    have c0 : wr.cell? ⟨N, 0, none⟩ = some (.int .i64 (o : Int)) := by rw [← hwr]; exact C0.out
    have c1 : wr.cell? ⟨M, 0, none⟩ = some (.slice P L pc) := by rw [← hwr]; exact C1.out
    have HPr : Hid (RB wr w.heap.size P p) := by rw [← hwr]; exact HP.out.t.below (below_drewN (Below.refl _ _) k)
    have HBr : Hid (Below w.heap.size w wr) := by rw [← hwr]; exact below_drewN (Below.refl _ _) k
    have HNew : Hid (∃ k, w.drewN k = wr.drew) := ⟨k + 1, by rw [← hwr]; rfl⟩
    clear hwr
    by_cases hlt : i < L
    · have hltz : (i : Int) < (L : Int) := by omega
      obtain ⟨pb, po, rfl, hpb, -⟩ := HPr.out (by rw [HP.out.len]; omega)
      have cx := HPr.out.cell_ i (by rw [HP.out.len]; exact hlt)
      obtain ⟨V, hV⟩ : ∃ V, (p.getD i 0).toNat = V := ⟨_, rfl⟩
      rw [hV] at cx
      have hyb : 0 ≤ y ∧ y ≤ 1000 := by
        have := wts_nonneg o E p X i
        rw [HY.out]; omega
      by_cases hVX : V = X
      · subst hVX
        obtain ⟨io, hio⟩ : ∃ io : Nat, (i : Int) - (o : Int) = io := ⟨i - o, by omega⟩
        have HIO : Hid (io = i - o) := by unfold Hid; omega
        have hne : ¬ pc = io := by omega
        have hio2 : io ≤ i := by omega
        have hipc : i ≤ pc := by omega
        have hlen : i - io = o := by omega
        have hdr : Below w.heap.size wr wr.drew := (Below.refl _ _).drew
        have hsub := (HPr.out.below hdr).sub io o pc (by rw [HP.out.len]; omega) (by rw [HP.out.len]; exact hpn)
        rw [if_neg hne] at hsub
        have cv1 := conv_rb hsub o (pc - io) (by rw [List.length_take, List.length_drop, HP.out.len]; omega)
        simp only [Option.map_some, Addr.add_lit] at cv1
        obtain ⟨x1, hx1⟩ : ∃ x1, (p.drop io).take o = x1 := ⟨_, rfl⟩
        rw [hx1] at cv1
        have hcut := (HPr.out.below hdr).cut lo pc (by rw [HP.out.len]; exact hloL) (by rw [HP.out.len]; exact hpn)
        rw [HE.out] at hcut
        have hEl : E.length = o := by rw [← HE.out, List.length_drop, HP.out.len]; exact hLlo
        have cv2 := conv_rb hcut o (pc - lo) hEl
        have HX1 := Lib.hid hx1
        have HVV := Lib.hid hV
        clear hx1 hV hsub hcut hEl hdr
        by_cases hxe : x1 = E
        · subst hxe
          have HY2 : Hid (y + 1 = wts o x1 p (i + 1) V) := by
            have h0 : wts o x1 p (i + 1) V = wts o x1 p i V + (if hit o x1 p i V then 1 else 0) := rfl
            unfold Hid
            rw [h0, ← HY.out, if_pos ⟨hoi, by rw [← HIO.out]; exact HX1.out, HVV.out⟩]
          clear HY
          by_cases hpl : pc = lo
          · rw [if_pos hpl, show pc - lo = 0 by omega] at cv2
            subst hpl
            go_wp2_with fail
            go_big_region
            all_goals go_wp2_with fail
            all_goals exact ⟨⟨i + 1, y + 1, rfl, by go_num, by omega, by omega, HY2, HNew.out⟩, by simp [intOf]; omega⟩
          · rw [if_neg hpl] at cv2
            simp only [Option.map_some, Addr.add_lit] at cv2
            go_wp2_with fail
            go_big_region
            all_goals go_wp2_with fail
            all_goals exact ⟨⟨i + 1, y + 1, rfl, by go_num, by omega, by omega, HY2, HNew.out⟩, by simp [intOf]; omega⟩
        · have hs3 : ((str x1).toList == (str E).toList) = false := by rw [str_toList, str_toList]; simpa using hxe
          have hs := str_ne hxe
          have HY2 : Hid (y = wts o E p (i + 1) V) := by
            have h0 : wts o E p (i + 1) V = wts o E p i V + (if hit o E p i V then 1 else 0) := rfl
            unfold Hid
            rw [h0, ← HY.out, if_neg (fun hh => hxe (by rw [← HX1.out, HIO.out]; exact hh.2.1))]; omega
          clear HY
          by_cases hpl : pc = lo
          · rw [if_pos hpl, show pc - lo = 0 by omega] at cv2
            subst hpl
            go_wp2_with fail
            go_big_region
            all_goals go_wp2_with fail
            all_goals exact ⟨⟨i + 1, y, rfl, by go_num, by omega, by omega, HY2, HNew.out⟩, by simp [intOf]; omega⟩
          · rw [if_neg hpl] at cv2
            simp only [Option.map_some, Addr.add_lit] at cv2
            go_wp2_with fail
            go_big_region
            all_goals go_wp2_with fail
            all_goals exact ⟨⟨i + 1, y, rfl, by go_num, by omega, by omega, HY2, HNew.out⟩, by simp [intOf]; omega⟩
      · have hVz : ((V : Int) == (X : Int)) = false := by simp; omega
        have HY2 : Hid (y = wts o E p (i + 1) X) := by
          have h0 : wts o E p (i + 1) X = wts o E p i X + (if hit o E p i X then 1 else 0) := rfl
          unfold Hid
          rw [h0, ← HY.out, if_neg (fun hh => hVX (by rw [← hV]; exact hh.2.2))]; omega
        clear HY hV
        go_wp2_with fail
        go_big_region
        all_goals go_wp2_with fail
        all_goals exact ⟨⟨i + 1, y, rfl, by go_num, by omega, by omega, HY2, HNew.out⟩, by simp [intOf]; omega⟩
    · obtain rfl : i = L := by omega
      have hltz : ¬ (i : Int) < (i : Int) := by omega
      have HY9 := HY.out
      clear HY
      have HY := Lib.hid HY9
      clear HY9
      go_wp2_with fail
      go_ret
      exact ⟨by rw [← HY.out]; rfl, HBr.out⟩
set_option maxHeartbeats 4000000 in
theorem at_any (x : UInt8) (B : Nat) (r : List UInt8) (A : Option Addr) (c k : Nat) (w : World) (hr : RB w w.heap.size A r) (h256 : r.length = 256) (hk : k < 256) (hx : r.getD k 0 = x) (hu : ∀ j, j < k → r.getD j 0 ≠ x) (c1 : w.cell? ⟨B, 0, none⟩ = some (.slice A 256 c)) :
    Calls Try.prog 22 #[.int .u8 (x.toNat : Int), .pointer (some ⟨B, 0, none⟩)] w fun e w' => e = .returned (.int .i64 k) ∧ w = w' := by
  have HR := Lib.hid hr
  have HX := Lib.hid hx
  have HU := Lib.hid hu
  have HL := Lib.hid h256
  obtain ⟨X, hX⟩ : ∃ X, x.toNat = X := ⟨_, rfl⟩
  have HXX := Lib.hid hX
  rw [hX]
  clear hr hx hu h256 hX
  go_enter Try.func22, Try.ntmps22
  go_wp2_with fail
  go_loopw [4] (fun v wr => ∃ i : Nat, v = .int .i64 i ∧ i ≤ k ∧ w = wr) (fun v _ => 256 - (intOf v).toNat)
  case atStart => exact ⟨0, rfl, by omega, rfl⟩
  case round =>
    obtain ⟨i, rfl, hi, rfl⟩ := hrel
    have hi2 : i < 256 := by omega
    have hltz : (i : Int) < 256 := by omega
    obtain ⟨pb, po, rfl, hpb, -⟩ := HR.out (by rw [HL.out]; omega)
    have cx := HR.out.cell_ i (by rw [HL.out]; exact hi2)
    obtain ⟨V, hV⟩ : ∃ V, (r.getD i 0).toNat = V := ⟨_, rfl⟩
    rw [hV] at cx
    by_cases e : i = k
    · subst e
      obtain rfl : V = X := by rw [← hV, HX.out, HXX.out]
      clear hV
      go_wp2_with fail
      go_ret
      exact ⟨rfl, rfl⟩
    · have hVz : ((V : Int) == (X : Int)) = false := by
        have h1 := HU.out i (by omega)
        have : V ≠ X := fun h => h1 (UInt8.toNat_inj.1 (by rw [hV, HXX.out, h]))
        simp; omega
      clear hV
      go_wp2_with fail
      exact ⟨⟨i + 1, by go_num, by omega, trivial⟩, by simp [intOf]; omega⟩
/-- where a value stands -/
theorem rk_at (S : Nat → Int) (x : UInt8) : ∃ k, k < 256 ∧ (rk S).getD k 0 = x ∧ ∀ j, j < k → (rk S).getD j 0 ≠ x := by
  obtain ⟨k, hk, e⟩ := List.getElem_of_mem (rk_mem S x)
  have hk2 : k < 256 := by rw [rk_len] at hk; exact hk
  have e2 : (rk S).getD k 0 = x := by rw [List.getD, List.getElem?_eq_getElem hk]; exact e
  refine ⟨k, hk2, e2, fun j hj h => ?_⟩
  have := rk_get_ah S j k hj hk2
  rw [h, e2] at this
  exact ah_irr this
theorem more_ahead {b : Kd} {p : List UInt8} (hk : b.k = 2) {v u : UInt8} (h : wN b.o p u.toNat < wN b.o p v.toNat) : ah (sc b p) v u := by
  left
  rw [sc_2 hk, sc_2 hk]
  split <;> split <;> omega
set_option maxHeartbeats 4000000 in
theorem counts_law (order : Int) (A0 : Option Addr) (l0 : List UInt8) (cap0 : Nat) (v u : UInt8) (w : World) (h0 : RB w w.heap.size A0 l0) (k0 : l0.length ≤ cap0) (m0 : cap0 ≤ maxLen) :
    Calls Try.prog 9 #[.int .i64 order, .slice A0 l0.length cap0, .int .u8 (v.toNat : Int), .int .u8 (u.toNat : Int)] w fun e w' => e = .returned (.bool true) ∧ Below w.heap.size w w' := by
  obtain ⟨p, hp⟩ : ∃ p, l0.take 50 = p := ⟨_, rfl⟩
  obtain ⟨L, hL⟩ : ∃ L, p.length = L := ⟨_, rfl⟩
  obtain ⟨hL60, hLc⟩ : L ≤ 50 ∧ L ≤ cap0 := by rw [← hp, List.length_take] at hL; omega
  have HS := Lib.hid (fun W => short_n A0 l0 l0.length cap0 50 W rfl (by omega) k0 m0 L (by rw [hp, hL]) 50 rfl)
  have HP : Hid (PM w A0 p L cap0) := ⟨hL, hLc, m0, by rw [← hp]; exact h0.take 50⟩
  obtain ⟨n00, hn00⟩ : ∃ n00, l0.length = n00 := ⟨_, rfl⟩
  rw [hn00] at HS ⊢
  clear h0 k0 m0 hp hn00 hL
  obtain ⟨w1, hw1⟩ : ∃ w1, (w.alloc (.cells #[.int .i64 order] 3)).alloc (.cells #[.slice A0 n00 cap0] 22) = w1 := ⟨_, rfl⟩
  have b1 : Below w.heap.size w w1 := by rw [← hw1]; exact ((Below.refl _ _).alloc (Nat.le_refl _) _).alloc (by simp) _
  have s1 : w1.heap.size = w.heap.size + 2 := by rw [← hw1]; simp
  have hb0 : w1.heap[w.heap.size]? = some (.cells #[.int .i64 order] 3 (0, 0)) := by
    rw [← hw1]
    have h0 := heap_alloc_last w (.cells #[.int .i64 order] 3)
    exact (Below.heap_alloc (w.alloc (.cells #[.int .i64 order] 3)) (.cells #[.slice A0 n00 cap0] 22) w.heap.size (by simp)).trans h0
  have hb1 : w1.heap[w.heap.size + 1]? = some (.cells #[.slice A0 n00 cap0] 22 (0, 0)) := by
    rw [← hw1]
    have h0 := heap_alloc_last (w.alloc (.cells #[.int .i64 order] 3)) (.cells #[.slice A0 n00 cap0] 22)
    simpa using h0
  have HG := Lib.hid (begun18_any w1)
  have HW := Lib.hid hw1; have B1 := Lib.hid b1; have S1 := Lib.hid s1; have HX0 := Lib.hid hb0; have HX1 := Lib.hid hb1
  rw [← HW.out] at HG
  clear hw1 b1 s1 hb0 hb1
  go_enter Try.func9, Try.ntmps9
  go_wp2_with fail
  (with_reducible refine HG.out.mono ?_)
  rintro e w2 ⟨rfl, hb2⟩
  rw [HW.out] at hb2
  have HB2 := Lib.hid (B1.out.trans (hb2.mono B1.out.size))
  have hx0 : w2.heap[w.heap.size]? = some (.cells #[.int .i64 order] 3 (0, 0)) := (hb2.block w.heap.size (by rw [S1.out]; omega)).trans HX0.out
  have hx1 : w2.heap[w.heap.size + 1]? = some (.cells #[.slice A0 n00 cap0] 22 (0, 0)) := (hb2.block (w.heap.size + 1) (by rw [S1.out]; omega)).trans HX1.out
  have c20 : w2.cell? ⟨w.heap.size, 0, none⟩ = some (.int .i64 order) := cell_of_row _ _ _ _ _ _ hx0
  have c21 : w2.cell? ⟨w.heap.size + 1, 0, none⟩ = some (.slice A0 n00 cap0) := cell_of_row _ _ _ _ _ _ hx1
  have f21 : w2.frozen? ⟨w.heap.size + 1, 0, none⟩ = false := by simp [World.frozen?, hx1]
  have Z2 : Hid (w.heap.size + 2 ≤ w2.heap.size) := by unfold Hid; rw [← S1.out]; exact hb2.size
  obtain ⟨w3, hw3⟩ : ∃ w3, w2.setCell ⟨w.heap.size + 1, 0, none⟩ (.slice A0 L cap0) = w3 := ⟨_, rfl⟩
  have B3 : Hid (Below w.heap.size w w3) := by rw [← hw3]; exact HB2.out.setCell (by simp) _
  have Z3 : Hid (w.heap.size + 2 ≤ w3.heap.size) := by unfold Hid; rw [← hw3]; simp [World.setCell]; exact Z2.out
  have hx30 : w3.heap[w.heap.size]? = some (.cells #[.int .i64 order] 3 (0, 0)) := by
    rw [← hw3]; exact (Below.heap_setCell w2 ⟨w.heap.size + 1, 0, none⟩ _ w.heap.size (by simp)).trans hx0
  have hx31 : w3.heap[w.heap.size + 1]? = some (.cells #[.slice A0 L cap0] 22 (0, 0)) := by
    rw [← hw3]; simp [World.setCell, Array.getElem?_modify, hx1]
  have c30 : w3.cell? ⟨w.heap.size, 0, none⟩ = some (.int .i64 order) := cell_of_row _ _ _ _ _ _ hx30
  have c31 : w3.cell? ⟨w.heap.size + 1, 0, none⟩ = some (.slice A0 L cap0) := cell_of_row _ _ _ _ _ _ hx31
  have HX30 := Lib.hid hx30; have HX31 := Lib.hid hx31
  have HP3 := Lib.hid (HP.out.then_ B3.out)
  have HW3 := Lib.hid hw3
  clear hb2 HG HX0 HX1 B1 HW hx0 hx1 hx30 hx31 hw3 HP HB2 Z2
  go_wp2_with fail
  (with_reducible refine (HS.out _).mono ?_)
  rintro e w2' ⟨rfl, rfl⟩
  go_upto_region 5 with fail
  rw [HW3.out]
  clear c20 c21 f21 HW3 HS
  by_cases g1 : order < 0
  · go_wp2_with fail
    go_ret
    exact ⟨rfl, B3.out⟩
  by_cases g2 : 3 < order
  · go_wp2_with fail
    go_ret
    exact ⟨rfl, B3.out⟩
  by_cases g3 : v = u
  · subst g3
    go_wp2_with fail
    go_ret
    exact ⟨rfl, B3.out⟩
  obtain ⟨V, hV⟩ : ∃ V, v.toNat = V := ⟨_, rfl⟩
  obtain ⟨U, hU⟩ : ∃ U, u.toNat = U := ⟨_, rfl⟩
  have hVU : ((V : Int) == (U : Int)) = false := by
    have : V ≠ U := fun h => g3 (UInt8.toNat_inj.1 (by rw [hV, hU, h]))
    simp; omega
  have HVU : Hid (v ≠ u) := g3
  clear g3
  obtain ⟨o, rfl⟩ : ∃ o : Nat, order = o := ⟨order.toNat, by omega⟩
  have ho3 : o ≤ 3 := by omega
  by_cases g4 : L < o
  · go_wp2_with fail
    go_ret
    exact ⟨rfl, B3.out⟩
  have hoL : o ≤ L := by omega
  obtain ⟨S, hS⟩ : ∃ S, sc ⟨2, o, []⟩ p = S := ⟨_, rfl⟩
  have HSS := Lib.hid hS
  have HR0 := Lib.hid (rank_at ⟨2, o, []⟩ 2 (o : Int) rfl rfl none 0 0 A0 p L cap0 256 w3 (km_nil w3 ⟨2, o, []⟩ (.inr (.inl ⟨rfl, ho3, rfl⟩)) rfl) HP3.out (by omega) 256 (by decide) (rk S) (by rw [hS]; exact List.take_of_length_le (by rw [rk_len]; exact Nat.le_refl _)))
  clear hS
  go_wp2_with fail
  (with_reducible refine HR0.out.mono ?_)
  rintro e w4 ⟨⟨g, rfl, hg, hr4⟩, hb4⟩
  have HB4 := Lib.hid (B3.out.trans (hb4.mono B3.out.size))
  have HP4 := Lib.hid (HP3.out.then_ hb4)
  have hx40 : w4.heap[w.heap.size]? = some (.cells #[.int .i64 (o : Int)] 3 (0, 0)) := (hb4.block w.heap.size (by have := Z3.out; omega)).trans HX30.out
  have hx41 : w4.heap[w.heap.size + 1]? = some (.cells #[.slice A0 L cap0] 22 (0, 0)) := (hb4.block (w.heap.size + 1) (by have := Z3.out; omega)).trans HX31.out
  have Z4 : Hid (w.heap.size + 2 ≤ w4.heap.size) := by unfold Hid; have := Z3.out; have := hb4.size; omega
  obtain ⟨w5, hw5⟩ : ∃ w5, w4.alloc (.cells #[.slice (some ⟨g, 0, none⟩) 256 256] 22) = w5 := ⟨_, rfl⟩
  have hb5 : Below w4.heap.size w4 w5 := by rw [← hw5]; exact (Below.refl _ _).alloc (Nat.le_refl _) _
  have hx5 : w5.heap[w4.heap.size]? = some (.cells #[.slice (some ⟨g, 0, none⟩) 256 256] 22 (0, 0)) := by rw [← hw5]; exact heap_alloc_last w4 _
  have HP5 := Lib.hid (HP4.out.then_ hb5)
  have HR5 := Lib.hid (hr4.then_ (Nat.le_refl _) hb5)
  have hx50 : w5.heap[w.heap.size]? = some (.cells #[.int .i64 (o : Int)] 3 (0, 0)) := (hb5.block w.heap.size (by have := Z4.out; omega)).trans hx40
  have hx51 : w5.heap[w.heap.size + 1]? = some (.cells #[.slice A0 L cap0] 22 (0, 0)) := (hb5.block (w.heap.size + 1) (by have := Z4.out; omega)).trans hx41
  have Z5 : Hid (w.heap.size + 2 ≤ w5.heap.size ∧ w4.heap.size < w5.heap.size) := by unfold Hid; have := Z4.out; rw [← hw5]; simp; omega
  have HB5 := Lib.hid (HB4.out.trans (hb5.mono HB4.out.size))
  have HX50 := Lib.hid hx50; have HX51 := Lib.hid hx51; have HX5 := Lib.hid hx5
  have HC1 := Lib.hid (count_any v w.heap.size (w.heap.size + 1) o A0 p L cap0 w5 HP5.out (by omega) hoL ho3 (cell_of_row _ _ _ _ _ _ hx50) (cell_of_row _ _ _ _ _ _ hx51))
  have HC2 : Hid (∀ w6, Below w5.heap.size w5 w6 → Calls Try.prog 21 #[.int .u8 (u.toNat : Int), .pointer (some ⟨w.heap.size, 0, none⟩), .pointer (some ⟨w.heap.size + 1, 0, none⟩)] w6 fun e w' => e = .returned (.int .i64 (wts o (endN o p) p L u.toNat)) ∧ Below w6.heap.size w6 w') := fun w6 h6 =>
    count_any u w.heap.size (w.heap.size + 1) o A0 p L cap0 w6 (HP5.out.then_ h6) (by omega) hoL ho3 (cell_of_row _ _ _ _ _ _ ((h6.block w.heap.size (by have := Z5.out; omega)).trans HX50.out)) (cell_of_row _ _ _ _ _ _ ((h6.block (w.heap.size + 1) (by have := Z5.out; omega)).trans HX51.out))
  obtain ⟨a, ha⟩ : ∃ a, wts o (endN o p) p L v.toNat = a := ⟨_, rfl⟩
  obtain ⟨b, hb⟩ : ∃ b, wts o (endN o p) p L u.toNat = b := ⟨_, rfl⟩
  obtain ⟨kv, hkv, ev, uv⟩ := rk_at S v
  obtain ⟨ku, hku, eu, uu⟩ := rk_at S u
  have HLT : Hid (b < a → kv < ku) := fun hab => by
    have h1 : ah S v u := by
      rw [← HSS.out]
      refine more_ahead (b := ⟨2, o, []⟩) rfl ?_
      show wts o (endN o p) p p.length u.toNat < wts o (endN o p) p p.length v.toNat
      rw [HP5.out.len, ha, hb]; exact hab
    rcases Nat.lt_trichotomy kv ku with c | c | c
    · exact c
    · rw [c, eu] at ev; exact absurd ev.symm HVU.out
    · have h2 := rk_get_ah S ku kv c hkv
      rw [eu, ev] at h2
      exact absurd (ah_asymm h1 h2) id
  have HA : Hid (∀ w7, Below w5.heap.size w5 w7 → Calls Try.prog 22 #[.int .u8 (v.toNat : Int), .pointer (some ⟨w4.heap.size, 0, none⟩)] w7 fun e w' => e = .returned (.int .i64 kv) ∧ w7 = w') := fun w7 h7 =>
    at_any v w4.heap.size (rk S) _ 256 kv w7 (HR5.out.then_ (Nat.le_refl _) h7) (rk_len S) hkv ev uv (cell_of_row _ _ _ _ _ _ ((h7.block w4.heap.size Z5.out.2).trans HX5.out))
  have HA2 : Hid (∀ w7, Below w5.heap.size w5 w7 → Calls Try.prog 22 #[.int .u8 (u.toNat : Int), .pointer (some ⟨w4.heap.size, 0, none⟩)] w7 fun e w' => e = .returned (.int .i64 ku) ∧ w7 = w') := fun w7 h7 =>
    at_any u w4.heap.size (rk S) _ 256 ku w7 (HR5.out.then_ (Nat.le_refl _) h7) (rk_len S) hku eu uu (cell_of_row _ _ _ _ _ _ ((h7.block w4.heap.size Z5.out.2).trans HX5.out))
  rw [hV] at HA HC1
  rw [hU] at HA2 HC2
  rw [hV] at ha
  rw [hU] at hb
  rw [ha] at HC1
  rw [hb] at HC2
  have HW5 := Lib.hid hw5
  rw [← HW5.out] at HC1
  clear hb4 hr4 hg hx40 hx41 hx5 hx50 hx51 hw5 hb5 HR0 c30 c31 ha hb ev eu uv uu B3 Z3 HX30 HX31 HP3 HVU hV hU
  go_wp2_with fail
  (with_reducible refine HC1.out.mono ?_)
  rintro e w6 ⟨rfl, hb6⟩
  rw [HW5.out] at hb6
  have HB6 := Lib.hid hb6
  clear hb6
  go_wp2_with fail
  (with_reducible refine (HC2.out w6 HB6.out).mono ?_)
  rintro e w7 ⟨rfl, hb7⟩
  have HB7 := Lib.hid (HB6.out.trans (hb7.mono HB6.out.size))
  have HBf := Lib.hid (HB5.out.trans (HB7.out.mono HB5.out.size))
  have H1 := Lib.hid (HA.out w7 HB7.out)
  have H2 := Lib.hid (HA2.out w7 HB7.out)
  clear hb7 HB6 HC1 HC2 HA HA2
  by_cases gab : a ≤ b
  · go_wp2_with fail
    go_ret
    exact ⟨rfl, HBf.out⟩
  · have hlt : kv < ku := HLT.out (by omega)
    have hltz : (kv : Int) < (ku : Int) := by omega
    go_wp2_with fail
    (with_reducible refine H1.out.mono ?_)
    rintro e w8 ⟨rfl, rfl⟩
    go_wp2_with fail
    (with_reducible refine H2.out.mono ?_)
    rintro e w8 ⟨rfl, rfl⟩
    go_wp2_with fail
    go_ret
    exact ⟨rfl, HBf.out⟩
theorem counts_law' (order : Int) (A0 : Option Addr) (l0 : List UInt8) (cap0 : Nat) (a b : Int) (w : World) (h0 : RB w w.heap.size A0 l0) (k0 : l0.length ≤ cap0) (m0 : cap0 ≤ maxLen) (wa : (Lit.int .u8 a).wf = true) (wb : (Lit.int .u8 b).wf = true) :
    Calls Try.prog 9 #[.int .i64 order, .slice A0 l0.length cap0, .int .u8 a, .int .u8 b] w fun e w' => e = .returned (.bool true) ∧ Below w.heap.size w w' := by
  rw [← byte_back wa, ← byte_back wb]
  exact counts_law order A0 l0 cap0 _ _ w h0 k0 m0
end Go.Proofs.Ytphcbeccipjlgaa
