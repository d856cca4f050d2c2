/- WALKS over package packet: the reader's methods four, presses. -/
import Derived.Test.YtjbieehehgjnmaaDoorQf
namespace Go.Proofs.YtjbieehehgjnmaaDoor
set_option maxRecDepth 100000
open Go.RowKit
set_option linter.unusedVariables false
set_option linter.unusedSimpArgs false

theorem next_len (k : Nat) (r : RS) : (nextK k r).1.length = k := by
  unfold nextK
  split
  · show (r.rest.take k).length = k; rw [List.length_take]; omega
  · show (List.replicate k (0 : UInt8)).length = k; rw [List.length_replicate]
set_option maxHeartbeats 4000000 in
theorem rfour_any (g : Nat) (r : RS) (A : Option Addr) (n c : Nat) (w : World) (h : RdM w g r A n c) :
    Calls Tryd.prog 41 #[.pointer (some ⟨g, 0, none⟩)] w fun e w' => ∃ A' n' c', e = .returned (.int .u32 (fourK r).1) ∧ RdM w' g (fourK r).2 A' n' c' ∧ w.grownBy w' (some g) := by
  have HN := Lib.hid (next4_any g r A n c w h)
  have hl := next_len 4 r
  obtain ⟨l, hll⟩ : ∃ l, (nextK 4 r).1 = l := ⟨_, rfl⟩
  rw [hll] at HN hl
  have HE : Hid (fourK r = (acc4 l, (nextK 4 r).2)) := by show _ = _; unfold fourK; rw [hll]
  have HL := Lib.hid hl
  clear h hll hl
  go_enter Tryd.func41, Tryd.ntmps41
  go_wp2_with fail
  (with_reducible refine HN.out.mono ?_)
  rintro e w1 ⟨A', n', c', X, cx, rfl, hcx, hcm, hx, hR, hg⟩
  obtain ⟨b, off, rfl, -, -, hcell⟩ := hx (by rw [HL.out]; omega)
  have HC := Lib.hid hcell; have HR := Lib.hid hR; have HG := Lib.hid hg
  have hcm2 := hcm
  unfold maxLen at hcm2
  clear hcell hR hg hx hcm
  go_wp2_with fail
  go_loop [3, 9] (fun u i => ∃ (k : Nat) (y : Int), k ≤ 4 ∧ i = .int .i64 k ∧ u = .int .u32 y ∧ Hid (y = acc4 (l.take k))) (fun _ i => 4 - (intOf i).toNat)
  case atStart => exact ⟨0, 0, by omega, rfl, rfl, rfl⟩
  case round =>
    obtain ⟨k, y, hk, rfl, rfl, hy⟩ := hrel
    by_cases h : k < 4
    · have hkl : k < l.length := by rw [HL.out]; exact h
      have hsn : acc4 (l.take (k + 1)) = y * 256 + (l[k]'hkl).toNat := by rw [List.take_succ_eq_append_getElem hkl, acc4_snoc, hy.out]
      have hlo := acc4_lo (l.take k)
      have hhi := acc4_hi (l.take k) 3 16777216 (by rw [List.length_take]; omega) (by decide)
      rw [← hy.out] at hlo hhi
      have hx := HC.out k hkl
      obtain ⟨x, hxx⟩ : ∃ x, l[k]'hkl = x := ⟨_, rfl⟩
      rw [hxx] at hsn hx
      unfold vb at hx
      have hor := or_byte y x hlo (by omega)
      have hyl := x.toNat_lt
      have HS := Lib.hid hsn
      have hk4 : (k : Int) < 4 := by omega
      clear hsn hxx
      go_wp2
      clear hor
      go_round
      case rel => exact ⟨k + 1, _, by omega, by go_num, rfl, HS.out.symm⟩
      case measure => simp [intOf]; omega
    · obtain rfl : k = 4 := by omega
      have HF : Hid (y = acc4 l) := by have := hy.out; rw [List.take_of_length_le (by rw [HL.out]; omega)] at this; exact this
      clear hy
      go_wp2
      go_ret
      have hfin : RdM w1 g (fourK r).2 A' n' c' := by rw [HE.out]; exact HR.out
      first
        | exact ⟨A', n', c', by rw [HE.out, ← HF.out]; rfl, hfin, HG.out⟩
        | exact ⟨by rw [HE.out, ← HF.out]; rfl, ⟨A', n', c', hfin⟩, HG.out⟩
theorem RdM.below {w w' : World} {g : Nat} {r : RS} {A : Option Addr} {n c B : Nat} (h : RdM w g r A n c) (hb : Below B w w') (hB : g < B) : RdM w' g r A n c :=
  ⟨(hb.cell (p := ⟨g, 0, none⟩) hB).trans h.c0, (hb.cell (p := ⟨g, 1, none⟩) hB).trans h.c1, (hb.frozen (p := ⟨g, 0, none⟩) hB).trans h.f0, (hb.frozen (p := ⟨g, 1, none⟩) hB).trans h.f1, h.rb.below (hb.mono (by omega)), h.n_, h.nc, h.cm⟩
theorem gr_below {a b : World} {r : Option Nat} (h : Below a.heap.size a b) : a.grownBy b r := ⟨h.os, h.tape, h.output, h.size, fun i hi _ => h.block i hi⟩
theorem num_rest (r : RS) : (numK r).2.rest.length ≤ r.rest.length := by
  unfold numK
  split
  · show (r.rest.drop _).length ≤ _; rw [List.length_drop]; omega
  · exact Nat.le_refl _
theorem OB.kept_gr {w w' : World} {base g : Nat} {v : Value} {l : List UInt8} (h : OB w base v l) (hg : w.grownBy w' (some g)) (hlt : g < base) : OB w' base v l := by
  refine World.ownsRow.kept h hg ?_
  cases hv : v.ownBlock with
  | none => exact .inl rfl
  | some k => exact .inr (fun e => by have h1 := h.ge k hv; have := Option.some.inj e; omega)
set_option maxHeartbeats 4000000 in
theorem press_any (g : Nat) (r : RS) (A : Option Addr) (n c : Nat) (w : World) (h : RdM w g r A n c) (hn : n ≤ 4096) :
    Calls Tryd.prog 42 #[.pointer (some ⟨g, 0, none⟩)] w fun e w' => ∃ v, e = .returned v ∧ OB w' w.heap.size v (pressK r).1 ∧ RdM w' g (pressK r).2 none 0 0 ∧ w.grownBy w' (some g) := by
  have HNU := Lib.hid (num_any g r A n c w h)
  have hgw := h.lt
  obtain ⟨m, hm⟩ : ∃ m, (numK r).1 = m := ⟨_, rfl⟩
  obtain ⟨s, hs⟩ : ∃ s, (numK r).2 = s := ⟨_, rfl⟩
  have hsl : s.rest.length ≤ 4096 := by have := num_rest r; rw [hs, h.n_] at this; omega
  rw [hm, hs] at HNU
  have HD : Hid (∀ W A1 n1 c1, RB W W.heap.size A1 s.rest → s.rest.length = n1 → n1 ≤ c1 → c1 ≤ maxLen → Calls Tryd.prog 48 #[.slice A1 n1 c1, .int .i64 32] W fun e w' => UnAns (cnt 32 0 (items true s.rest)) (expand 0 (items true s.rest)) W w' e ∧ Below W.heap.size W w') := fun W A1 n1 c1 hr hn1 hc1 hm1 =>
    dec_any A1 s.rest n1 c1 32 32 W (by omega) (by omega) hr hn1 hc1 hm1 (by omega) (fun t h => by have := cnt_le 32 _ 0 t (by omega) (fun x hx => (items_in s.rest true x hx).1) h; omega)
  have HM := Lib.hid hm; have HS := Lib.hid hs
  clear h hm hs hn hsl
  cases hc : cnt 32 0 (items true s.rest) with
  | form =>
    have HE : Hid (pressK r = ([], ⟨[], true⟩)) := by show _ = _; unfold pressK; rw [HS.out, hc]
    rw [hc] at HD
    unfold UnAns at HD
    clear hc
    go_enter Tryd.func42, Tryd.ntmps42
    go_wp2_with fail
    (with_reducible refine HNU.out.mono ?_)
    rintro e w1 ⟨A1, n1, c1, rfl, hR, hg⟩
    have HR := Lib.hid hR; have HG := Lib.hid hg
    have x0 := hR.c0
    have HDD := Lib.hid (HD.out w1 A1 n1 c1 (hR.rb.more (Nat.le_of_lt hR.lt)) hR.n_ hR.nc hR.cm)
    clear hR hg
    go_wp2_with fail
    (with_reducible refine HDD.out.mono ?_)
    rintro e w2 ⟨rfl, hb⟩
    have HR2 := Lib.hid (HR.out.below hb HR.out.lt)
    have HR3 := Lib.hid HR2.out.set1
    have y0 := HR2.out.c0; have y1 := HR2.out.c1; have f0 := HR2.out.f0; have f1 := HR2.out.f1
    have HB := Lib.hid hb
    clear hb x0 HDD HNU HD
    go_wp2_with fail
    go_ret
    refine ⟨_, rfl, by rw [HE.out]; exact OB.nil _ _, ?_, gr_trans HG.out (gr_trans (gr_below HB.out) (gr_trans (gr_set _ _ _ _) (gr_set _ _ _ _)))⟩
    rw [HE.out]
    exact HR3.out.set0 none 0 0 [] (RB.nil _ _ _) rfl (Nat.le_refl _) (by unfold maxLen; omega)
  | full =>
    have HE : Hid (pressK r = ([], ⟨[], true⟩)) := by show _ = _; unfold pressK; rw [HS.out, hc]
    rw [hc] at HD
    unfold UnAns at HD
    clear hc
    go_enter Tryd.func42, Tryd.ntmps42
    go_wp2_with fail
    (with_reducible refine HNU.out.mono ?_)
    rintro e w1 ⟨A1, n1, c1, rfl, hR, hg⟩
    have HR := Lib.hid hR; have HG := Lib.hid hg
    have x0 := hR.c0
    have HDD := Lib.hid (HD.out w1 A1 n1 c1 (hR.rb.more (Nat.le_of_lt hR.lt)) hR.n_ hR.nc hR.cm)
    clear hR hg
    go_wp2_with fail
    (with_reducible refine HDD.out.mono ?_)
    rintro e w2 ⟨rfl, hb⟩
    have HR2 := Lib.hid (HR.out.below hb HR.out.lt)
    have HR3 := Lib.hid HR2.out.set1
    have y0 := HR2.out.c0; have y1 := HR2.out.c1; have f0 := HR2.out.f0; have f1 := HR2.out.f1
    have HB := Lib.hid hb
    clear hb x0 HDD HNU HD
    go_wp2_with fail
    go_ret
    refine ⟨_, rfl, by rw [HE.out]; exact OB.nil _ _, ?_, gr_trans HG.out (gr_trans (gr_below HB.out) (gr_trans (gr_set _ _ _ _) (gr_set _ _ _ _)))⟩
    rw [HE.out]
    exact HR3.out.set0 none 0 0 [] (RB.nil _ _ _) rfl (Nat.le_refl _) (by unfold maxLen; omega)
  | ok t =>
    rw [hc] at HD
    unfold UnAns at HD
    have hit := items_in s.rest true
    have hle := cnt_le 32 _ 0 t (by omega) (fun x hx => (hit x hx).1) hc
    have hel := expand_len 32 _ 0 t 0 (fun x hx => (hit x hx).1) hc
    obtain ⟨L, hL⟩ : ∃ L : Nat, t = L := ⟨t.toNat, by omega⟩
    obtain ⟨xs, hxs⟩ : ∃ xs, expand 0 (items true s.rest) = xs := ⟨_, rfl⟩
    rw [hxs] at HD hel
    have hXL : xs.length = L := by omega
    have HXL := Lib.hid hXL
    by_cases hq : t = m
    · have HE : Hid (pressK r = (xs, ⟨[], s.bad⟩)) := by
        show _ = _; unfold pressK; rw [HS.out, HM.out, hc, hxs]
        show (xs, (⟨[], s.bad || decide (t ≠ m)⟩ : RS)) = _
        rw [decide_eq_false (by simpa using hq), Bool.or_false]
      have q1 : ((L : Int) != m) = false := by simp; omega
      have HQ := Lib.hid hq
      clear hc hit hle hel hxs hXL hq hL
      go_enter Tryd.func42, Tryd.ntmps42
      go_wp2_with fail
      (with_reducible refine HNU.out.mono ?_)
      rintro e w1 ⟨A1, n1, c1, rfl, hR, hg⟩
      have HR := Lib.hid hR; have HG := Lib.hid hg
      have x0 := hR.c0
      have HDD := Lib.hid (HD.out w1 A1 n1 c1 (hR.rb.more (Nat.le_of_lt hR.lt)) hR.n_ hR.nc hR.cm)
      clear hR hg
      go_wp2_with fail
      (with_reducible refine HDD.out.mono ?_)
      rintro e w2 ⟨⟨v, rfl, ov⟩, hb⟩
      obtain ⟨A2, c2, rfl, hc2, hcm2, hr2⟩ := ov.form_n L HXL.out
      have HR2 := Lib.hid (HR.out.below hb HR.out.lt)
      have y0 := HR2.out.c0; have y1 := HR2.out.c1; have f0 := HR2.out.f0; have f1 := HR2.out.f1
      have HB := Lib.hid hb; have HV := Lib.hid ov
      clear hb x0 HDD HNU HD hr2 ov hcm2
      go_wp2_with fail
      go_ret
      have hgg := gr_trans HG.out (gr_trans (gr_below HB.out) (gr_set w2 g 0 (.slice none 0 0)))
      refine ⟨_, rfl, ?_, ?_, hgg⟩
      · rw [HE.out]
        exact (HV.out.kept_gr (gr_set w2 g 0 (.slice none 0 0)) HR.out.lt).less HG.out.size
      · rw [HE.out]
        exact HR2.out.set0 none 0 0 [] (RB.nil _ _ _) rfl (Nat.le_refl _) (by unfold maxLen; omega)
    · have HE : Hid (pressK r = (xs, ⟨[], true⟩)) := by
        show _ = _; unfold pressK; rw [HS.out, HM.out, hc, hxs]
        show (xs, (⟨[], s.bad || decide (t ≠ m)⟩ : RS)) = _
        rw [decide_eq_true (by simpa using hq), Bool.or_true]
      have q1 : ((L : Int) != m) = true := by simp; omega
      have HQ := Lib.hid hq
      clear hc hit hle hel hxs hXL hq hL
      go_enter Tryd.func42, Tryd.ntmps42
      go_wp2_with fail
      (with_reducible refine HNU.out.mono ?_)
      rintro e w1 ⟨A1, n1, c1, rfl, hR, hg⟩
      have HR := Lib.hid hR; have HG := Lib.hid hg
      have x0 := hR.c0
      have HDD := Lib.hid (HD.out w1 A1 n1 c1 (hR.rb.more (Nat.le_of_lt hR.lt)) hR.n_ hR.nc hR.cm)
      clear hR hg
      go_wp2_with fail
      (with_reducible refine HDD.out.mono ?_)
      rintro e w2 ⟨⟨v, rfl, ov⟩, hb⟩
      obtain ⟨A2, c2, rfl, hc2, hcm2, hr2⟩ := ov.form_n L HXL.out
      have HR2 := Lib.hid (HR.out.below hb HR.out.lt)
      have HR3 := Lib.hid HR2.out.set1
      have y0 := HR2.out.c0; have y1 := HR2.out.c1; have f0 := HR2.out.f0; have f1 := HR2.out.f1
      have HB := Lib.hid hb; have HV := Lib.hid ov
      clear hb x0 HDD HNU HD hr2 ov hcm2
      go_wp2_with fail
      go_ret
      have hgs := gr_trans (gr_set w2 g 1 (.bool true)) (gr_set (w2.setCell ⟨g, 1, none⟩ (.bool true)) g 0 (.slice none 0 0))
      have hgg := gr_trans HG.out (gr_trans (gr_below HB.out) hgs)
      refine ⟨_, rfl, ?_, ?_, hgg⟩
      · rw [HE.out]
        exact (HV.out.kept_gr hgs HR.out.lt).less HG.out.size
      · rw [HE.out]
        exact HR3.out.set0 none 0 0 [] (RB.nil _ _ _) rfl (Nat.le_refl _) (by unfold maxLen; omega)
end Go.Proofs.YtjbieehehgjnmaaDoor
