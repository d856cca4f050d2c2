/- THE WALK of ref Unruns. -/
import Derived.Test.YtclgcfofgiejgaaDoorJf
import Derived.Test.YtclgcfofgiejgaaDoorJg
namespace Go.Proofs.YtclgcfofgiejgaaDoor
set_option maxRecDepth 100000
open Go.RowKit
set_option linter.unusedVariables false

/-- what Decode answers -/
def UnAns (c : Cnt) (xs : List UInt8) (w w' : World) (e : Ending) : Prop :=
  match c with
  | .form => e = .returned (.tuple #[.slice none 0 0, .int .i64 1])
  | .full => e = .returned (.tuple #[.slice none 0 0, .int .i64 4])
  | .ok _ => ∃ v, e = .returned (.tuple #[v, .int .i64 0]) ∧ OB w' w.heap.size v xs
theorem w64_id (n : Int) (h : -9223372036854775808 ≤ n ∧ n ≤ 9223372036854775807) : wrap64 n = n := by unfold wrap64; omega
theorem app_one (L : List UInt8) (k nn : Nat) (x : UInt8) (h1 : L.length ≤ 2147483647) (h2 : k < nn) (h3 : nn ≤ 2147483647) : (L ++ List.replicate k x).length + [x].length ≤ 140737488355328 := by
  rw [List.length_append, List.length_replicate]
  show L.length + k + 1 ≤ 140737488355328
  omega
set_option maxHeartbeats 4000000 in
theorem refun_neg (A : Option Addr) (l : List UInt8) (n cap : Nat) (m0 : Int) (w : World) (hM : m0 ≤ 0) (hM1 : (0 : Int) ≤ 2147483647) (hr : RB w w.heap.size A l) (hn : l.length = n) (hc : n ≤ cap) (hm : cap ≤ maxLen) :
    Calls Tryd.prog 53 #[.slice A n cap, .int .i64 m0] w fun e w' => UnAns (cnt (0 : Int) 0 (items true l)) (expand 0 (items true l)) w w' e ∧ Below w.heap.size w w' := by
  have HM0 : Hid ((0 : Int) ≤ (0 : Int)) := by show (0 : Int) ≤ (0 : Int); omega
  have HR := Lib.hid hr; have HM := Lib.hid hm; have HN := Lib.hid hn; have HM1 := Lib.hid hM1
  clear hr hm hn hM1
  go_enter Tryd.func53, Tryd.ntmps53
  go_wp2
  go_loopw [0, 6, 7, 8] (fun b0 out a f wr => ∃ (A : Option Addr) (r : List UInt8) (m cap : Nat) (pre : List It) (lv : UInt8) (li : Int) (fb : Bool), b0 = .slice A m cap ∧ Hid (r.length = m) ∧ m ≤ cap ∧ Hid (cap ≤ maxLen) ∧ a = .int .u8 li ∧ f = .bool fb ∧ Hid ((lv.toNat : Int) = li) ∧ Hid (lastV 0 pre = lv) ∧ Hid (pre ++ items fb r = items true l) ∧ Hid (cnt (0 : Int) 0 pre = .ok ((expand 0 pre).length : Int)) ∧ Hid (OB wr w.heap.size out (expand 0 pre)) ∧ Hid (RB wr w.heap.size A r) ∧ Hid (Below w.heap.size w wr)) (fun b0 _ _ _ _ => lenV b0)
  case atStart => exact ⟨A, l, n, cap, [], 0, 0, true, rfl, HN, hc, HM, rfl, rfl, rfl, rfl, rfl, by show _ = _; rw [cnt_nil]; rfl, OB.nil _ _, HR, Below.refl _ _⟩
  case round =>
    obtain ⟨A, r, m, cap, pre, lv, li, fb, rfl, hrm, hmc, hcm, rfl, rfl, hlv, hlp, hit, hcn, ho, hrb, hb⟩ := hrel
    have hpos : Hid (∀ x ∈ pre, (0 : Int) ≤ x.1) := fun x hx => (items_in l true x (by rw [← hit.out]; simp [hx])).1
    by_cases h0 : 0 < m
    · obtain ⟨b, off, rfl, hbw, hcell⟩ := hrb.out (by have := hrm.out; omega)
      have HCL := Lib.hid hcell
      have HG := Lib.hid (refget_any _ r m cap w.heap.size wr hrb.out hrm.out hmc hcm.out)
      have hlt0 : (0 : Int) < (m : Int) := by omega
      clear hcell
      cases hgd : getN r with
      | more =>
        have HG2 : Hid (Calls Tryd.prog 52 #[.slice (some ⟨b, off, none⟩) m cap] wr fun e w' => e = .returned (.tuple #[.int .i64 0, .int .i64 0, .int .i64 2]) ∧ wr = w') := by rw [hgd] at HG; exact HG
        have hst : stepR fb r = none := by unfold stepR; rw [hgd]
        have hfin : cnt (0 : Int) 0 (items true l) = .form := by
          have h1 := hit.out
          rw [items_bad (by have := hrm.out; omega) hst] at h1
          rw [← h1, cnt_app, hcn.out]
          exact cnt_form _ _ _ _ rfl
        have HFIN := Lib.hid hfin
        clear hfin hst
        go_wp2_with (go_at_call 52; (with_reducible refine HG2.out.mono ?_); rintro e w' ⟨rfl, rfl⟩)
        go_ret2
        exact ⟨by rw [HFIN.out]; exact rfl, hb.out⟩
      | form =>
        have HG2 : Hid (Calls Tryd.prog 52 #[.slice (some ⟨b, off, none⟩) m cap] wr fun e w' => e = .returned (.tuple #[.int .i64 0, .int .i64 0, .int .i64 1]) ∧ wr = w') := by rw [hgd] at HG; exact HG
        have hst : stepR fb r = none := by unfold stepR; rw [hgd]
        have hfin : cnt (0 : Int) 0 (items true l) = .form := by
          have h1 := hit.out
          rw [items_bad (by have := hrm.out; omega) hst] at h1
          rw [← h1, cnt_app, hcn.out]
          exact cnt_form _ _ _ _ rfl
        have HFIN := Lib.hid hfin
        clear hfin hst
        go_wp2_with (go_at_call 52; (with_reducible refine HG2.out.mono ?_); rintro e w' ⟨rfl, rfl⟩)
        go_ret2
        exact ⟨by rw [HFIN.out]; exact rfl, hb.out⟩
      | ok u kk =>
        obtain ⟨hu, hkp, _, hkl, hkk⟩ := getN_got r u kk hgd
        have hkm : kk ≤ m := by rw [← hrm.out]; exact hkl
        have HIN : Hid (in64 (zag u)) := zag_in u hu
        obtain ⟨y, hyy⟩ : ∃ y : Int, zag u = y := ⟨_, rfl⟩
        have HG3 : Hid (Calls Tryd.prog 52 #[.slice (some ⟨b, off, none⟩) m cap] wr fun e w' => e = .returned (gotV (.ok u kk)) ∧ wr = w') := by rw [hgd] at HG; exact HG
        have HG2 : Hid (Calls Tryd.prog 52 #[.slice (some ⟨b, off, none⟩) m cap] wr fun e w' => e = .returned (.tuple #[.int .i64 y, .int .i64 (kk : Int), .int .i64 0]) ∧ wr = w') := by rw [← hyy]; exact HG3
        clear HG3 HG hu hkp hkl
        by_cases hy1 : y < 1
        · have hyl := hyy
          have hst : stepR fb r = none := stepR_small _ hgd (by omega)
          have hfin : cnt (0 : Int) 0 (items true l) = .form := by
            have h1 := hit.out
            rw [items_bad (by have := hrm.out; omega) hst] at h1
            rw [← h1, cnt_app, hcn.out]
            exact cnt_form _ _ _ _ rfl
          have HFIN := Lib.hid hfin
          clear hfin hst
          go_wp2_with (go_at_call 52; (with_reducible refine HG2.out.mono ?_); rintro e w' ⟨rfl, rfl⟩)
          go_ret2
          exact ⟨by rw [HFIN.out]; exact rfl, hb.out⟩
        · by_cases hend : m ≤ kk
          · have heq : kk = m := by omega
            have heq2 : ((m : Int) == (kk : Int)) = true := by simp [heq]
            have HEQ := Lib.hid heq; clear heq
            have hst : stepR fb r = none := stepR_stop _ hgd (by have := hrm.out; omega)
            have hfin : cnt (0 : Int) 0 (items true l) = .form := by
              have h1 := hit.out
              rw [items_bad (by have := hrm.out; omega) hst] at h1
              rw [← h1, cnt_app, hcn.out]
              exact cnt_form _ _ _ _ rfl
            have HFIN := Lib.hid hfin
            clear hfin hst
            go_wp2_with (go_at_call 52; (with_reducible refine HG2.out.mono ?_); rintro e w' ⟨rfl, rfl⟩)
            go_ret2
            exact ⟨by rw [HFIN.out]; exact rfl, hb.out⟩
          · have hlt3 : (kk : Int) < (m : Int) := by omega
            have hltn : kk < m := by omega
            have heq2 : ((m : Int) == (kk : Int)) = false := by simp; omega
            obtain ⟨c, hcc⟩ : ∃ c : UInt8, r[kk]'(by have := hrm.out; omega) = c := ⟨_, rfl⟩
            have hcell := HCL.out kk (by have := hrm.out; omega)
            rw [hcc] at hcell
            unfold vb at hcell
            obtain ⟨ci, hmm⟩ : ∃ ci : Int, Hid ((c.toNat : Int) = ci) := ⟨_, rfl⟩
            rw [hmm.out] at hcell
            clear HCL
            by_cases hbz : ci = 0 ∧ fb = false
            · obtain ⟨hc0, hfb⟩ := hbz
              have hz1 : (ci == 0) = true := by simp [hc0]
              have hcz : c = 0 := by
                apply UInt8.toNat.inj
                have := hmm.out
                show c.toNat = 0
                omega
              have HC0 := Lib.hid hc0; clear hc0
              have hst : stepR fb r = none := by rw [hfb]; exact stepR_zero hgd (by have := hrm.out; omega) (by rw [hcc]; exact hcz)
              have hfin : cnt (0 : Int) 0 (items true l) = .form := by
                have h1 := hit.out
                rw [items_bad (by have := hrm.out; omega) hst] at h1
                rw [← h1, cnt_app, hcn.out]
                exact cnt_form _ _ _ _ rfl
              have HFIN := Lib.hid hfin
              clear hfin hst
              go_wp2_with (go_at_call 52; (with_reducible refine HG2.out.mono ?_); rintro e w' ⟨rfl, rfl⟩)
              go_ret2
              exact ⟨by rw [HFIN.out]; exact rfl, hb.out⟩
            · have HFB : Hid (fb = true ∨ r[kk]'(by have := hrm.out; omega) ≠ 0) := by
                by_cases h : fb = true
                · exact .inl h
                · refine .inr ?_
                  rw [hcc]
                  intro e
                  have h2 := hmm.out
                  rw [e] at h2
                  exact hbz ⟨h2.symm, by simpa using h⟩
              have hcs : (ci == 0) = false ∨ ((ci == 0) = true ∧ fb = true) := by
                by_cases h : ci = 0
                · exact .inr ⟨by simp [h], by simpa [h] using hbz⟩
                · exact .inl (by simpa using h)
              have HBZ := Lib.hid hbz; clear hbz
              rcases hcs with hz1 | ⟨hz1, hfb⟩
              all_goals
                have hin := HIN.out
                have hst : stepR fb r = some (y, c, kk) := by rw [← hyy, ← hcc]; exact stepR_good _ hgd (by have := hrm.out; omega) (by omega) HFB.out
                have hit2 := hit.out
                rw [items_ok hst] at hit2
                obtain ⟨L, hL⟩ : ∃ L, Hid (L = expand 0 pre) := ⟨_, rfl⟩
                obtain ⟨lz, hlz⟩ : ∃ lz : Int, Hid ((L.length : Int) = lz) := ⟨_, rfl⟩
                have hcl : Hid (L.length ≤ 2147483647) := by
                  have h2 := (cnt_le (0 : Int) pre 0 _ HM0.out hpos.out hcn.out).2
                  have := HM1.out
                  have h3 := hL.out
                  rw [← h3] at h2
                  show _ ≤ _
                  omega
                have hlz2 : 0 ≤ lz ∧ lz ≤ (0 : Int) := by
                  have h2 := (cnt_le (0 : Int) pre 0 _ HM0.out hpos.out hcn.out).2
                  rw [← hL.out, hlz.out] at h2
                  have := hlz.out
                  omega
                obtain ⟨q, hq⟩ : ∃ q : Int, Hid ((0 : Int) - lz = q) := ⟨_, rfl⟩
                have HQ1 : Hid (wrap64 ((0 : Int) - lz) = q) := by have := HM1.out; show _ = _; rw [w64_id _ (by omega)]; exact hq.out
                have HQ2 : Hid (wrap64 (-lz) = q) := by have := HM1.out; have := hq.out; show _ = _; rw [w64_id _ (by omega)]; omega
                obtain ⟨A6, cap6, rfl, hl6, hm6, _⟩ := ho.out.form L hL.out
                clear hm6 hl6
                by_cases hfull : q < y
                · have hfin : cnt (0 : Int) 0 (items true l) = .full := by
                    rw [← hit2, cnt_app, hcn.out]
                    refine cnt_full _ _ _ _ rfl ?_
                    show (0 : Int) - ((expand 0 pre).length : Int) < y
                    rw [← hL.out, hlz.out, hq.out]
                    exact hfull
                  have HFIN := Lib.hid hfin
                  have hq1 := HQ1.out
                  have hq2 := HQ2.out
                  have hlz' := hlz.out
                  clear hfin hst hit2
                  go_wp2_with (go_at_call 52; (with_reducible refine HG2.out.mono ?_); rintro e w' ⟨rfl, rfl⟩)
                  go_ret2
                  exact ⟨by rw [HFIN.out]; exact rfl, hb.out⟩
                · exfalso
                  have := hq.out
                  have := hlz2
                  omega
    · have hm0 : m = 0 := by omega
      have hre : r = [] := List.eq_nil_of_length_eq_zero (by have := hrm.out; omega)
      have hfin := hit.out
      rw [hre, items_nil, List.append_nil] at hfin
      have HF := Lib.hid hfin
      have HCN := Lib.hid hcn.out
      clear hfin hre
      subst hm0
      go_wp2
      go_ret2
      refine ⟨?_, hb.out⟩
      rw [← HF.out, HCN.out]
      exact ⟨_, rfl, ho.out⟩
set_option maxHeartbeats 4000000 in
theorem refun_pos (A : Option Addr) (l : List UInt8) (n cap : Nat) (m0 : Int) (w : World) (hM : 0 < m0) (hM1 : m0 ≤ 2147483647) (hr : RB w w.heap.size A l) (hn : l.length = n) (hc : n ≤ cap) (hm : cap ≤ maxLen) :
    Calls Tryd.prog 53 #[.slice A n cap, .int .i64 m0] w fun e w' => UnAns (cnt m0 0 (items true l)) (expand 0 (items true l)) w w' e ∧ Below w.heap.size w w' := by
  have HM0 : Hid ((0 : Int) ≤ m0) := by show (0 : Int) ≤ m0; omega
  have HR := Lib.hid hr; have HM := Lib.hid hm; have HN := Lib.hid hn; have HM1 := Lib.hid hM1
  clear hr hm hn hM1
  go_enter Tryd.func53, Tryd.ntmps53
  go_wp2
  go_loopw [0, 6, 7, 8] (fun b0 out a f wr => ∃ (A : Option Addr) (r : List UInt8) (m cap : Nat) (pre : List It) (lv : UInt8) (li : Int) (fb : Bool), b0 = .slice A m cap ∧ Hid (r.length = m) ∧ m ≤ cap ∧ Hid (cap ≤ maxLen) ∧ a = .int .u8 li ∧ f = .bool fb ∧ Hid ((lv.toNat : Int) = li) ∧ Hid (lastV 0 pre = lv) ∧ Hid (pre ++ items fb r = items true l) ∧ Hid (cnt m0 0 pre = .ok ((expand 0 pre).length : Int)) ∧ Hid (OB wr w.heap.size out (expand 0 pre)) ∧ Hid (RB wr w.heap.size A r) ∧ Hid (Below w.heap.size w wr)) (fun b0 _ _ _ _ => lenV b0)
  case atStart => exact ⟨A, l, n, cap, [], 0, 0, true, rfl, HN, hc, HM, rfl, rfl, rfl, rfl, rfl, by show _ = _; rw [cnt_nil]; rfl, OB.nil _ _, HR, Below.refl _ _⟩
  case round =>
    obtain ⟨A, r, m, cap, pre, lv, li, fb, rfl, hrm, hmc, hcm, rfl, rfl, hlv, hlp, hit, hcn, ho, hrb, hb⟩ := hrel
    have hpos : Hid (∀ x ∈ pre, (0 : Int) ≤ x.1) := fun x hx => (items_in l true x (by rw [← hit.out]; simp [hx])).1
    by_cases h0 : 0 < m
    · obtain ⟨b, off, rfl, hbw, hcell⟩ := hrb.out (by have := hrm.out; omega)
      have HCL := Lib.hid hcell
      have HG := Lib.hid (refget_any _ r m cap w.heap.size wr hrb.out hrm.out hmc hcm.out)
      have hlt0 : (0 : Int) < (m : Int) := by omega
      clear hcell
      cases hgd : getN r with
      | more =>
        have HG2 : Hid (Calls Tryd.prog 52 #[.slice (some ⟨b, off, none⟩) m cap] wr fun e w' => e = .returned (.tuple #[.int .i64 0, .int .i64 0, .int .i64 2]) ∧ wr = w') := by rw [hgd] at HG; exact HG
        have hst : stepR fb r = none := by unfold stepR; rw [hgd]
        have hfin : cnt m0 0 (items true l) = .form := by
          have h1 := hit.out
          rw [items_bad (by have := hrm.out; omega) hst] at h1
          rw [← h1, cnt_app, hcn.out]
          exact cnt_form _ _ _ _ rfl
        have HFIN := Lib.hid hfin
        clear hfin hst
        go_wp2_with (go_at_call 52; (with_reducible refine HG2.out.mono ?_); rintro e w' ⟨rfl, rfl⟩)
        go_ret2
        exact ⟨by rw [HFIN.out]; exact rfl, hb.out⟩
      | form =>
        have HG2 : Hid (Calls Tryd.prog 52 #[.slice (some ⟨b, off, none⟩) m cap] wr fun e w' => e = .returned (.tuple #[.int .i64 0, .int .i64 0, .int .i64 1]) ∧ wr = w') := by rw [hgd] at HG; exact HG
        have hst : stepR fb r = none := by unfold stepR; rw [hgd]
        have hfin : cnt m0 0 (items true l) = .form := by
          have h1 := hit.out
          rw [items_bad (by have := hrm.out; omega) hst] at h1
          rw [← h1, cnt_app, hcn.out]
          exact cnt_form _ _ _ _ rfl
        have HFIN := Lib.hid hfin
        clear hfin hst
        go_wp2_with (go_at_call 52; (with_reducible refine HG2.out.mono ?_); rintro e w' ⟨rfl, rfl⟩)
        go_ret2
        exact ⟨by rw [HFIN.out]; exact rfl, hb.out⟩
      | ok u kk =>
        obtain ⟨hu, hkp, _, hkl, hkk⟩ := getN_got r u kk hgd
        have hkm : kk ≤ m := by rw [← hrm.out]; exact hkl
        have HIN : Hid (in64 (zag u)) := zag_in u hu
        obtain ⟨y, hyy⟩ : ∃ y : Int, zag u = y := ⟨_, rfl⟩
        have HG3 : Hid (Calls Tryd.prog 52 #[.slice (some ⟨b, off, none⟩) m cap] wr fun e w' => e = .returned (gotV (.ok u kk)) ∧ wr = w') := by rw [hgd] at HG; exact HG
        have HG2 : Hid (Calls Tryd.prog 52 #[.slice (some ⟨b, off, none⟩) m cap] wr fun e w' => e = .returned (.tuple #[.int .i64 y, .int .i64 (kk : Int), .int .i64 0]) ∧ wr = w') := by rw [← hyy]; exact HG3
        clear HG3 HG hu hkp hkl
        by_cases hy1 : y < 1
        · have hyl := hyy
          have hst : stepR fb r = none := stepR_small _ hgd (by omega)
          have hfin : cnt m0 0 (items true l) = .form := by
            have h1 := hit.out
            rw [items_bad (by have := hrm.out; omega) hst] at h1
            rw [← h1, cnt_app, hcn.out]
            exact cnt_form _ _ _ _ rfl
          have HFIN := Lib.hid hfin
          clear hfin hst
          go_wp2_with (go_at_call 52; (with_reducible refine HG2.out.mono ?_); rintro e w' ⟨rfl, rfl⟩)
          go_ret2
          exact ⟨by rw [HFIN.out]; exact rfl, hb.out⟩
        · by_cases hend : m ≤ kk
          · have heq : kk = m := by omega
            have heq2 : ((m : Int) == (kk : Int)) = true := by simp [heq]
            have HEQ := Lib.hid heq; clear heq
            have hst : stepR fb r = none := stepR_stop _ hgd (by have := hrm.out; omega)
            have hfin : cnt m0 0 (items true l) = .form := by
              have h1 := hit.out
              rw [items_bad (by have := hrm.out; omega) hst] at h1
              rw [← h1, cnt_app, hcn.out]
              exact cnt_form _ _ _ _ rfl
            have HFIN := Lib.hid hfin
            clear hfin hst
            go_wp2_with (go_at_call 52; (with_reducible refine HG2.out.mono ?_); rintro e w' ⟨rfl, rfl⟩)
            go_ret2
            exact ⟨by rw [HFIN.out]; exact rfl, hb.out⟩
          · have hlt3 : (kk : Int) < (m : Int) := by omega
            have hltn : kk < m := by omega
            have heq2 : ((m : Int) == (kk : Int)) = false := by simp; omega
            obtain ⟨c, hcc⟩ : ∃ c : UInt8, r[kk]'(by have := hrm.out; omega) = c := ⟨_, rfl⟩
            have hcell := HCL.out kk (by have := hrm.out; omega)
            rw [hcc] at hcell
            unfold vb at hcell
            obtain ⟨ci, hmm⟩ : ∃ ci : Int, Hid ((c.toNat : Int) = ci) := ⟨_, rfl⟩
            rw [hmm.out] at hcell
            clear HCL
            by_cases hbz : ci = 0 ∧ fb = false
            · obtain ⟨hc0, hfb⟩ := hbz
              have hz1 : (ci == 0) = true := by simp [hc0]
              have hcz : c = 0 := by
                apply UInt8.toNat.inj
                have := hmm.out
                show c.toNat = 0
                omega
              have HC0 := Lib.hid hc0; clear hc0
              have hst : stepR fb r = none := by rw [hfb]; exact stepR_zero hgd (by have := hrm.out; omega) (by rw [hcc]; exact hcz)
              have hfin : cnt m0 0 (items true l) = .form := by
                have h1 := hit.out
                rw [items_bad (by have := hrm.out; omega) hst] at h1
                rw [← h1, cnt_app, hcn.out]
                exact cnt_form _ _ _ _ rfl
              have HFIN := Lib.hid hfin
              clear hfin hst
              go_wp2_with (go_at_call 52; (with_reducible refine HG2.out.mono ?_); rintro e w' ⟨rfl, rfl⟩)
              go_ret2
              exact ⟨by rw [HFIN.out]; exact rfl, hb.out⟩
            · have HFB : Hid (fb = true ∨ r[kk]'(by have := hrm.out; omega) ≠ 0) := by
                by_cases h : fb = true
                · exact .inl h
                · refine .inr ?_
                  rw [hcc]
                  intro e
                  have h2 := hmm.out
                  rw [e] at h2
                  exact hbz ⟨h2.symm, by simpa using h⟩
              have hcs : (ci == 0) = false ∨ ((ci == 0) = true ∧ fb = true) := by
                by_cases h : ci = 0
                · exact .inr ⟨by simp [h], by simpa [h] using hbz⟩
                · exact .inl (by simpa using h)
              have HBZ := Lib.hid hbz; clear hbz
              rcases hcs with hz1 | ⟨hz1, hfb⟩
              all_goals
                have hin := HIN.out
                have hst : stepR fb r = some (y, c, kk) := by rw [← hyy, ← hcc]; exact stepR_good _ hgd (by have := hrm.out; omega) (by omega) HFB.out
                have hit2 := hit.out
                rw [items_ok hst] at hit2
                obtain ⟨L, hL⟩ : ∃ L, Hid (L = expand 0 pre) := ⟨_, rfl⟩
                obtain ⟨lz, hlz⟩ : ∃ lz : Int, Hid ((L.length : Int) = lz) := ⟨_, rfl⟩
                have hcl : Hid (L.length ≤ 2147483647) := by
                  have h2 := (cnt_le m0 pre 0 _ HM0.out hpos.out hcn.out).2
                  have := HM1.out
                  have h3 := hL.out
                  rw [← h3] at h2
                  show _ ≤ _
                  omega
                have hlz2 : 0 ≤ lz ∧ lz ≤ m0 := by
                  have h2 := (cnt_le m0 pre 0 _ HM0.out hpos.out hcn.out).2
                  rw [← hL.out, hlz.out] at h2
                  have := hlz.out
                  omega
                obtain ⟨q, hq⟩ : ∃ q : Int, Hid (m0 - lz = q) := ⟨_, rfl⟩
                have HQ1 : Hid (wrap64 (m0 - lz) = q) := by have := HM1.out; show _ = _; rw [w64_id _ (by omega)]; exact hq.out
                obtain ⟨A6, cap6, rfl, hl6, hm6, _⟩ := ho.out.form L hL.out
                clear hm6 hl6
                by_cases hfull : q < y
                · have hfin : cnt m0 0 (items true l) = .full := by
                    rw [← hit2, cnt_app, hcn.out]
                    refine cnt_full _ _ _ _ rfl ?_
                    show m0 - ((expand 0 pre).length : Int) < y
                    rw [← hL.out, hlz.out, hq.out]
                    exact hfull
                  have HFIN := Lib.hid hfin
                  have hq1 := HQ1.out
                  have hlz' := hlz.out
                  clear hfin hst hit2
                  go_wp2_with (go_at_call 52; (with_reducible refine HG2.out.mono ?_); rintro e w' ⟨rfl, rfl⟩)
                  go_ret2
                  exact ⟨by rw [HFIN.out]; exact rfl, hb.out⟩
                · obtain ⟨x, hx⟩ : ∃ x : UInt8, Hid (x = lv ^^^ c) := ⟨_, rfl⟩
                  obtain ⟨z, hz⟩ : ∃ z : Int, Hid ((x.toNat : Int) = z) := ⟨_, rfl⟩
                  have hxor := b8_xor lv c
                  rw [← hx.out, hz.out, hlv.out, hmm.out] at hxor
                  have HCN : Hid (cnt m0 0 (pre ++ [(y, c, true)]) = .ok ((expand 0 (pre ++ [(y, c, true)])).length : Int)) := by
                    have h2 : cnt m0 0 (pre ++ [(y, c, true)]) = .ok (((expand 0 pre).length : Int) + y) := by
                      rw [cnt_app, hcn.out]
                      show cnt m0 _ [_] = _
                      rw [cnt_on _ _ _ _ rfl (by show ¬ m0 - ((expand 0 pre).length : Int) < y; rw [← hL.out, hlz.out, hq.out]; exact hfull), cnt_nil]
                    show _ = _
                    rw [h2, expand_app, expand_one, List.length_append, List.length_replicate]
                    congr 1
                    show _ + y = (((expand 0 pre).length + y.toNat : Nat) : Int)
                    omega
                  have HLV : Hid (lastV 0 (pre ++ [(y, c, true)]) = x) := by show _ = _; rw [lastV_app, hlp.out]; exact hx.out.symm
                  obtain ⟨nn, hnn⟩ : ∃ nn : Nat, Hid (y = (nn : Int)) := ⟨y.toNat, by show _ = _; omega⟩
                  have HRP : Hid (L ++ List.replicate nn x = expand 0 (pre ++ [(y, c, true)])) := by
                    show _ = _
                    rw [expand_app, expand_one, hlp.out, ← hL.out, ← hx.out]
                    show L ++ _ = L ++ List.replicate y.toNat x
                    rw [show y.toNat = nn by have := hnn.out; omega]
                  have HNM : Hid (nn ≤ 2147483647) := by have := hnn.out; have := hq.out; have := HM1.out; show _ ≤ _; omega
                  obtain ⟨k2, hk2⟩ : ∃ k2 : Nat, Hid (k2 = kk + 1) := ⟨_, rfl⟩
                  have hk2m : k2 ≤ m := by have := hk2.out; omega
                  have HIT : Hid ((pre ++ [(y, c, true)]) ++ items false (r.drop k2) = items true l) := by show _ = _; rw [hk2.out, List.append_assoc]; exact hit2
                  have HRD : Hid ((r.drop k2).length = m - k2) := by show _ = _; rw [List.length_drop, hrm.out]
                  have hrc := hrb.out.cut k2 cap (by have := hrm.out; omega) (by have := hrm.out; omega)
                  have HMS : Hid (m - k2 < m) := by have := hk2.out; show _ < _; omega
                  have HW : Hid (wrap64 ((kk : Int) + 1) = (k2 : Int)) := by have := hk2.out; have := hcm.out; unfold maxLen at this; show _ = _; rw [w64_id _ (by omega)]; omega
                  have k0 : (0 : Int) ≤ (k2 : Int) := by omega
                  have k1 : (k2 : Int) ≤ (m : Int) := by omega
                  have k3 : (m : Int) ≤ (cap : Int) := by omega
                  have k4 : (k2 : Int) ≤ (cap : Int) := by omega
                  have HY : Hid (y ≤ 2147483647) := by have := hnn.out; have := HNM.out; show _ ≤ _; omega
                  have hbs := hb.out.size
                  have hq1 := HQ1.out
                  have hlz' := hlz.out
                  clear hst hit2
                  go_wp2_with (go_at_call 52; (with_reducible refine HG2.out.mono ?_); rintro e w' ⟨rfl, rfl⟩)
                  clear hq1 hlz'
                  have HCNQ := Lib.hid hcn.out
                  obtain ⟨W0, rfl⟩ : ∃ W0, W0 = wr := ⟨wr, rfl⟩
                  go_loopw [6, 12] (fun out i wr => ∃ (k : Nat) (yi : Int), i = .int .i64 yi ∧ Hid (yi = (k : Int)) ∧ 0 ≤ yi ∧ yi ≤ y ∧ Hid (OB wr w.heap.size out (L ++ List.replicate k x)) ∧ Hid (Below w.heap.size W0 wr)) (fun _ i _ => (y - intOf i).toNat)
                  case atStart => exact ⟨0, 0, rfl, rfl, by omega, by omega, by show OB _ _ _ _; rw [List.replicate_zero, List.append_nil]; have := ho.out; rw [← hL.out] at this; exact this, Below.refl _ _⟩
                  case round =>
                    obtain ⟨k, yi, rfl, hyk, hy0, hyn, ho2, hb3⟩ := hrel
                    have hb2 := Lib.hid (hb.out.trans hb3.out)
                    by_cases hlt3 : yi < y
                    · have HLEN := Lib.hid (app_one L k nn x hcl.out (by have := hyk.out; have := hnn.out; omega) HNM.out)
                      have HONE := Lib.hid (one_reads wr z x hz.out)
                      have HBS : Hid (w.heap.size ≤ (wr.alloc (bOne z)).heap.size) := by have := hb2.out.size; show _ ≤ _; rw [World.size_alloc]; omega
                      have HB3 := Lib.hid (hb3.out.alloc hb2.out.size (bOne z))
                      have ho3 : OB (wr.alloc (bOne z)) w.heap.size _ (L ++ List.replicate k x) := ho2.out.alloc _
                      have HO3 := Lib.hid ho3; clear ho3
                      have hyk2 : Hid (yi + 1 = ((k + 1 : Nat) : Int)) := by have := hyk.out; show _ = _; omega
                      have hms : Hid ((y - (yi + 1)).toNat < (y - yi).toNat) := by show _ < _; omega
                      have hyn2 : Hid (yi + 1 ≤ y) := by show _ ≤ _; omega
                      have hy02 : Hid (0 ≤ yi + 1) := by show _ ≤ _; omega
                      have HWY : Hid (wrap64 (yi + 1) = yi + 1) := by have := HY.out; show _ = _; rw [w64_id _ (by omega)]
                      have hwy := HWY.out
                      go_wp2_with (at_builtin; refine wpList_append_bytes rfl (.tmp 63) (.tmp 65) rfl w.heap.size _ (L ++ List.replicate k x) [x] rfl HO3.out (wr.heap.size + 1) _ 1 rfl HONE.out HLEN.out HBS.out ?_; intro v2 w2 o2 g2 e2; have hb4 := HB3.out.grown g2 HBS.out HO3.out.ge; have O2 := Lib.hid o2; have HB4 := Lib.hid hb4; clear o2 g2 e2 hb4)
                      clear hwy
                      go_roundw
                      case rel => exact ⟨k + 1, yi + 1, by rw [HWY.out], hyk2, hy02.out, hyn2.out, by show OB _ _ _ _; rw [List.replicate_succ', ← List.append_assoc]; exact O2.out, HB4.out⟩
                      case measure => rw [HWY.out]; exact hms.out
                    · have hke : k = nn := by have := hyk.out; have := hnn.out; omega
                      subst hke
                      by_cases hcap : cap = k2
                      · rw [if_pos hcap] at hrc
                        have HRC := Lib.hid hrc; clear hrc
                        have HMC : Hid (m - k2 ≤ 0) := by show _ ≤ _; omega
                        have HCC2 : Hid (0 ≤ maxLen) := by have := hcm.out; unfold maxLen at *; show _ ≤ _; omega
                        have hw := HW.out
                        go_wp2
                        clear hw
                        go_roundw
                        case rel => exact ⟨some ⟨b, off, none⟩, r.drop k2, m - k2, 0, pre ++ [(y, c, true)], x, z, false, rfl, HRD.out, HMC.out, HCC2.out, rfl, rfl, hz, HLV.out, HIT.out, HCN.out, by rw [← HRP.out]; exact ho2.out, HRC.out.below hb3.out, hb2.out⟩
                        case measure => exact HMS.out
                      · rw [if_neg hcap] at hrc
                        simp only [Option.map_some, Addr.add_lit] at hrc
                        have HRC := Lib.hid hrc; clear hrc
                        have HMC : Hid (m - k2 ≤ cap - k2) := by show _ ≤ _; omega
                        have HCC2 : Hid (cap - k2 ≤ maxLen) := by have := hcm.out; unfold maxLen at *; show _ ≤ _; omega
                        have hw := HW.out
                        go_wp2
                        clear hw
                        go_roundw
                        case rel => exact ⟨some ⟨b, off + k2, none⟩, r.drop k2, m - k2, cap - k2, pre ++ [(y, c, true)], x, z, false, rfl, HRD.out, HMC.out, HCC2.out, rfl, rfl, hz, HLV.out, HIT.out, HCN.out, by rw [← HRP.out]; exact ho2.out, HRC.out.below hb3.out, hb2.out⟩
                        case measure => exact HMS.out
    · have hm0 : m = 0 := by omega
      have hre : r = [] := List.eq_nil_of_length_eq_zero (by have := hrm.out; omega)
      have hfin := hit.out
      rw [hre, items_nil, List.append_nil] at hfin
      have HF := Lib.hid hfin
      have HCN := Lib.hid hcn.out
      clear hfin hre
      subst hm0
      go_wp2
      go_ret2
      refine ⟨?_, hb.out⟩
      rw [← HF.out, HCN.out]
      exact ⟨_, rfl, ho.out⟩
end Go.Proofs.YtclgcfofgiejgaaDoor
