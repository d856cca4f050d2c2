/- WALK of the law CheckMore. -/
import Derived.Test.YtjdhgfcilmobdaaEg
import Derived.Test.YtjdhgfcilmobdaaKo
import Derived.Deep.RegionLaw
import Derived.Deep.DeepCutAuto
namespace Go.Proofs.Ytjdhgfcilmobdaa
set_option maxRecDepth 100000
open Go.RowKit
set_option linter.unusedVariables false
attribute [local go_sem ↓] Go.wp_at_zero Go.wp_at_succ

theorem has_more (kd n m m' : Int) (h : m ≤ m') (hh : hasB kd n m = true) : hasB kd n m' = true := by
  unfold hasB at *
  by_cases h1 : kd = 1
  · rw [if_pos h1]
  rw [if_neg h1] at *
  by_cases h2 : kd = 2
  · rw [if_pos h2] at *; exact hh
  rw [if_neg h2] at *
  by_cases h3 : kd = 3
  · rw [if_pos h3] at *
    simp at hh ⊢
    omega
  rw [if_neg h3] at *
  exact hh
theorem may_more (o : O4) (m m' : Int) (h : m ≤ m') (hh : mayB o m = true) : mayB o m' = true := by
  unfold mayB at *
  simp only [Bool.and_eq_true] at *
  exact ⟨⟨⟨hh.1.1.1, has_more _ _ _ _ h hh.1.1.2⟩, has_more _ _ _ _ h hh.1.2⟩, has_more _ _ _ _ h hh.2⟩
def jumpO (L : Nat) : O4 := ⟨9, (L : Int), 0, 0⟩
theorem jump_may (L : Nat) (m : Int) (h : (L : Int) ≤ m) : mayB (jumpO L) m = true := by
  unfold mayB jumpO
  have e : hasB (kd (9 : Int).toNat 0) (L : Int) m = true := by
    show hasB 3 (L : Int) m = true
    unfold hasB
    rw [if_neg (by decide), if_neg (by decide), if_pos rfl]
    simp
    omega
  simp only [e]
  rfl
theorem fault_more (tb : Bool) (y : List O4) (k : Nat) (hy : y.length ≤ 40) (hk : k ≤ 20) (h : faultN tb y = -1) : faultN tb (y ++ List.replicate k (jumpO y.length)) = -1 := by
  unfold faultN at *
  by_cases hf : fitsB tb y = true
  · rw [if_pos hf] at h
    obtain ⟨f1, f2, f3, f4⟩ := (fitsB_iff _ _).1 hf
    have hall : ∀ o ∈ y, mayB o y.length = true := by
      rcases firstN_eq (fun o => mayB o y.length) y with ⟨k, hk, e, _⟩ | ⟨_, e⟩
      · rw [e] at h; omega
      · intro o ho
        obtain ⟨j, hj, rfl⟩ := List.getElem_of_mem ho
        exact e j hj
    have hl : (y ++ List.replicate k (jumpO y.length)).length = y.length + k := by simp
    rw [if_pos ((fitsB_iff _ _).2 ⟨f1, by omega, by omega, fun o ho => by
      rcases List.mem_append.1 ho with h | h
      · exact f4 o h
      · rw [List.eq_of_mem_replicate h]
        unfold smlO sml jumpO
        simp only
        omega⟩)]
    refine firstN_miss _ _ (fun j hj => ?_)
    have hm := List.getElem_mem hj
    rcases List.mem_append.1 hm with h | h
    · exact may_more _ _ _ (by rw [hl]; omega) (hall _ h)
    · rw [List.eq_of_mem_replicate h]
      exact jump_may _ _ (by rw [hl]; omega)
  · rw [if_neg hf] at h; omega
set_option maxHeartbeats 4000000 in
theorem checkmore_law (t : ByteArray) (A : Option Addr) (x : List O4) (c : Nat) (n : Int) (w : World) (h1 : RO w w.heap.size A x) (k1 : x.length ≤ c) (m1 : c ≤ maxLen) (n1 : -9223372036854775808 ≤ n) (n2 : n ≤ 9223372036854775807) :
    Calls Try.prog 5 #[progV t A x.length c, .int .i64 n] w fun e w' => e = .returned (.bool true) ∧ Below w.heap.size w w' := by
  have H1 := Lib.hid h1; clear h1
  unfold progV
  have b0 : Below w.heap.size w (w.alloc (.cells #[.string t, .slice A x.length c] 24)) := (Below.refl _ _).alloc (Nat.le_refl _) _
  have h40 : Hid ((40 : Int) = ((40 : Nat) : Int)) := by unfold Hid; omega
  have C1 := fun W => lcut_named t A x c 40 40 h40 W (by omega) (by omega) k1 m1
  have HC1 := Lib.hid C1; clear C1
  have N1 := Lib.hid n1; have N2 := Lib.hid n2; clear n1 n2
  go_enter Try.func5, Try.ntmps5
  go_wp2_with fail
  refine (begun7_any _).mono ?_
  rintro e w1 ⟨rfl, hb1⟩
  obtain ⟨hc0, hc1, hf0, hf1⟩ := two_cells hb1 (by simp)
  have hb2 := b0.trans (hb1.mono (by simp))
  have hs1 := hb1.size
  rw [World.size_alloc] at hs1
  clear hb1 b0
  go_wp2_with fail
  refine (HC1.out _).mono ?_
  rintro e w2 ⟨u, y, hu, hy, rfl, hb3⟩
  have d0 := (hb3.cell (p := ⟨w.heap.size, 0, none⟩) (show w.heap.size < _ by omega)).trans hc0
  have d1 := (hb3.cell (p := ⟨w.heap.size, 1, none⟩) (show w.heap.size < _ by omega)).trans hc1
  have e0 := (hb3.frozen (p := ⟨w.heap.size, 0, none⟩) (show w.heap.size < _ by omega)).trans hf0
  have e1 := (hb3.frozen (p := ⟨w.heap.size, 1, none⟩) (show w.heap.size < _ by omega)).trans hf1
  have hb4 := hb2.trans (hb3.mono hb2.size)
  have hs2 := Nat.le_trans hs1 hb3.size
  clear hc0 hc1 hf0 hf1 hb2 hb3
  obtain ⟨s0, s1, sb, sz⟩ := stored2 (u := .string u) (v := .slice A y.length c) d0 d1 w.heap.size (Nat.le_refl _)
  have hbW := hb4.trans sb
  have hyl : y.length ≤ c := by rw [hy.out, List.length_take]; omega
  have hy40 : y.length ≤ 40 := by rw [hy.out, List.length_take]; omega
  have hut : u.size ≤ 40 := by rw [hu.out]; exact cutT_size _
  obtain ⟨z, hz⟩ : ∃ z, faultN (titB u) y = z := ⟨_, rfl⟩
  have R0 := Lib.hid (show RO ((w2.setCell ⟨w.heap.size, 0, none⟩ (.string u)).setCell ⟨w.heap.size, 1, none⟩ (.slice A y.length c)) w.heap.size A y by have r0 := (H1.out.below hbW).take 40; rw [← hy.out] at r0; exact r0)
  have HM := Lib.hid (may_any u A y c w.heap.size ((w2.setCell ⟨w.heap.size, 0, none⟩ (.string u)).setCell ⟨w.heap.size, 1, none⟩ (.slice A y.length c)) R0.out (by rw [sz]; omega) hyl m1 (by omega))
  rw [hz] at HM
  unfold progV at HM
  have S0 := Lib.hid s0; have S1 := Lib.hid s1; have SZ := Lib.hid sz
  have HZ := Lib.hid hz
  clear s0 s1 sz sb HC1 hb4 H1 hz
  go_wp2_with fail
  (with_reducible refine HM.out.mono ?_)
  rintro e w4 ⟨rfl, hb5⟩
  have p0 := (hb5.cell (p := ⟨w.heap.size, 0, none⟩) (show w.heap.size < _ by have := SZ.out; omega)).trans S0.out
  have p1 := (hb5.cell (p := ⟨w.heap.size, 1, none⟩) (show w.heap.size < _ by have := SZ.out; omega)).trans S1.out
  have hs4 : w.heap.size + 1 ≤ w4.heap.size := by have := SZ.out; have := hb5.size; omega
  have hb6 := hbW.trans (hb5.mono (by have := SZ.out; omega))
  have R4 := Lib.hid (R0.out.below (hb5.mono (by have := SZ.out; omega)))
  clear hb5 hbW SZ S0 S1 HM e0 e1 d0 d1 R0
  cases hzz : z == -1 with
  | false =>
    go_wp2
    go_ret
    exact ⟨rfl, hb6⟩
  | true =>
  have hz1 : z = -1 := by simpa using hzz
  have HZ1 := Lib.hid (HZ.out.trans hz1)
  clear HZ hzz hz1
  by_cases g1 : n < 0
  · go_wp2
    go_ret
    exact ⟨rfl, hb6⟩
  by_cases g2 : 20 < n
  · go_wp2
    go_ret
    exact ⟨rfl, hb6⟩
  obtain ⟨N, hN⟩ : ∃ N : Nat, n = N := ⟨n.toNat, by omega⟩
  have hN20 : N ≤ 20 := by omega
  subst hN
  have hZb : Below w4.drew.heap.size w4.drew (w4.drew.alloc (.cells #[.string ⟨#[]⟩, .slice none 0 0] 24)) := (Below.refl _ _).alloc (Nat.le_refl _) _
  have RD := Lib.hid (show RO w4.drew w.heap.size A y from R4.out)
  have RA := Lib.hid (RD.out.below (hZb.mono (show w.heap.size ≤ w4.heap.size by omega)))
  have HK := Lib.hid (show ([] : List O4).length + y.length ≤ 1000000 by simp; omega)
  have HL1 := Lib.hid (show w4.heap.size ≤ w4.drew.heap.size from Nat.le_refl _)
  have HL2 := Lib.hid (show w4.heap.size ≤ (w4.drew.alloc (.cells #[.string ⟨#[]⟩, .slice none 0 0] 24)).heap.size by rw [World.size_alloc]; exact Nat.le_succ_of_le (Nat.le_refl _))
  have hds : w4.drew.heap.size = w4.heap.size := rfl
  have HZ2 : Hid ((w4.drew.alloc (.cells #[.string ⟨#[]⟩, .slice none 0 0] 24)).rowIs w4.heap.size 24 2 (pF ⟨#[]⟩ (.slice none 0 0))) := pRow w4.drew _ _
  have P0 := Lib.hid p0; have P1 := Lib.hid p1
  have hG : w.heap.size < w4.heap.size := by omega
  go_upto_region 7 with fail
  go_cut [6] (fun s6 wx => ∃ P v, s6 = .pointer (some ⟨P, 0, none⟩) ∧ Hid (wx.rowIs P 24 2 (pF u v)) ∧ Hid (OO wx w4.heap.size v y) ∧ Hid (v.ownBlock ≠ some P) ∧ Below w4.heap.size w4 wx ∧ w4.heap.size ≤ P)
  case first =>
    have p0d : w4.drew.cell? ⟨w.heap.size, 0, none⟩ = some (.string u) := p0
    have p1d : w4.drew.cell? ⟨w.heap.size, 1, none⟩ = some (.slice A y.length c) := p1
    have p0a : (w4.drew.alloc (.cells #[.string ⟨#[]⟩, .slice none 0 0] 24)).cell? ⟨w.heap.size, 0, none⟩ = some (.string u) := (hZb.cell (p := ⟨w.heap.size, 0, none⟩) (show w.heap.size < w4.heap.size from hG)).trans p0
    have p1a : (w4.drew.alloc (.cells #[.string ⟨#[]⟩, .slice none 0 0] 24)).cell? ⟨w.heap.size, 1, none⟩ = some (.slice A y.length c) := (hZb.cell (p := ⟨w.heap.size, 1, none⟩) (show w.heap.size < w4.heap.size from hG)).trans p1
    go_region_law (first
      | (refine step_append_ops (by rfl) (.const (.slice none 0 0)) (.tmp 27) (by rfl) w4.heap.size (.slice none 0 0) [] y (by rfl) (OO.nil w4.drew w4.heap.size) w.heap.size A c (by rfl) RD.out HK.out HL1.out ?_; intro v3 w3 o3 g3 x3; obtain ⟨A3, c3, rfl⟩ := o3.form_n y.length (by simp); have O3 := Lib.hid o3; have G3 := Lib.hid g3; have X3 := Lib.hid x3; have u0 := g3.cell p0d (by simp [Value.ownBlock]); have u1 := g3.cell p1d (by simp [Value.ownBlock]); have hl3 : w.heap.size < w3.heap.size := Nat.lt_of_lt_of_le hG g3.size; have y0 := (((Below.refl w3.heap.size w3).alloc (Nat.le_refl _) (.cells #[.string ⟨#[]⟩, .slice none 0 0] 24)).cell (p := ⟨w.heap.size, 0, none⟩) hl3).trans u0; clear o3 g3 x3)
      | (refine step_append_ops (by rfl) (.const (.slice none 0 0)) (.tmp 27) (by rfl) w4.heap.size (.slice none 0 0) [] y (by rfl) (OO.nil _ w4.heap.size) w.heap.size A c (by rfl) RA.out HK.out HL2.out ?_; intro v3 w3 o3 g3 x3; obtain ⟨A3, c3, rfl⟩ := o3.form_n y.length (by simp); have O3 := Lib.hid o3; have G3 := Lib.hid g3; have X3 := Lib.hid x3; have u0 := g3.cell p0a (by simp [Value.ownBlock]); have u1 := g3.cell p1a (by simp [Value.ownBlock]); have r3 := World.rowIs.of_block HZ2.out (g3.block _ (World.rowIs.lt HZ2.out) (by simp [Value.ownBlock])); have y0 := World.rowIs.cell r3 (show 0 < 2 by omega); have y1 := World.rowIs.cell r3 (show 1 < 2 by omega); have y2 := World.rowIs.frozen r3 0; have y3 := World.rowIs.frozen r3 1; have Y3 := Lib.hid r3; clear o3 g3 x3 r3))
    all_goals
      go_wp2_with fail
      go_meet
      first
        | (refine ⟨w3.heap.size, .slice A3 y.length c3, rfl, pRow w3 u _, World.ownsRow.alloc O3.out _, fun e => Nat.lt_irrefl _ (OO.lo O3.out _ e), ((((Below.refl _ w4).drew).grown G3.out (Nat.le_refl _) (fun j hj => by cases hj)).alloc G3.out.size _), G3.out.size⟩; done)
        | (have hno : (Value.slice A3 y.length c3).ownBlock ≠ some w4.heap.size := (fun e => by
             rcases X3.out with h | h
             · rw [h] at e; cases e
             · rw [h] at e
               have e2 : (w4.alloc (.cells #[.string ⟨#[]⟩, .slice none 0 0] 24)).heap.size = w4.heap.size := Option.some.inj e
               rw [World.size_alloc] at e2
               exact absurd e2 (Nat.succ_ne_self w4.heap.size))
           refine ⟨w4.heap.size, .slice A3 y.length c3, rfl, ((World.rowIs.set Y3.out 0 (.string u)).set 1 (.slice A3 y.length c3)).congr (fun i hi => ?_), ownsRow_setCell_other (ownsRow_setCell_other O3.out hno _) hno _, hno, (((((Below.refl _ w4).drew).alloc (Nat.le_refl _) _).grown G3.out HL2.out (fun j hj => by cases hj)).setCell (Nat.le_refl _) _).setCell (Nat.le_refl _) _, Nat.le_refl _⟩
           obtain rfl | rfl : i = 0 ∨ i = 1 := by omega
           · rfl
           · rfl)
  case rest =>
    obtain ⟨P, v0, rfl, hrow0, hown0, hne0, hbx, hP⟩ := hcut
    clear hZb RD RA HL1 HL2 HZ2 hds p0 p1
    go_wp2_with fail
    go_loopw [7] (fun i wr => ∃ (k : Nat) (v : Value), i = .int .i64 k ∧ k ≤ N ∧ Hid (wr.rowIs P 24 2 (pF u v)) ∧ Hid (OO wr w4.heap.size v (y ++ List.replicate k (jumpO y.length))) ∧ Hid (v.ownBlock ≠ some P) ∧ Below w4.heap.size w4 wr) (fun i _ => N - (intOf i).toNat)
    case atStart => exact ⟨0, _, rfl, by omega, hrow0, by unfold Hid; rw [List.replicate_zero, List.append_nil]; exact hown0.out, hne0, hbx⟩
    case round =>
      obtain ⟨k, v, rfl, hk, hrow, hown, hne, hb⟩ := hrel
      clear hrow0 hown0 hne0 hbx
      have hgl := World.rowIs.lt hrow.out
      have q0 : wr.cell? ⟨P, 0, none⟩ = some (.string u) := World.rowIs.cell hrow.out (show 0 < 2 by omega)
      have q1 : wr.cell? ⟨P, 1, none⟩ = some v := World.rowIs.cell hrow.out (show 1 < 2 by omega)
      have qf := World.rowIs.frozen hrow.out 1
      have p1 := (hb.cell (p := ⟨w.heap.size, 1, none⟩) (show w.heap.size < w4.heap.size from hG)).trans P1.out
      by_cases hlt : k < N
      · have hkn : (k : Int) < (N : Int) := by omega
        have HX := Lib.hid (hown.out.alloc (oObj (jumpO y.length)))
        have HQ := Lib.hid (oObj_reads wr (jumpO y.length))
        have hsum : (y ++ List.replicate k (jumpO y.length)).length = y.length + k := by simp
        have hkl : (y ++ List.replicate k (jumpO y.length)).length + [jumpO y.length].length ≤ 1000000 := by rw [hsum]; simp; omega
        have HK := Lib.hid hkl
        have HBs := Lib.hid (show w4.heap.size ≤ (wr.alloc (oObj (jumpO y.length))).heap.size by have := hb.size; simp; omega)
        have hrow2 := World.rowIs.alloc hrow.out (oObj (jumpO y.length))
        have HRw := Lib.hid hrow2
        have hbw := hb.alloc hb.size (oObj (jumpO y.length))
        have HN2 : Hid ((y ++ List.replicate k (jumpO y.length) ++ [jumpO y.length]).length = y.length + k + 1) := by unfold Hid; rw [List.length_append, hsum]; rfl
        have HBZ := Lib.hid hb.size
        clear hsum hkl hrow2
        go_wp2_with (at_builtin; refine wpList_append_ops rfl (.tmp 36) (.tmp 41) rfl w4.heap.size v (y ++ List.replicate k (jumpO y.length)) [jumpO y.length] rfl HX.out (wr.heap.size + 1) (some ⟨wr.heap.size, 0, none⟩) 1 rfl HQ.out HK.out HBs.out ?_; intro v2 w2 o2 g2 x2; obtain ⟨A2, c2, rfl⟩ := o2.form_n (y.length + k + 1) HN2.out; have hrw2 : w2.rowIs P 24 2 (pF u v) := World.rowIs.of_block HRw.out (g2.block _ (World.rowIs.lt HRw.out) (fun e => hne.out e.symm)); have t1 := World.rowIs.cell hrw2 (show 1 < 2 by omega); have t2 := World.rowIs.frozen hrw2 1; have HRw2 := Lib.hid hrw2; clear hrw2; have HO2 := Lib.hid o2; clear o2; have hb3 := hbw.grown g2 HBs.out (fun j hj => (World.ownsRow.lt HX.out _ hj).1); have HX2 := Lib.hid x2; clear g2 x2)
        have HNE : Hid ((Value.slice A2 (y.length + k + 1) c2).ownBlock ≠ some P) := fun e => by
          rcases HX2.out with h | h
          · rw [h] at e; exact hne.out e
          · rw [h] at e
            have := Option.some.inj e
            simp at this
            omega
        go_roundw
        case rel =>
          refine ⟨k + 1, .slice A2 (y.length + k + 1) c2, by go_num, by omega, ?_, ?_, HNE, hb3.setCell hP _⟩
          · refine (World.rowIs.set HRw2.out 1 _).congr (fun i hi => ?_)
            obtain rfl | rfl : i = 0 ∨ i = 1 := by omega
            all_goals rfl
          · have := HO2.out
            unfold Hid
            rw [List.replicate_succ', ← List.append_assoc]
            exact ownsRow_setCell_other this HNE.out _
        case measure => simp [intOf]; omega
      · obtain rfl : k = N := by omega
        obtain ⟨A2, cap2, rfl, hlc, hcm, hRW⟩ := hown.out.form
        have hfin := fault_more (titB u) y k hy40 hN20 HZ1.out
        generalize y ++ List.replicate k (jumpO y.length) = os at *
        have HM := Lib.hid (may_any u A2 os cap2 wr.heap.size wr hRW (Nat.le_refl _) hlc hcm (by omega))
        rw [hfin] at HM
        unfold progV at HM
        have hbf := hb6.trans (hb.mono (Nat.le_of_lt hG))
        clear hfin hRW hown hrow hne
        go_wp2_with fail
        (with_reducible refine HM.out.mono ?_)
        rintro e w7 ⟨rfl, hb7⟩
        go_wp2
        go_ret
        exact ⟨rfl, hbf.trans (hb7.mono hbf.size)⟩
end Go.Proofs.Ytjdhgfcilmobdaa
