/- WALK of the law CodeEq. -/
import Derived.Test.YtjjhdbcekkmjfaaOp
import Derived.Deep.DeepCutAuto
import Derived.Outline
namespace Go.Proofs.Ytjjhdbcekkmjfaa
open Go.RowKit
set_option linter.unusedVariables false
attribute [local go_sem ↓] Go.wp_at_zero Go.wp_at_succ

theorem lcut_named (t : ByteArray) (A : Option Addr) (os : List O4) (cap k : Nat) (n : Int) (hn : Hid (n = k)) (w : World) (n0 : 0 ≤ n) (n1 : n ≤ 1000) (hc : os.length ≤ cap) (hm : cap ≤ maxLen) :
    Calls Try.prog 10 #[.agg #[.string t, .slice A os.length cap], .int .i64 n] w fun e w' => ∃ u os', Hid (u = cutT t) ∧ Hid (os' = os.take k) ∧ e = .returned (.agg #[.string u, .slice A os'.length cap]) ∧ Below w.heap.size w w' :=
  (lcut_any t A os cap k n hn w n0 n1 hc hm).mono fun e w' ⟨he, hw⟩ => ⟨_, _, rfl, rfl, he, hw⟩
set_option maxHeartbeats 4000000 in
theorem eq_law (t1 t2 : ByteArray) (A1 A2 : Option Addr) (x y : List O4) (c1 c2 : Nat) (w : World) (h1 : RO w w.heap.size A1 x) (h2 : RO w w.heap.size A2 y) (k1 : x.length ≤ c1) (k2 : y.length ≤ c2) (m1 : c1 ≤ maxLen) (m2 : c2 ≤ maxLen) :
    Calls Try.prog 5 #[progV t1 A1 x.length c1, progV t2 A2 y.length c2] w fun e w' => e = .returned (.bool true) ∧ Below w.heap.size w w' := by
  have H1 := Lib.hid h1; have H2 := Lib.hid h2; clear h1 h2
  unfold progV
  have b0 : Below w.heap.size w ((w.alloc (.cells #[.string t1, .slice A1 x.length c1] 24)).alloc (.cells #[.string t2, .slice A2 y.length c2] 24)) := ((Below.refl _ _).alloc (Nat.le_refl _) _).alloc (by simp) _
  go_enter Try.func5, Try.ntmps5
  go_wp2_with fail
  refine (begun_any _).mono ?_
  rintro e w1 ⟨rfl, hb1⟩
  have hs1 := hb1.size
  simp only [World.size_alloc] at hs1
  have p0 := hb1.cell (p := ⟨w.heap.size, 0, none⟩) (by simp; omega)
  have p1 := hb1.cell (p := ⟨w.heap.size, 1, none⟩) (by simp; omega)
  have q0 := hb1.cell (p := ⟨w.heap.size + 1, 0, none⟩) (by simp)
  have q1 := hb1.cell (p := ⟨w.heap.size + 1, 1, none⟩) (by simp)
  have fp0 := hb1.frozen (p := ⟨w.heap.size, 0, none⟩) (by simp; omega)
  have fp1 := hb1.frozen (p := ⟨w.heap.size, 1, none⟩) (by simp; omega)
  have fq0 := hb1.frozen (p := ⟨w.heap.size + 1, 0, none⟩) (by simp)
  have fq1 := hb1.frozen (p := ⟨w.heap.size + 1, 1, none⟩) (by simp)
  simp at p0 p1 q0 q1 fp0 fp1 fq0 fq1
  have hb2 := b0.trans (hb1.mono (by simp; omega))
  clear hb1 b0
  have h20 : Hid ((20 : Int) = ((20 : Nat) : Int)) := by unfold Hid; omega
  have C1 := fun W => lcut_named t1 A1 x c1 20 20 h20 W (by omega) (by omega) k1 m1
  have C2 := fun W => lcut_named t2 A2 y c2 20 20 h20 W (by omega) (by omega) k2 m2
  have HC1 := Lib.hid C1; have HC2 := Lib.hid C2; clear C1 C2
  go_wp2_with fail
  have hs2 : w.heap.size + 1 + 1 ≤ w1.drew.heap.size := hs1
  clear hs1
  have hs1 := hs2
  clear hs2
  replace hb2 := hb2.drew
  go_upto_region 4 with fail
  go_cut [] (fun wc => ∃ u1 x' u2 y', Hid (u1 = cutT t1) ∧ Hid (x' = x.take 20) ∧ Hid (u2 = cutT t2) ∧ Hid (y' = y.take 20) ∧ wc.cell? ⟨w.heap.size, 0, none⟩ = some (.string u1) ∧ wc.cell? ⟨w.heap.size, 1, none⟩ = some (.slice A1 x'.length c1) ∧ wc.cell? ⟨w.heap.size + 1, 0, none⟩ = some (.string u2) ∧ wc.cell? ⟨w.heap.size + 1, 1, none⟩ = some (.slice A2 y'.length c2) ∧ Below w.heap.size w wc ∧ w.heap.size + 2 ≤ wc.heap.size)
  case first =>
   go_region_with (first
    | (go_at_call 10; ((with_reducible refine (HC1.out _).mono ?_); rintro e w2 ⟨u1, x', hu1, hx', rfl, hb3⟩; (replace p0 := (hb3.cell (p := ⟨w.heap.size, 0, none⟩) (show w.heap.size < _ by omega)).trans p0); (replace p1 := (hb3.cell (p := ⟨w.heap.size, 1, none⟩) (show w.heap.size < _ by omega)).trans p1); (replace q0 := (hb3.cell (p := ⟨w.heap.size + 1, 0, none⟩) (show w.heap.size + 1 < _ by omega)).trans q0); (replace q1 := (hb3.cell (p := ⟨w.heap.size + 1, 1, none⟩) (show w.heap.size + 1 < _ by omega)).trans q1); (replace fp0 := (hb3.frozen (p := ⟨w.heap.size, 0, none⟩) (show w.heap.size < _ by omega)).trans fp0); (replace fp1 := (hb3.frozen (p := ⟨w.heap.size, 1, none⟩) (show w.heap.size < _ by omega)).trans fp1); (replace fq0 := (hb3.frozen (p := ⟨w.heap.size + 1, 0, none⟩) (show w.heap.size + 1 < _ by omega)).trans fq0); (replace fq1 := (hb3.frozen (p := ⟨w.heap.size + 1, 1, none⟩) (show w.heap.size + 1 < _ by omega)).trans fq1); replace hb2 := hb2.trans (hb3.mono (by omega)); replace hs1 := Nat.le_trans hs1 hb3.size))
    | (go_at_call 10; ((with_reducible refine (HC2.out _).mono ?_); rintro e w3 ⟨u2, y', hu2, hy', rfl, hb4⟩; (replace p0 := (hb4.cell (p := ⟨w.heap.size, 0, none⟩) (show w.heap.size < _ by omega)).trans p0); (replace p1 := (hb4.cell (p := ⟨w.heap.size, 1, none⟩) (show w.heap.size < _ by omega)).trans p1); (replace q0 := (hb4.cell (p := ⟨w.heap.size + 1, 0, none⟩) (show w.heap.size + 1 < _ by omega)).trans q0); (replace q1 := (hb4.cell (p := ⟨w.heap.size + 1, 1, none⟩) (show w.heap.size + 1 < _ by omega)).trans q1); (replace fp0 := (hb4.frozen (p := ⟨w.heap.size, 0, none⟩) (show w.heap.size < _ by omega)).trans fp0); (replace fp1 := (hb4.frozen (p := ⟨w.heap.size, 1, none⟩) (show w.heap.size < _ by omega)).trans fp1); (replace fq0 := (hb4.frozen (p := ⟨w.heap.size + 1, 0, none⟩) (show w.heap.size + 1 < _ by omega)).trans fq0); (replace fq1 := (hb4.frozen (p := ⟨w.heap.size + 1, 1, none⟩) (show w.heap.size + 1 < _ by omega)).trans fq1); replace hb2 := hb2.trans (hb4.mono (by omega)); replace hs1 := Nat.le_trans hs1 hb4.size)))
   all_goals
     go_wp2_with fail
     go_meet
     refine ⟨u1, x', u2, y', hu1, hx', hu2, hy', ?_, ?_, ?_, ?_, ?_, ?_⟩
     · go_simp
     · go_simp
     · go_simp
     · go_simp
     · repeat (first | exact hb2 | refine Below.setCell ?_ (by first | omega | (simp; done) | (simp; omega)) _)
     · go_simp
  case rest =>
    obtain ⟨u1, x', u2, y', hu1, hx', hu2, hy', p0, p1, q0, q1, hb, hs⟩ := hcut
    have hsz1 : u1.size ≤ 40 := by rw [hu1.out]; exact cutT_size _
    have hsz2 : u2.size ≤ 40 := by rw [hu2.out]; exact cutT_size _
    have R1 := Lib.hid (show RO wc w.heap.size A1 x' by rw [hx'.out]; exact (H1.out.below hb).take 20)
    have R2 := Lib.hid (show RO wc w.heap.size A2 y' by rw [hy'.out]; exact (H2.out.below hb).take 20)
    have z1 : x'.length ≤ c1 := by rw [hx'.out, List.length_take]; omega
    have z2 : y'.length ≤ c2 := by rw [hy'.out, List.length_take]; omega
    obtain ⟨b, hbb⟩ : ∃ b : Bool, b = true ↔ u1 = u2 ∧ x' = y' := by
      by_cases h : u1 = u2 ∧ x' = y'
      · exact ⟨true, by simp [h]⟩
      · exact ⟨false, by simp only [Bool.false_eq_true, false_iff]; exact h⟩
    obtain ⟨l1, hl1⟩ : ∃ l1, encB u1 x' = l1 := ⟨_, rfl⟩
    obtain ⟨l2, hl2⟩ : ∃ l2, encB u2 y' = l2 := ⟨_, rfl⟩
    have hkey : l1 ≠ [] → l2 ≠ [] → ((str l1).toList == (str l2).toList) = b := fun e1 e2 => by
      have g1 : fitsB (titB u1) x' = true := by
        cases h : fitsB (titB u1) x' with
        | true => rfl
        | false => unfold encB at hl1; rw [h] at hl1; exact absurd hl1.symm e1
      have g2 : fitsB (titB u2) y' = true := by
        cases h : fitsB (titB u2) y' with
        | true => rfl
        | false => unfold encB at hl2; rw [h] at hl2; exact absurd hl2.symm e2
      have f1 := (fitsB_iff _ _).1 g1
      have f2 := (fitsB_iff _ _).1 g2
      unfold encB at hl1 hl2
      rw [if_pos g1] at hl1
      rw [if_pos g2] at hl2
      rw [str_toList, str_toList, Bool.eq_iff_iff, hbb, beq_iff_eq]
      constructor
      · intro e
        rw [← hl1, ← hl2] at e
        have s1 : u1.data.toList.length = u1.size := rfl
        have s2 : u2.data.toList.length = u2.size := rfl
        obtain ⟨a1, a2⟩ := encP_inj _ _ _ _ (by omega) (by omega) (by omega) (by omega) f1.2.2.2 f2.2.2.2 e
        refine ⟨toList_inj.1 ?_, a2⟩
        rw [Lib.toList_data, Lib.toList_data]; exact a1
      · rintro ⟨rfl, rfl⟩
        rw [← hl1, ← hl2]
    have HKey := Lib.hid hkey
    have hEq : ∀ W, Below wc.heap.size wc W → Calls Try.prog 15 #[progV u1 A1 x'.length c1, progV u2 A2 y'.length c2] W fun e w' => e = .returned (.bool b) ∧ Below W.heap.size W w' := fun W hW =>
      ceq_any u1 u2 A1 A2 x' y' c1 c2 w.heap.size W (R1.out.below (hW.mono hb.size)) (R2.out.below (hW.mono hb.size)) (Nat.le_trans hb.size hW.size) z1 z2 m1 m2 b hbb
    have hEp : ∀ W, Below wc.heap.size wc W → Calls Try.prog 14 #[progV u1 A1 x'.length c1, progV u2 A2 y'.length c2] W fun e w' => e = .returned (.bool b) ∧ Below W.heap.size W w' := fun W hW =>
      eqprog_any u1 u2 A1 A2 x' y' c1 c2 w.heap.size W (R1.out.below (hW.mono hb.size)) (R2.out.below (hW.mono hb.size)) (Nat.le_trans hb.size hW.size) z1 z2 m1 m2 b hbb
    have hE1 : ∀ W, Below wc.heap.size wc W → Calls Try.prog 11 #[progV u1 A1 x'.length c1] W fun e w' => ∃ A' c, e = .returned (.slice A' l1.length c) ∧ Hid (OB w' W.heap.size (.slice A' l1.length c) l1) ∧ Below W.heap.size W w' := fun W hW => by
      refine (encode_any u1 A1 x' c1 w.heap.size W (R1.out.below (hW.mono hb.size)) (Nat.le_trans hb.size hW.size) z1 m1 (by omega)).mono ?_
      rintro e w' ⟨v, rfl, ho, hbw⟩
      rw [hl1] at ho
      obtain ⟨A', c, rfl, _, _, _⟩ := ho.form _ rfl
      exact ⟨A', c, rfl, ho, hbw⟩
    have hE2 : ∀ W, Below wc.heap.size wc W → Calls Try.prog 11 #[progV u2 A2 y'.length c2] W fun e w' => ∃ A' c, e = .returned (.slice A' l2.length c) ∧ Hid (OB w' W.heap.size (.slice A' l2.length c) l2) ∧ Below W.heap.size W w' := fun W hW => by
      refine (encode_any u2 A2 y' c2 w.heap.size W (R2.out.below (hW.mono hb.size)) (Nat.le_trans hb.size hW.size) z2 m2 (by omega)).mono ?_
      rintro e w' ⟨v, rfl, ho, hbw⟩
      rw [hl2] at ho
      obtain ⟨A', c, rfl, _, _, _⟩ := ho.form _ rfl
      exact ⟨A', c, rfl, ho, hbw⟩
    unfold progV at hEq hEp hE1 hE2
    have HEq := Lib.hid hEq; have HEp := Lib.hid hEp; have HE1 := Lib.hid hE1; have HE2 := Lib.hid hE2
    have P0 := Lib.hid p0; have P1 := Lib.hid p1; have Q0 := Lib.hid q0; have Q1 := Lib.hid q1
    clear hEq hEp hE1 hE2 hkey hbb hl1 hl2 R1 R2 hu1 hx' hu2 hy' hsz1 hsz2 z1 z2 H1 H2
    go_wp2_with fail
    have hbc : Below wc.heap.size wc wc.drew := (Below.refl _ _).drew
    go_region_held3 (fun w' => w'.cell? ⟨w.heap.size, 0, none⟩ = some (.string u1) ∧ w'.cell? ⟨w.heap.size, 1, none⟩ = some (.slice A1 x'.length c1) ∧ w'.cell? ⟨w.heap.size + 1, 0, none⟩ = some (.string u2) ∧ w'.cell? ⟨w.heap.size + 1, 1, none⟩ = some (.slice A2 y'.length c2)) (first | exact ⟨by assumption, by assumption, by assumption, by assumption⟩ | go_keep)
      (first
        | (go_at_call 15; refine (HEq.out _ hbc).mono ?_; rintro e w5 ⟨rfl, b5⟩; replace hbc := hbc.trans (b5.mono hbc.size); replace p0 := (hbc.cell (p := ⟨w.heap.size, 0, none⟩) (show w.heap.size < _ by omega)).trans P0.out; replace p1 := (hbc.cell (p := ⟨w.heap.size, 1, none⟩) (show w.heap.size < _ by omega)).trans P1.out; replace q0 := (hbc.cell (p := ⟨w.heap.size + 1, 0, none⟩) (show w.heap.size + 1 < _ by omega)).trans Q0.out; replace q1 := (hbc.cell (p := ⟨w.heap.size + 1, 1, none⟩) (show w.heap.size + 1 < _ by omega)).trans Q1.out)
        | (go_at_call 14; refine (HEp.out _ hbc).mono ?_; rintro e w6 ⟨rfl, b6⟩; replace hbc := hbc.trans (b6.mono hbc.size); replace p0 := (hbc.cell (p := ⟨w.heap.size, 0, none⟩) (show w.heap.size < _ by omega)).trans P0.out; replace p1 := (hbc.cell (p := ⟨w.heap.size, 1, none⟩) (show w.heap.size < _ by omega)).trans P1.out; replace q0 := (hbc.cell (p := ⟨w.heap.size + 1, 0, none⟩) (show w.heap.size + 1 < _ by omega)).trans Q0.out; replace q1 := (hbc.cell (p := ⟨w.heap.size + 1, 1, none⟩) (show w.heap.size + 1 < _ by omega)).trans Q1.out))
    all_goals
      go_wp2_with fail
      replace hbc := hbc.drew
      go_region_held3 (fun w' => w'.cell? ⟨w.heap.size, 0, none⟩ = some (.string u1) ∧ w'.cell? ⟨w.heap.size, 1, none⟩ = some (.slice A1 x'.length c1) ∧ w'.cell? ⟨w.heap.size + 1, 0, none⟩ = some (.string u2) ∧ w'.cell? ⟨w.heap.size + 1, 1, none⟩ = some (.slice A2 y'.length c2)) (first | exact ⟨by assumption, by assumption, by assumption, by assumption⟩ | go_keep)
        (first
          | (go_at_call 11; ((with_reducible refine (HE1.out _ hbc).mono ?_); rintro e w7 ⟨B1, d1, rfl, HO1, b7⟩; replace hbc := hbc.trans (b7.mono hbc.size); replace p0 := (hbc.cell (p := ⟨w.heap.size, 0, none⟩) (show w.heap.size < _ by omega)).trans P0.out; replace p1 := (hbc.cell (p := ⟨w.heap.size, 1, none⟩) (show w.heap.size < _ by omega)).trans P1.out; replace q0 := (hbc.cell (p := ⟨w.heap.size + 1, 0, none⟩) (show w.heap.size + 1 < _ by omega)).trans Q0.out; replace q1 := (hbc.cell (p := ⟨w.heap.size + 1, 1, none⟩) (show w.heap.size + 1 < _ by omega)).trans Q1.out; (try replace HO2 := Lib.hid (HO2.out.below b7 (Nat.le_refl _)))))
          | (go_at_call 11; ((with_reducible refine (HE2.out _ hbc).mono ?_); rintro e w8 ⟨B2, d2, rfl, HO2, b8⟩; replace hbc := hbc.trans (b8.mono hbc.size); replace p0 := (hbc.cell (p := ⟨w.heap.size, 0, none⟩) (show w.heap.size < _ by omega)).trans P0.out; replace p1 := (hbc.cell (p := ⟨w.heap.size, 1, none⟩) (show w.heap.size < _ by omega)).trans P1.out; replace q0 := (hbc.cell (p := ⟨w.heap.size + 1, 0, none⟩) (show w.heap.size + 1 < _ by omega)).trans Q0.out; replace q1 := (hbc.cell (p := ⟨w.heap.size + 1, 1, none⟩) (show w.heap.size + 1 < _ by omega)).trans Q1.out; (try replace HO1 := Lib.hid (HO1.out.below b8 (Nat.le_refl _))))))
    all_goals
      go_wp2_with fail
      have hbf := hb.trans (hbc.mono hb.size)
      by_cases e1 : l1 = []
      · subst e1
        clear HKey HE1 HE2 HEp
        go_quiet (fail)
        go_wp2
        go_ret
        exact ⟨rfl, below_drewN hbf _⟩
      · have n1 : ((l1.length : Int) == 0) = false := by simp; exact e1
        have n1' : (l1.length == 0) = false := by simp; exact e1
        by_cases e2 : l2 = []
        · subst e2
          have E1 := Lib.hid e1
          clear HKey HE1 HE2 HEp e1
          go_quiet (fail)
          go_wp2
          go_ret
          exact ⟨rfl, below_drewN hbf _⟩
        · have n2 : ((l2.length : Int) == 0) = false := by simp; exact e2
          have n2' : (l2.length == 0) = false := by simp; exact e2
          have hk := HKey.out e1 e2
          have r1 := HO1.out.cells
          have r2 := HO2.out.cells
          obtain ⟨b1, o1, rfl, hb1, -⟩ := r1 (List.length_pos_iff.2 e1)
          obtain ⟨b2, o2, rfl, hb2', -⟩ := r2 (List.length_pos_iff.2 e2)
          have hv1 := conv_bytes w8.drew b1 o1 d1 l1 _ r1 l1.length rfl
          have hv2 := conv_bytes w8.drew b2 o2 d2 l2 _ r2 l2.length rfl
          have E1 := Lib.hid e1; have E2 := Lib.hid e2; have RR1 := Lib.hid (show RB w8.drew w8.heap.size (some ⟨b1, o1, none⟩) l1 from r1); have RR2 := Lib.hid (show RB w8.drew w8.heap.size (some ⟨b2, o2, none⟩) l2 from r2); replace hbf := hbf.drew
          clear HKey HE1 HE2 HEp e1 e2 r1 r2
          replace hbc := hbc.drew
          go_region_held3 (fun w' => w'.cell? ⟨w.heap.size, 0, none⟩ = some (.string u1) ∧ w'.cell? ⟨w.heap.size, 1, none⟩ = some (.slice A1 x'.length c1) ∧ w'.cell? ⟨w.heap.size + 1, 0, none⟩ = some (.string u2) ∧ w'.cell? ⟨w.heap.size + 1, 1, none⟩ = some (.slice A2 y'.length c2) ∧ (convert 27 9 (.slice (some ⟨b1, o1, none⟩) l1.length d1)).run Try.prog w' = .ok (.string (str l1)) w' ∧ (convert 27 9 (.slice (some ⟨b2, o2, none⟩) l2.length d2)).run Try.prog w' = .ok (.string (str l2)) w') (first | exact ⟨by assumption, by assumption, by assumption, by assumption, by assumption, by assumption⟩ | go_keep)
            (first
              | (go_at_call 15; refine (HEq.out _ hbc).mono ?_; rintro e w9 ⟨rfl, b9⟩; replace hbc := hbc.trans (b9.mono hbc.size); replace p0 := (hbc.cell (p := ⟨w.heap.size, 0, none⟩) (show w.heap.size < _ by omega)).trans P0.out; replace p1 := (hbc.cell (p := ⟨w.heap.size, 1, none⟩) (show w.heap.size < _ by omega)).trans P1.out; replace q0 := (hbc.cell (p := ⟨w.heap.size + 1, 0, none⟩) (show w.heap.size + 1 < _ by omega)).trans Q0.out; replace q1 := (hbc.cell (p := ⟨w.heap.size + 1, 1, none⟩) (show w.heap.size + 1 < _ by omega)).trans Q1.out; have hv3 := conv_bytes w9 b1 o1 d1 l1 _ (RR1.out.below b9) l1.length rfl; have hv4 := conv_bytes w9 b2 o2 d2 l2 _ (RR2.out.below b9) l2.length rfl; have hbz := hbf.trans (b9.mono hbf.size)))
          all_goals
            go_wp2
            go_ret
            exact ⟨by simp, hbz⟩
end Go.Proofs.Ytjjhdbcekkmjfaa
