/- WALK OF THE LAW AsmTwins. -/
import Derived.Test.YthidkkjhpdcenaaDoorUa
import Derived.Test.YthidkkjhpdcenaaDoorOk
import Derived.Test.YthidkkjhpdcenaaDoorOm
import Derived.Test.YthidkkjhpdcenaaDoorPb
namespace Go.Proofs.YthidkkjhpdcenaaDoor
set_option maxRecDepth 100000
open Go.RowKit
set_option linter.unusedVariables false
attribute [local go_sem ↓] Go.wp_at_zero Go.wp_at_succ

theorem str_emp (l : List UInt8) : str l = ⟨#[]⟩ ↔ l = [] := by
  constructor
  · intro h
    have := congrArg lst h
    rw [lst_str] at this
    rw [this]; rfl
  · rintro rfl; rfl
theorem str_isEmpty {z : ByteArray} (h : z ≠ ⟨#[]⟩) : z.toList.isEmpty = false := by
  cases e : z.toList.isEmpty with
  | false => rfl
  | true =>
    exfalso; apply h
    have := List.isEmpty_iff.1 e
    exact toList_inj.1 (by rw [this, Lib.toList_data])
theorem lcut_named (t : ByteArray) (A : Option Addr) (os : List O4) (cap k : Nat) (n : Int) (hn : Hid (n = k)) (w : World) (n0 : 0 ≤ n) (n1 : n ≤ 1000) (hc : os.length ≤ cap) (hm : cap ≤ maxLen) :
    Calls Tryd.prog 14 #[.agg #[.string t, .slice A os.length cap], .int .i64 n] w fun e w' => ∃ u os', Hid (u = cutT t) ∧ Hid (os' = os.take k) ∧ e = .returned (.agg #[.string u, .slice A os'.length cap]) ∧ Below w.heap.size w w' :=
  (lcut_any t A os cap k n hn w n0 n1 hc hm).mono fun e w' ⟨he, hw⟩ => ⟨_, _, rfl, rfl, he, hw⟩
set_option maxHeartbeats 4000000 in
theorem twins_law (t1 t2 : ByteArray) (A1 A2 : Option Addr) (x y : List O4) (c1 c2 : Nat) (w : World) (hT : Tabs w) (h1 : RO w w.heap.size A1 x) (h2 : RO w w.heap.size A2 y) (k1 : x.length ≤ c1) (k2 : y.length ≤ c2) (m1 : c1 ≤ maxLen) (m2 : c2 ≤ maxLen) :
    Calls Tryd.prog 7 #[progV t1 A1 x.length c1, progV t2 A2 y.length c2] w fun e w' => e = .returned (.bool true) ∧ Below w.heap.size w w' := by
  have HTT := Lib.hid hT; clear hT
  have H1 := Lib.hid h1; have H2 := Lib.hid h2; clear h1 h2
  unfold progV
  have b0 : Below w.heap.size w ((w.alloc (.cells #[.string t1, .slice A1 x.length c1] 26)).alloc (.cells #[.string t2, .slice A2 y.length c2] 26)) := ((Below.refl _ _).alloc (Nat.le_refl _) _).alloc (by simp) _
  have HT0 := Lib.hid (HTT.out.next b0)
  go_enter Tryd.func7, Tryd.ntmps7
  go_wp2_with fail
  refine (begun6_any _ HT0.out).mono ?_
  rintro e w1 ⟨rfl, hb1⟩
  have hs1 := hb1.size
  simp only [World.size_alloc] at hs1
  have p0 := hb1.cell (p := ⟨w.heap.size, 0, none⟩) (by simp; omega)
  have p1 := hb1.cell (p := ⟨w.heap.size, 1, none⟩) (by simp; omega)
  have q0 := hb1.cell (p := ⟨w.heap.size + 1, 0, none⟩) (by simp)
  have q1 := hb1.cell (p := ⟨w.heap.size + 1, 1, none⟩) (by simp)
  have fp0 := hb1.frozen (p := ⟨w.heap.size, 0, none⟩) (by simp; omega)
  have fp1 := hb1.frozen (p := ⟨w.heap.size, 1, none⟩) (by simp; omega)
  have fq0 := hb1.frozen (p := ⟨w.heap.size + 1, 0, none⟩) (by simp)
  have fq1 := hb1.frozen (p := ⟨w.heap.size + 1, 1, none⟩) (by simp)
  simp at p0 p1 q0 q1 fp0 fp1 fq0 fq1
  have hb2 := b0.trans (hb1.mono (by simp; omega))
  clear hb1 b0
  have h20 : Hid ((20 : Int) = ((20 : Nat) : Int)) := by unfold Hid; omega
  have C1 := fun W => lcut_named t1 A1 x c1 20 20 h20 W (by omega) (by omega) k1 m1
  have C2 := fun W => lcut_named t2 A2 y c2 20 20 h20 W (by omega) (by omega) k2 m2
  have HC1 := Lib.hid C1; have HC2 := Lib.hid C2; clear C1 C2
  go_wp2_with fail
  have hs2 : w.heap.size + 1 + 1 ≤ w1.drew.heap.size := hs1
  clear hs1
  have hs1 := hs2
  clear hs2
  replace hb2 := hb2.drew
  go_upto_region 4 with fail
  go_cut [] (fun wc => ∃ u1 x' u2 y', Hid (u1 = cutT t1) ∧ Hid (x' = x.take 20) ∧ Hid (u2 = cutT t2) ∧ Hid (y' = y.take 20) ∧ wc.cell? ⟨w.heap.size, 0, none⟩ = some (.string u1) ∧ wc.cell? ⟨w.heap.size, 1, none⟩ = some (.slice A1 x'.length c1) ∧ wc.cell? ⟨w.heap.size + 1, 0, none⟩ = some (.string u2) ∧ wc.cell? ⟨w.heap.size + 1, 1, none⟩ = some (.slice A2 y'.length c2) ∧ Below w.heap.size w wc ∧ w.heap.size + 2 ≤ wc.heap.size)
  case first =>
   go_region_with (first
    | (go_at_call 14; ((with_reducible refine (HC1.out _).mono ?_); rintro e w2 ⟨u1, x', hu1, hx', rfl, hb3⟩; (replace p0 := (hb3.cell (p := ⟨w.heap.size, 0, none⟩) (show w.heap.size < _ by omega)).trans p0); (replace p1 := (hb3.cell (p := ⟨w.heap.size, 1, none⟩) (show w.heap.size < _ by omega)).trans p1); (replace q0 := (hb3.cell (p := ⟨w.heap.size + 1, 0, none⟩) (show w.heap.size + 1 < _ by omega)).trans q0); (replace q1 := (hb3.cell (p := ⟨w.heap.size + 1, 1, none⟩) (show w.heap.size + 1 < _ by omega)).trans q1); (replace fp0 := (hb3.frozen (p := ⟨w.heap.size, 0, none⟩) (show w.heap.size < _ by omega)).trans fp0); (replace fp1 := (hb3.frozen (p := ⟨w.heap.size, 1, none⟩) (show w.heap.size < _ by omega)).trans fp1); (replace fq0 := (hb3.frozen (p := ⟨w.heap.size + 1, 0, none⟩) (show w.heap.size + 1 < _ by omega)).trans fq0); (replace fq1 := (hb3.frozen (p := ⟨w.heap.size + 1, 1, none⟩) (show w.heap.size + 1 < _ by omega)).trans fq1); replace hb2 := hb2.trans (hb3.mono (by omega)); replace hs1 := Nat.le_trans hs1 hb3.size))
    | (go_at_call 14; ((with_reducible refine (HC2.out _).mono ?_); rintro e w3 ⟨u2, y', hu2, hy', rfl, hb4⟩; (replace p0 := (hb4.cell (p := ⟨w.heap.size, 0, none⟩) (show w.heap.size < _ by omega)).trans p0); (replace p1 := (hb4.cell (p := ⟨w.heap.size, 1, none⟩) (show w.heap.size < _ by omega)).trans p1); (replace q0 := (hb4.cell (p := ⟨w.heap.size + 1, 0, none⟩) (show w.heap.size + 1 < _ by omega)).trans q0); (replace q1 := (hb4.cell (p := ⟨w.heap.size + 1, 1, none⟩) (show w.heap.size + 1 < _ by omega)).trans q1); (replace fp0 := (hb4.frozen (p := ⟨w.heap.size, 0, none⟩) (show w.heap.size < _ by omega)).trans fp0); (replace fp1 := (hb4.frozen (p := ⟨w.heap.size, 1, none⟩) (show w.heap.size < _ by omega)).trans fp1); (replace fq0 := (hb4.frozen (p := ⟨w.heap.size + 1, 0, none⟩) (show w.heap.size + 1 < _ by omega)).trans fq0); (replace fq1 := (hb4.frozen (p := ⟨w.heap.size + 1, 1, none⟩) (show w.heap.size + 1 < _ by omega)).trans fq1); replace hb2 := hb2.trans (hb4.mono (by omega)); replace hs1 := Nat.le_trans hs1 hb4.size)))
   all_goals
     go_wp2_with fail
     go_meet
     refine ⟨u1, x', u2, y', hu1, hx', hu2, hy', ?_, ?_, ?_, ?_, ?_, ?_⟩
     · go_simp
     · go_simp
     · go_simp
     · go_simp
     · repeat (first | exact hb2 | refine Below.setCell ?_ (by first | omega | (simp; done) | (simp; omega)) _)
     · go_simp
  case rest =>
    obtain ⟨u1, x', u2, y', hu1, hx', hu2, hy', p0, p1, q0, q1, hb, hs⟩ := hcut
    have hsz1 : u1.size ≤ 40 := by rw [hu1.out]; exact cutT_size _
    have hsz2 : u2.size ≤ 40 := by rw [hu2.out]; exact cutT_size _
    have R1 := Lib.hid (show RO wc w.heap.size A1 x' by rw [hx'.out]; exact (H1.out.below hb).take 20)
    have R2 := Lib.hid (show RO wc w.heap.size A2 y' by rw [hy'.out]; exact (H2.out.below hb).take 20)
    have z1' : x'.length ≤ c1 := by rw [hx'.out, List.length_take]; omega
    have z2' : y'.length ≤ c2 := by rw [hy'.out, List.length_take]; omega
    obtain ⟨b, hbb⟩ : ∃ b : Bool, b = true ↔ u1 = u2 ∧ x' = y' := by
      by_cases h : u1 = u2 ∧ x' = y'
      · exact ⟨true, by simp [h]⟩
      · exact ⟨false, by simp only [Bool.false_eq_true, false_iff]; exact h⟩
    obtain ⟨z1, hz1⟩ : ∃ z1, str (printL u1 x') = z1 := ⟨_, rfl⟩
    obtain ⟨z2, hz2⟩ : ∃ z2, str (printL u2 y') = z2 := ⟨_, rfl⟩
    have hkey : z1 ≠ ⟨#[]⟩ → z2 ≠ ⟨#[]⟩ → (z1.toList == z2.toList) = b := fun e1 e2 => by
      rw [← hz1] at e1 ⊢
      rw [← hz2] at e2 ⊢
      rw [Bool.eq_iff_iff, hbb, ← printL_inj (fun h => e1 ((str_emp _).2 h)) (fun h => e2 ((str_emp _).2 h)), str_toList, str_toList, beq_iff_eq]
    have HKey := Lib.hid hkey
    have hTc := HTT.out.next hb
    have hEp : ∀ W, Below wc.heap.size wc W → Calls Tryd.prog 13 #[progV u1 A1 x'.length c1, progV u2 A2 y'.length c2] W fun e w' => e = .returned (.bool b) ∧ Below W.heap.size W w' := fun W hW =>
      eqprog_any u1 u2 A1 A2 x' y' c1 c2 w.heap.size W (R1.out.below (hW.mono hb.size)) (R2.out.below (hW.mono hb.size)) (Nat.le_trans hb.size hW.size) z1' z2' m1 m2 b hbb
    have hE1 : ∀ W, Below wc.heap.size wc W → Calls Tryd.prog 15 #[progV u1 A1 x'.length c1] W fun e w' => e = .returned (.string z1) ∧ Below W.heap.size W w' := fun W hW => by
      rw [← hz1]
      exact print_any u1 A1 x' c1 w.heap.size W (hTc.next hW) (R1.out.below (hW.mono hb.size)) (Nat.le_trans hb.size hW.size) z1' m1 (by omega)
    have hE2 : ∀ W, Below wc.heap.size wc W → Calls Tryd.prog 15 #[progV u2 A2 y'.length c2] W fun e w' => e = .returned (.string z2) ∧ Below W.heap.size W w' := fun W hW => by
      rw [← hz2]
      exact print_any u2 A2 y' c2 w.heap.size W (hTc.next hW) (R2.out.below (hW.mono hb.size)) (Nat.le_trans hb.size hW.size) z2' m2 (by omega)
    unfold progV at hEp hE1 hE2
    have HEp := Lib.hid hEp; have HE1 := Lib.hid hE1; have HE2 := Lib.hid hE2
    have P0 := Lib.hid p0; have P1 := Lib.hid p1; have Q0 := Lib.hid q0; have Q1 := Lib.hid q1
    clear hEp hE1 hE2 hkey hbb hz1 hz2 R1 R2 hu1 hx' hu2 hy' hsz1 hsz2 z1' z2' H1 H2 hTc HT0 HTT HC1 HC2
    have hbc : Below wc.heap.size wc wc.drew := (Below.refl _ _).drew
    go_upto_region 5 with fail
    go_cut [6, 7] (fun s6 s7 wx => s6 = .string z1 ∧ s7 = .string z2 ∧ Below wc.heap.size wc wx)
    case first =>
      go_region_with (first
        | (go_at_call 15; ((with_reducible refine (HE1.out _ hbc).mono ?_); rintro e w5 ⟨rfl, b5⟩); replace hbc := hbc.trans (b5.mono hbc.size); replace q0 := (hbc.cell (p := ⟨w.heap.size + 1, 0, none⟩) (show w.heap.size + 1 < _ by omega)).trans Q0.out; replace q1 := (hbc.cell (p := ⟨w.heap.size + 1, 1, none⟩) (show w.heap.size + 1 < _ by omega)).trans Q1.out)
        | (go_at_call 15; ((with_reducible refine (HE2.out _ hbc).mono ?_); rintro e w6 ⟨rfl, b6⟩); replace hbc := hbc.trans (b6.mono hbc.size); replace p0 := (hbc.cell (p := ⟨w.heap.size, 0, none⟩) (show w.heap.size < _ by omega)).trans P0.out; replace p1 := (hbc.cell (p := ⟨w.heap.size, 1, none⟩) (show w.heap.size < _ by omega)).trans P1.out))
      all_goals
        go_wp2_with fail
        go_meet
        exact ⟨rfl, rfl, hbc⟩
    case rest =>
      obtain ⟨rfl, rfl, hbx⟩ := hcut
      have r0 := (hbx.cell (p := ⟨w.heap.size, 0, none⟩) (show w.heap.size < _ by omega)).trans P0.out
      have r1 := (hbx.cell (p := ⟨w.heap.size, 1, none⟩) (show w.heap.size < _ by omega)).trans P1.out
      have r2 := (hbx.cell (p := ⟨w.heap.size + 1, 0, none⟩) (show w.heap.size + 1 < _ by omega)).trans Q0.out
      have r3 := (hbx.cell (p := ⟨w.heap.size + 1, 1, none⟩) (show w.heap.size + 1 < _ by omega)).trans Q1.out
      clear p0 p1 q0 q1 P0 P1 Q0 Q1 hbc
      have hbf := hb.trans (hbx.mono hb.size)
      by_cases e1 : z1 = ⟨#[]⟩
      · subst e1
        clear HKey HE1 HE2 HEp
        go_wp2
        go_ret
        exact ⟨rfl, hbf⟩
      · have n1 := str_isEmpty e1
        by_cases e2 : z2 = ⟨#[]⟩
        · subst e2
          clear HKey HE1 HE2 HEp
          go_wp2
          go_ret
          exact ⟨rfl, hbf⟩
        · have n2 := str_isEmpty e2
          have hq := HKey.out e1 e2
          clear HKey HE1 HE2 e1 e2
          have HXX := Lib.hid hbx
          go_wp2_with (go_at_call 13; refine (HEp.out _ HXX.out).mono ?_; rintro e w7 ⟨rfl, b7⟩)
          have hbg := hbf.trans (b7.mono hbf.size)
          go_ret
          exact ⟨by simp, hbg⟩
end Go.Proofs.YthidkkjhpdcenaaDoor
