/- WALK of the law CheckCells. -/
import Derived.Test.YtjdhgfcilmobdaaEg
import Derived.Test.YtjdhgfcilmobdaaKo
namespace Go.Proofs.Ytjdhgfcilmobdaa
set_option maxRecDepth 100000
open Go.RowKit
set_option linter.unusedVariables false
attribute [local go_sem ↓] Go.wp_at_zero Go.wp_at_succ

def cellsT : ByteArray := ⟨#[99, 101, 108, 108, 115]⟩
def haltO : O4 := ⟨0, 0, 0, 0⟩
theorem halt_snoc (o : O4) (k : Nat) : o :: List.replicate (k + 1) haltO = (o :: List.replicate k haltO) ++ [haltO] := by rw [List.replicate_succ', List.cons_append]
set_option maxHeartbeats 4000000 in
theorem checkcells_law (kind a b c n : Int) (w : World) (n1 : -9223372036854775808 ≤ n) (n2 : n ≤ 9223372036854775807) :
    Calls Try.prog 6 #[.int .i64 kind, .int .i64 a, .int .i64 b, .int .i64 c, .int .i64 n] w fun e w' => e = .returned (.bool true) ∧ Below w.heap.size w w' := by
  obtain ⟨q, hk1⟩ : ∃ q, (kind.tmod 16 + 16) % 16 = q := ⟨_, rfl⟩
  have hm1 : -16 < kind.tmod 16 := Int.lt_tmod_of_pos kind (by omega)
  have hm2 : kind.tmod 16 < 16 := Int.tmod_lt_of_pos kind (by omega)
  by_cases hn : n < 0 ∨ 10 < n
  · by_cases h0 : n < 0
    · clear hn
      go_enter Try.func6, Try.ntmps6
      go_wp2_with fail
      refine (begun7_any _).mono ?_
      rintro e w1 ⟨rfl, hb1⟩
      go_wp2_with fail
      go_ret
      exact ⟨rfl, hb1⟩
    · have h20 : 10 < n := by omega
      clear hn
      go_enter Try.func6, Try.ntmps6
      go_wp2_with fail
      refine (begun7_any _).mono ?_
      rintro e w1 ⟨rfl, hb1⟩
      go_wp2_with fail
      go_ret
      exact ⟨rfl, hb1⟩
  obtain ⟨N, hN⟩ : ∃ N : Nat, n = N := ⟨n.toNat, by omega⟩
  have h10 : N ≤ 10 := by omega
  have g1 : ¬ n < 0 := by omega
  have g2 : ¬ 10 < n := by omega
  clear hn n1 n2
  subst hN
  go_enter Try.func6, Try.ntmps6
  go_wp2_with fail
  refine (begun7_any _).mono ?_
  rintro e w1 ⟨rfl, hb1⟩
  have HP := Lib.hid (pRow (w1.alloc (oObj ⟨q, a, b, c⟩)) cellsT (.slice (some ⟨w1.heap.size, 0, none⟩) 1 1))
  have HO := Lib.hid ((OO.lit w1 ⟨q, a, b, c⟩ w1.heap.size (Nat.le_refl _)).alloc (.cells #[.string cellsT, .slice (some ⟨w1.heap.size, 0, none⟩) 1 1] 24))
  have HB := Lib.hid (((Below.refl w1.heap.size w1).alloc (Nat.le_refl _) (oObj ⟨q, a, b, c⟩)).alloc (by simp) (.cells #[.string cellsT, .slice (some ⟨w1.heap.size, 0, none⟩) 1 1] 24))
  rw [World.size_alloc] at HP
  go_wp2_with fail
  go_loopw [13] (fun i wr => ∃ (k : Nat) (v : Value), i = .int .i64 k ∧ k ≤ N ∧ Hid (wr.rowIs (w1.heap.size + 1) 24 2 (pF cellsT v)) ∧ Hid (OO wr w1.heap.size v (⟨q, a, b, c⟩ :: List.replicate k haltO)) ∧ Hid (v.ownBlock ≠ some (w1.heap.size + 1)) ∧ Below w1.heap.size w1 wr) (fun i _ => N - (intOf i).toNat)
  case atStart => exact ⟨0, _, rfl, by omega, HP, HO, by unfold Hid; simp [Value.ownBlock], HB.out⟩
  case round =>
    obtain ⟨k, v, rfl, hk, hrow, hown, hne, hb⟩ := hrel
    clear HP HB HO
    have hgl := World.rowIs.lt hrow.out
    have p0 : wr.cell? ⟨w1.heap.size + 1, 0, none⟩ = some (.string cellsT) := World.rowIs.cell hrow.out (show 0 < 2 by omega)
    have p1 : wr.cell? ⟨w1.heap.size + 1, 1, none⟩ = some v := World.rowIs.cell hrow.out (show 1 < 2 by omega)
    have pf := World.rowIs.frozen hrow.out 1
    by_cases hlt : k < N
    · have hkn : (k : Int) < (N : Int) := by omega
      have HX := Lib.hid (hown.out.alloc (oObj haltO))
      have hq := oObj_reads wr haltO
      have hkl : ((⟨q, a, b, c⟩ : O4) :: List.replicate k haltO).length + [haltO].length ≤ 1000000 := by simp; omega
      have HK := Lib.hid hkl
      have hbase : w1.heap.size ≤ (wr.alloc (oObj haltO)).heap.size := by simp; omega
      have HQ := Lib.hid hq
      have HBs := Lib.hid hbase
      have hrow2 := World.rowIs.alloc hrow.out (oObj haltO)
      have HRw := Lib.hid hrow2
      have hbw := hb.alloc (by omega) (oObj haltO)
      have HN2 : Hid (((⟨q, a, b, c⟩ : O4) :: List.replicate k haltO ++ [haltO]).length = k + 2) := by unfold Hid; simp
      clear hq hkl hbase hrow2
      go_wp2_with (at_builtin; refine wpList_append_ops rfl (.tmp 41) (.tmp 43) rfl w1.heap.size v (⟨q, a, b, c⟩ :: List.replicate k haltO) [haltO] rfl HX.out (wr.heap.size + 1) (some ⟨wr.heap.size, 0, none⟩) 1 rfl HQ.out HK.out HBs.out ?_; intro v2 w2 o2 g2 x2; obtain ⟨A2, c2, rfl⟩ := o2.form_n (k + 2) HN2.out; have hrw2 : w2.rowIs (w1.heap.size + 1) 24 2 (pF cellsT v) := World.rowIs.of_block HRw.out (g2.block _ (World.rowIs.lt HRw.out) (fun e => hne.out e.symm)); have t1 := World.rowIs.cell hrw2 (show 1 < 2 by omega); have t2 := World.rowIs.frozen hrw2 1; have HRw2 := Lib.hid hrw2; clear hrw2; have HO2 := Lib.hid o2; clear o2; have hb3 := hbw.grown g2 (by simp; omega) (fun j hj => (World.ownsRow.lt HX.out _ hj).1); have HX2 := Lib.hid x2; clear g2 x2)
      have HNE : Hid ((Value.slice A2 (k + 2) c2).ownBlock ≠ some (w1.heap.size + 1)) := fun e => by
        rcases HX2.out with h | h
        · rw [h] at e; exact hne.out e
        · rw [h] at e
          have := Option.some.inj e
          simp at this
          omega
      go_roundw
      case rel =>
        refine ⟨k + 1, .slice A2 (k + 2) c2, by go_num, by omega, ?_, ?_, HNE, hb3.setCell (by simp) _⟩
        · refine (World.rowIs.set HRw2.out 1 _).congr (fun i hi => ?_)
          obtain rfl | rfl : i = 0 ∨ i = 1 := by omega
          all_goals rfl
        · have := HO2.out
          unfold Hid
          rw [halt_snoc]
          exact ownsRow_setCell_other this HNE.out _
      case measure => simp [intOf]; omega
    · obtain rfl : k = N := by omega
      obtain ⟨A, cap, rfl, hlc, hcm, hRW⟩ := hown.out.form
      have hl : ((⟨q, a, b, c⟩ : O4) :: List.replicate k haltO).length = k + 1 := by simp
      obtain ⟨os, hos⟩ : ∃ os, os = (⟨q, a, b, c⟩ : O4) :: List.replicate k haltO := ⟨_, rfl⟩
      rw [← hos] at hl hlc hRW p1
      obtain ⟨z, hz⟩ : ∃ z, faultN (titB cellsT) os = z := ⟨_, rfl⟩
      have hE : ∀ W', Below wr.heap.size wr W' → Calls Try.prog 10 #[progV cellsT A os.length cap] W' fun e w' => e = .returned (.int .i64 z) ∧ Below W'.heap.size W' w' := fun W' hW' => by
        have := reffault_any cellsT A os cap wr.heap.size W' (hRW.below hW') hW'.size (by omega) hcm (by decide)
        rw [hz] at this
        exact this
      have hF : ∀ W', Below wr.heap.size wr W' → Calls Try.prog 11 #[progV cellsT A os.length cap] W' fun e w' => e = .returned (.int .i64 z) ∧ Below W'.heap.size W' w' := fun W' hW' => by
        have := fault_any cellsT A os cap wr.heap.size W' (hRW.below hW') hW'.size (by omega) hcm (by decide)
        rw [hz] at this
        exact this
      have hM : ∀ W', Below wr.heap.size wr W' → Calls Try.prog 12 #[progV cellsT A os.length cap] W' fun e w' => e = .returned (.bool (z == -1)) ∧ Below W'.heap.size W' w' := fun W' hW' => by
        have := may_any cellsT A os cap wr.heap.size W' (hRW.below hW') hW'.size (by omega) hcm (by decide)
        rw [hz] at this
        exact this
      unfold progV at hE hF hM
      rw [hl] at hE hF hM p1
      have HE := Lib.hid hE; have HF := Lib.hid hF; have HM := Lib.hid hM; have U0 := Lib.hid p0; have U1 := Lib.hid p1
      clear hE hF hM hz hos hl hlc hRW hrow hown hne pf hlt hk
      go_wp2_with fail
      (with_reducible refine (HE.out _ (Below.refl _ _)).mono ?_)
      rintro e w4 ⟨rfl, hb5⟩
      clear p0 p1
      have p0 := (hb5.cell (p := ⟨w1.heap.size + 1, 0, none⟩) hgl).trans U0.out
      have p1 := (hb5.cell (p := ⟨w1.heap.size + 1, 1, none⟩) hgl).trans U1.out
      go_wp2_with fail
      (with_reducible refine (HF.out w4 hb5).mono ?_)
      rintro e w5 ⟨rfl, hb6'⟩
      have hb6 := hb5.trans (hb6'.mono hb5.size)
      have q0 := (hb6.cell (p := ⟨w1.heap.size + 1, 0, none⟩) hgl).trans U0.out
      have q1 := (hb6.cell (p := ⟨w1.heap.size + 1, 1, none⟩) hgl).trans U1.out
      have z1 : (z == z) = true := by simp
      clear hb6' p0 p1
      go_wp2_with fail
      (with_reducible refine (HM.out w5 hb6).mono ?_)
      rintro e w6 ⟨rfl, hb7⟩
      have hfin : Below w.heap.size w w6 := hb1.trans ((hb.trans ((hb6.trans (hb7.mono hb6.size)).mono hb.size)).mono hb1.size)
      go_wp2
      go_ret
      exact ⟨by simp, hfin⟩
end Go.Proofs.Ytjdhgfcilmobdaa
