/- THE WALK of ref EqProg. -/
import Derived.Test.YthidkkjhpdcenaaDoorOj
import Derived.Deep.RegionHeld3
import Derived.Deep.DrawnRows
namespace Go.Proofs.YthidkkjhpdcenaaDoor
open Go.RowKit
set_option linter.unusedVariables false
attribute [local go_sem ↓] Go.wp_at_zero Go.wp_at_succ

set_option maxHeartbeats 4000000 in
theorem eqprog_any (t u : ByteArray) (A1 A2 : Option Addr) (x y : List O4) (c1 c2 B : Nat) (w : World) (h1 : RO w B A1 x) (h2 : RO w B A2 y) (hB : B ≤ w.heap.size) (k1 : x.length ≤ c1) (k2 : y.length ≤ c2) (m1 : c1 ≤ maxLen) (m2 : c2 ≤ maxLen) (b : Bool) (hb : b = true ↔ t = u ∧ x = y) :
    Calls Tryd.prog 13 #[progV t A1 x.length c1, progV u A2 y.length c2] w fun e w' => e = .returned (.bool b) ∧ Below w.heap.size w w' := by
  have b0 : Below w.heap.size w ((w.alloc (.cells #[.string t, .slice A1 x.length c1] 26)).alloc (.cells #[.string u, .slice A2 y.length c2] 26)) := ((Below.refl _ _).alloc (Nat.le_refl _) _).alloc (by simp) _
  have H1 := Lib.hid (h1.below (b0.mono hB)); have H2 := Lib.hid (h2.below (b0.mono hB)); clear h1 h2
  have HB := Lib.hid hb; clear hb
  unfold maxLen at m1 m2
  unfold progV
  by_cases ht : t = u
  · by_cases hl : x.length = y.length
    · subst ht
      have hlB : ((x.length : Int) != (y.length : Int)) = false := by simp [hl]
      have hlB2 : (x.length != y.length) = false := by simp [hl]
      have HL := Lib.hid hl; clear hl
      go_enter Tryd.func13, Tryd.ntmps13
      go_wp2
      obtain ⟨W0, hW0⟩ : ∃ W0, W0 = ((w.alloc (.cells #[.string t, .slice A1 x.length c1] 26)).alloc (.cells #[.string t, .slice A2 y.length c2] 26)) := ⟨_, rfl⟩
      have d1 : W0.cell? ⟨w.heap.size, 1, none⟩ = some (.slice A1 x.length c1) := by rw [hW0]; simp
      have d2 : W0.cell? ⟨w.heap.size + 1, 1, none⟩ = some (.slice A2 y.length c2) := by rw [hW0]; simp
      have hs0 : w.heap.size + 2 ≤ W0.heap.size := by rw [hW0]; simp
      rw [← hW0] at H1 H2 b0
      have D1 := Lib.hid d1; have D2 := Lib.hid d2; clear d1 d2
      rw [← hW0]
      have HW0 := Lib.hid hW0; clear hW0
      go_loopw [5] (fun i wr => ∃ k : Nat, i = .int .i64 k ∧ k ≤ x.length ∧ Below (w.heap.size + 2) W0 wr ∧ w.heap.size + 2 ≤ wr.heap.size ∧ Hid (x.take k = y.take k)) (fun i _ => x.length - (intOf i).toNat)
      case atStart => exact ⟨0, rfl, by omega, Below.refl _ _, hs0, rfl⟩
      case round =>
        obtain ⟨k, rfl, hk, hb, hsz, ht⟩ := hrel
        have d1 := (hb.cell (p := ⟨w.heap.size, 1, none⟩) (by simp)).trans D1.out
        have d2 := (hb.cell (p := ⟨w.heap.size + 1, 1, none⟩) (by simp)).trans D2.out
        by_cases hlt : k < x.length
        · have hlt2 : k < y.length := by rw [← HL.out]; exact hlt
          obtain ⟨b1, o1, rfl, hb1, e1⟩ := (H1.out.below (hb.mono (by omega))) (by omega)
          obtain ⟨b2, o2, rfl, hb2, e2⟩ := (H2.out.below (hb.mono (by omega))) (by omega)
          obtain ⟨q1, q2, q3, q4⟩ := e1 k hlt
          obtain ⟨r1, r2, r3, r4⟩ := e2 k hlt2
          clear e1 e2
          obtain ⟨p, hp⟩ : ∃ p, x[k] = p := ⟨_, rfl⟩
          obtain ⟨q, hq⟩ : ∃ q, y[k] = q := ⟨_, rfl⟩
          rw [hp] at q1 q2 q3 q4
          rw [hq] at r1 r2 r3 r4
          have HP := Lib.hid hp; have HQ := Lib.hid hq; clear hp hq
          have g0 : (0 : Int) ≤ (k : Int) := by omega
          have g1 : (k : Int) < (x.length : Int) := by omega
          have g2 : (k : Int) < (y.length : Int) := by omega
          go_wp2
          go_region_held3 (fun w' => w'.cell? ⟨w.heap.size, 1, none⟩ = some (.slice (some ⟨b1, o1, none⟩) x.length c1) ∧ w'.cell? ⟨w.heap.size + 1, 1, none⟩ = some (.slice (some ⟨b2, o2, none⟩) y.length c2) ∧ w'.cell? ⟨b1, o1 + k * 4, none⟩ = some (.int .i64 p.k) ∧ w'.cell? ⟨b1, o1 + k * 4 + 1, none⟩ = some (.int .i64 p.a) ∧ w'.cell? ⟨b1, o1 + k * 4 + 2, none⟩ = some (.int .i64 p.b) ∧ w'.cell? ⟨b1, o1 + k * 4 + 3, none⟩ = some (.int .i64 p.c) ∧
            w'.cell? ⟨b2, o2 + k * 4, none⟩ = some (.int .i64 q.k) ∧ w'.cell? ⟨b2, o2 + k * 4 + 1, none⟩ = some (.int .i64 q.a) ∧ w'.cell? ⟨b2, o2 + k * 4 + 2, none⟩ = some (.int .i64 q.b) ∧ w'.cell? ⟨b2, o2 + k * 4 + 3, none⟩ = some (.int .i64 q.c)) (go_keep) (fail)
          all_goals
            obtain ⟨pk, pa, pb, pc⟩ := p
            obtain ⟨qk, qa, qb, qc⟩ := q
            simp only at q1 q2 q3 q4 r1 r2 r3 r4
            have hno : Hid ((⟨pk, pa, pb, pc⟩ : O4) ≠ ⟨qk, qa, qb, qc⟩ → b = false) := fun he => by
              rw [Bool.eq_false_iff]
              intro h
              have hh := (HB.out.1 h).2
              subst hh
              exact he (HP.out.symm.trans HQ.out)
            by_cases f1 : pk = qk
            · by_cases f2 : pa = qa
              · by_cases f3 : pb = qb
                · by_cases f4 : pc = qc
                  · subst f1 f2 f3 f4
                    have HT := Lib.hid (take_same hlt hlt2 ht.out (by rw [HP.out, HQ.out]))
                    go_wp2
                    go_roundw
                    case rel =>
                      refine ⟨k + 1, by go_num, by omega, ?_, by simp; omega, HT⟩
                      repeat (first | exact hb | refine Below.setCell ?_ (by first | omega | (simp; omega)) _ | refine Below.alloc ?_ (by first | omega | (simp; omega)) _ | refine Below.drew ?_)
                    case measure => simp [intOf]; omega
                  · have HF := Lib.hid (hno.out (fun e => f4 (by injection e)))
                    have n4 : (pc != qc) = true := by simpa using f4
                    have HN := Lib.hid f4; clear f4
                    subst f1 f2 f3
                    go_wp2
                    go_ret
                    refine ⟨by rw [HF.out]; rfl, b0.trans (Below.mono (B := w.heap.size + 2) ?_ (by omega))⟩
                    repeat (first | exact hb | refine Below.setCell ?_ (by first | omega | (simp; omega)) _ | refine Below.alloc ?_ (by first | omega | (simp; omega)) _ | refine Below.drew ?_)
                · have HF := Lib.hid (hno.out (fun e => f3 (by injection e)))
                  have n4 : (pb != qb) = true := by simpa using f3
                  have HN := Lib.hid f3; clear f3
                  subst f1 f2
                  go_wp2
                  go_ret
                  refine ⟨by rw [HF.out]; rfl, b0.trans (Below.mono (B := w.heap.size + 2) ?_ (by omega))⟩
                  repeat (first | exact hb | refine Below.setCell ?_ (by first | omega | (simp; omega)) _ | refine Below.alloc ?_ (by first | omega | (simp; omega)) _ | refine Below.drew ?_)
              · have HF := Lib.hid (hno.out (fun e => f2 (by injection e)))
                have n4 : (pa != qa) = true := by simpa using f2
                have HN := Lib.hid f2; clear f2
                subst f1
                go_wp2
                go_ret
                refine ⟨by rw [HF.out]; rfl, b0.trans (Below.mono (B := w.heap.size + 2) ?_ (by omega))⟩
                repeat (first | exact hb | refine Below.setCell ?_ (by first | omega | (simp; omega)) _ | refine Below.alloc ?_ (by first | omega | (simp; omega)) _ | refine Below.drew ?_)
            · have HF := Lib.hid (hno.out (fun e => f1 (by injection e)))
              have n4 : (pk != qk) = true := by simpa using f1
              have HN := Lib.hid f1; clear f1
              go_wp2
              go_ret
              refine ⟨by rw [HF.out]; rfl, b0.trans (Below.mono (B := w.heap.size + 2) ?_ (by omega))⟩
              repeat (first | exact hb | refine Below.setCell ?_ (by first | omega | (simp; omega)) _ | refine Below.alloc ?_ (by first | omega | (simp; omega)) _ | refine Below.drew ?_)
        · obtain rfl : k = x.length := by omega
          have HT := Lib.hid (show b = true by
            refine HB.out.2 ⟨trivial, ?_⟩
            have h := ht.out
            rw [List.take_length, HL.out, List.take_length] at h
            exact h)
          go_wp2
          go_ret
          exact ⟨by rw [HT.out]; rfl, b0.trans (hb.mono (by omega))⟩
    · subst ht
      have hlB : ((x.length : Int) != (y.length : Int)) = true := by simp; omega
      have hlB2 : (x.length != y.length) = true := by simp; omega
      have HF := Lib.hid (show b = false by
        rw [Bool.eq_false_iff]
        intro h
        exact hl (by rw [(HB.out.1 h).2]))
      have HL := Lib.hid hl; clear hl
      go_enter Tryd.func13, Tryd.ntmps13
      go_wp2
      go_ret
      exact ⟨by rw [HF.out]; rfl, b0⟩
  · have hq : (t.toList == u.toList) = false := by
      rw [beq_eq_false_iff_ne]
      exact fun h => ht (toList_inj.1 h)
    have hq2 : (t.toList != u.toList) = true := by
      rw [bne_iff_ne]
      exact fun h => ht (toList_inj.1 h)
    have HF := Lib.hid (show b = false by
      rw [Bool.eq_false_iff]
      intro h
      exact ht (HB.out.1 h).1)
    have HT := Lib.hid ht; clear ht
    go_enter Tryd.func13, Tryd.ntmps13
    go_wp2
    go_ret
    exact ⟨by rw [HF.out]; rfl, b0⟩
end Go.Proofs.YthidkkjhpdcenaaDoor
