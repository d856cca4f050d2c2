/- THE WALKS of slices.Equal, code's Eq, ref EqProg. -/
import Derived.Test.YtjjhdbcekkmjfaaOf
import Derived.Laws.StructEq
namespace Go.Proofs.Ytjjhdbcekkmjfaa
open Go.RowKit
set_option linter.unusedVariables false

theorem op_struct : Try.prog.underlying 37 = some (.struct (Try.prog.fieldsOf 37)) := by kernel_rfl
theorem op_held : Try.prog.stoodInHeld 37 = false := by kernel_rfl
theorem op_guard : Try.prog.eqGuardType Try.prog.depth 37 = false := by kernel_rfl
theorem op_fields : (Try.prog.fieldsOf 37).toList.map (fun f => (f.name ≠ "_" : Bool) && decide (f.type = 3)) = [true, true, true, true] := by kernel_rfl
theorem neq_ops (x y : O4) (w : World) : (binOp .neq 37 (opV x) (opV y)).run Try.prog w = (if x.k = y.k then if x.a = y.a then if x.b = y.b then if x.c = y.c then .ok (.bool false) w else .ok (.bool true) w else .ok (.bool true) w else .ok (.bool true) w else .ok (.bool true) w) := by
  unfold opV
  rw [run_neq_struct, run_equalIn_agg w 9999 _ _ _ op_struct op_held]
  have hu := Try.underlying3
  simp only [Program.fieldsOf, Try.underlying37]
  simp [Op.eqFields, part, go_sem, hu]
theorem neq_same (x : O4) (w : World) : (binOp .neq 37 (opV x) (opV x)).run Try.prog w = .ok (.bool false) w := by rw [neq_ops]; simp
theorem neq_other (x y : O4) (h : x ≠ y) (w : World) : (binOp .neq 37 (opV x) (opV y)).run Try.prog w = .ok (.bool true) w := by
  rw [neq_ops]
  cases x; cases y
  simp only [ne_eq, O4.mk.injEq, not_and] at h
  split <;> rename_i h1
  · split <;> rename_i h2
    · split <;> rename_i h3
      · split <;> rename_i h4
        · exact absurd h4 (h h1 h2 h3)
        · rfl
      · rfl
    · rfl
  · rfl
theorem take_same {α : Type} {x y : List α} {k : Nat} (hx : k < x.length) (hy : k < y.length) (h : x.take k = y.take k) (he : x[k] = y[k]) : x.take (k + 1) = y.take (k + 1) := by
  rw [List.take_succ_eq_append_getElem hx, List.take_succ_eq_append_getElem hy, h, he]
set_option maxHeartbeats 2000000 in
theorem sleq_any (A1 A2 : Option Addr) (x y : List O4) (c1 c2 B : Nat) (w : World) (h1 : RO w B A1 x) (h2 : RO w B A2 y) (k1 : x.length ≤ c1) (k2 : y.length ≤ c2) (m1 : c1 ≤ maxLen) (m2 : c2 ≤ maxLen) (b : Bool) (hb : b = true ↔ x = y) :
    Calls Try.prog 28 #[.slice A1 x.length c1, .slice A2 y.length c2] w fun e w' => e = .returned (.bool b) ∧ Below w.heap.size w w' := by
  unfold maxLen at m1 m2
  have H1 := Lib.hid h1; have H2 := Lib.hid h2; clear h1 h2
  have HB := Lib.hid hb; clear hb
  by_cases hl : x.length = y.length
  · have hlB : ((x.length : Int) != (y.length : Int)) = false := by simp [hl]
    have hlB2 : (x.length != y.length) = false := by simp [hl]
    have HL := Lib.hid hl; clear hl
    go_enter Try.func28, Try.ntmps28
    go_wp2
    go_loopw [13] (fun i wr => ∃ k n : Nat, i = .int .i64 k ∧ k ≤ x.length ∧ wr = w.drewN n ∧ Hid (x.take k = y.take k)) (fun i _ => x.length - (intOf i).toNat)
    case atStart => exact ⟨0, 0, rfl, by omega, rfl, rfl⟩
    case round =>
      obtain ⟨k, n, rfl, hk, rfl, ht⟩ := hrel
      by_cases hlt : k < x.length
      · have hlt2 : k < y.length := by rw [← HL.out]; exact hlt
        obtain ⟨b1, o1, rfl, _, e1⟩ := H1.out (by omega)
        obtain ⟨b2, o2, rfl, _, e2⟩ := H2.out (by omega)
        obtain ⟨q1, q2, q3, q4⟩ := e1 k hlt
        obtain ⟨r1, r2, r3, r4⟩ := e2 k hlt2
        clear e1 e2
        obtain ⟨p, hp⟩ : ∃ p, x[k] = p := ⟨_, rfl⟩
        obtain ⟨q, hq⟩ : ∃ q, y[k] = q := ⟨_, rfl⟩
        rw [hp] at q1 q2 q3 q4
        rw [hq] at r1 r2 r3 r4
        have HP := Lib.hid hp; have HQ := Lib.hid hq; clear hp hq
        have g0 : (0 : Int) ≤ (k : Int) := by omega
        have g1 : (k : Int) < (x.length : Int) := by omega
        have g2 : (k : Int) < (y.length : Int) := by omega
        have hgd := op_guard
        by_cases he : p = q
        · subst he
          have HT := Lib.hid (take_same hlt hlt2 ht.out (by rw [HP.out, HQ.out]))
          have hn := neq_same p
          unfold opV at hn
          go_wp2
          go_quiet (fail)
          go_wp2
          go_roundw
          case rel => exact ⟨k + 1, _, by go_num, by omega, rfl, HT⟩
          case measure => simp [intOf]; omega
        · have hn := neq_other p q he
          have HF := Lib.hid (show b = false by
            rw [Bool.eq_false_iff]
            intro h
            have hh := HB.out.1 h
            subst hh
            exact he (HP.out.symm.trans HQ.out))
          have HE := Lib.hid he; clear he
          unfold opV at hn
          go_wp2
          go_quiet (fail)
          go_wp2
          go_ret
          exact ⟨by rw [HF.out]; rfl, below_drewN (below_drewN (Below.refl _ _) _) _⟩
      · obtain rfl : k = x.length := by omega
        have HT := Lib.hid (show b = true by
          refine HB.out.2 ?_
          have h := ht.out
          rw [List.take_length, HL.out, List.take_length] at h
          exact h)
        go_wp2
        go_ret
        exact ⟨by rw [HT.out]; rfl, below_drewN (Below.refl _ _) _⟩
  · have hlB : ((x.length : Int) != (y.length : Int)) = true := by simp; omega
    have hlB2 : (x.length != y.length) = true := by simp; omega
    have hlB3 : ((x.length : Int) == (y.length : Int)) = false := by simp; omega
    have hlB4 : (x.length == y.length) = false := by simp; omega
    have HF := Lib.hid (show b = false by
      rw [Bool.eq_false_iff]
      intro h
      exact hl (by rw [HB.out.1 h]))
    have HL := Lib.hid hl; clear hl
    go_enter Try.func28, Try.ntmps28
    go_wp2
    go_ret
    exact ⟨by rw [HF.out]; rfl, Below.refl _ _⟩

theorem toList_inj {t u : ByteArray} : t.toList = u.toList ↔ t = u := by
  constructor
  · intro h
    rw [Lib.toList_data, Lib.toList_data] at h
    obtain ⟨⟨a⟩⟩ := t
    obtain ⟨⟨b⟩⟩ := u
    simp only at h
    rw [h]
  · intro h; rw [h]
set_option maxHeartbeats 1000000 in
theorem ceq_any (t u : ByteArray) (A1 A2 : Option Addr) (x y : List O4) (c1 c2 B : Nat) (w : World) (h1 : RO w B A1 x) (h2 : RO w B A2 y) (hB : B ≤ w.heap.size) (k1 : x.length ≤ c1) (k2 : y.length ≤ c2) (m1 : c1 ≤ maxLen) (m2 : c2 ≤ maxLen) (b : Bool) (hb : b = true ↔ t = u ∧ x = y) :
    Calls Try.prog 15 #[progV t A1 x.length c1, progV u A2 y.length c2] w fun e w' => e = .returned (.bool b) ∧ Below w.heap.size w w' := by
  have b0 : Below w.heap.size w ((w.alloc (.cells #[.string t, .slice A1 x.length c1] 24)).alloc (.cells #[.string u, .slice A2 y.length c2] 24)) := ((Below.refl _ _).alloc (Nat.le_refl _) _).alloc (by simp) _
  have H1 := Lib.hid (h1.below (b0.mono hB)); have H2 := Lib.hid (h2.below (b0.mono hB)); clear h1 h2
  have HB := Lib.hid hb; clear hb
  unfold progV
  by_cases ht : t = u
  · have hB2 : b = true ↔ x = y := by rw [HB.out]; exact ⟨fun h => h.2, fun h => ⟨ht, h⟩⟩
    have HS := Lib.hid (sleq_any A1 A2 x y c1 c2 B _ H1.out H2.out k1 k2 m1 m2 b hB2)
    clear hB2
    subst ht
    go_enter Try.func15, Try.ntmps15
    go_wp2_with (go_at_call 28; refine HS.out.mono ?_; rintro e w1 ⟨rfl, hb1⟩)
    go_ret
    exact ⟨rfl, b0.trans (hb1.mono (by simp; omega))⟩
  · have hq : (t.toList == u.toList) = false := by
      rw [beq_eq_false_iff_ne]
      exact fun h => ht (toList_inj.1 h)
    have HF := Lib.hid (show b = false by
      rw [Bool.eq_false_iff]
      intro h
      exact ht (HB.out.1 h).1)
    have HT := Lib.hid ht; clear ht
    go_enter Try.func15, Try.ntmps15
    go_wp2
    go_ret
    exact ⟨by rw [HF.out]; rfl, b0⟩
end Go.Proofs.Ytjjhdbcekkmjfaa
