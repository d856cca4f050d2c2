/- WALK of the law InputFull. -/
import Derived.Test.YtmolmckijcjhgaaIg
import Derived.Deep.OwnRows
namespace Go.Proofs.Ytmolmckijcjhgaa
set_option maxRecDepth 100000
open Go.RowKit
set_option linter.unusedVariables false
set_option linter.unusedSimpArgs false

def zB (n : Nat) : List UInt8 := List.replicate n 0
theorem zB_len (n : Nat) : (zB n).length = n := by unfold zB; simp
/-- what make lays for k bytes -/
def madeB (k : Nat) : Obj := .cells (madeCells #[.int .u8 0] k) 5
theorem make_b (k : Nat) (hk : k ≤ 1000) (W : World) : (Instr.makeSlice 28 (.int .i64 (k : Int)) (.int .i64 (k : Int))).run Try.prog W = .ok (.slice (some ⟨W.heap.size, 0, none⟩) k k) (W.alloc (madeB k)) :=
  run_make_row' 28 5 (.int .u8 0) 1 Try.underlying28 byte_info rfl .i64 .i64 k (by omega) (by omega) W
theorem rb_zeros (W : World) (k B : Nat) (hB : W.heap.size < B) : RB (W.alloc (madeB k)) B (some ⟨W.heap.size, 0, none⟩) (zB k) := fun _ =>
  ⟨W.heap.size, 0, rfl, hB, fun j hj => by
    rw [zB_len] at hj
    rw [Nat.zero_add]
    refine (World.rowIs.cell (w := W.alloc (madeB k)) (World.rowIs_made W (.int .u8 0) k 5) hj).trans ?_
    simp [zB, vb]⟩
theorem put_z_ok (w : World) (b a k : Nat) (h : LM w b a (zB a)) (hak : a + k ≤ 1000) :
    Calls Try.prog 10 #[pB b, .int .i64 a, .slice (some ⟨w.heap.size, 0, none⟩) k k] (w.alloc (madeB k)) fun e w' => e = .returned (.tuple #[.int .i64 k, .int .i64 0]) ∧ LM w' b (a + k : Nat) (zB (a + k)) ∧ (w.alloc (madeB k)).grownBy w' (some b) :=
  (put_on (w.alloc (madeB k)) b (zB a) (zB k) (some ⟨w.heap.size, 0, none⟩) k (w.heap.size + 1) a 0 a k k (zB_len a) (zB_len k) (h.alloc _) (rb_zeros w k _ (by omega)) (Nat.le_refl _) (by unfold maxLen; omega) (Nat.le_refl _) (by omega) (by omega) hak).mono fun e w' ⟨he, h1, h2⟩ =>
    ⟨he, by rw [List.drop_zero, zB, zB, List.replicate_append_replicate] at h1; exact h1, h2⟩
theorem put_z_full (w : World) (b a k q : Nat) (h : LM w b a (zB a)) (ha : a ≤ 1000) (hak : 1000 < a + k) (hk : k ≤ 1000) (hq : 1000 - a = q) :
    Calls Try.prog 10 #[pB b, .int .i64 a, .slice (some ⟨w.heap.size, 0, none⟩) k k] (w.alloc (madeB k)) fun e w' => e = .returned (.tuple #[.int .i64 q, .int .i64 4]) ∧ LM w' b 1000 (zB 1000) ∧ (w.alloc (madeB k)).grownBy w' (some b) :=
  (put_in (w.alloc (madeB k)) b (zB a) (zB k) (some ⟨w.heap.size, 0, none⟩) k (w.heap.size + 1) a 0 a k (zB_len a) (zB_len k) (h.alloc _) ha (rb_zeros w k _ (by omega)) (Nat.le_refl _) (by unfold maxLen; omega) (Nat.le_refl _) (by omega) k (by omega) q (by omega)).mono fun e w' ⟨he, h1, h2⟩ =>
    ⟨by rw [he, if_pos (by omega)], by
      rw [List.drop_zero, zB, zB, List.take_replicate, List.replicate_append_replicate, show a + min q k = 1000 by omega, show a + q = 1000 by omega] at h1
      exact h1, h2⟩
set_option maxHeartbeats 4000000 in
theorem full_law (n per : Int) (w : World) (n0 : -9223372036854775808 ≤ n) (n1 : n ≤ 9223372036854775807) (p0 : -9223372036854775808 ≤ per) (p1 : per ≤ 9223372036854775807) :
    Calls Try.prog 3 #[.int .i64 n, .int .i64 per] w fun e w' => e = .returned (.bool true) ∧ Below w.heap.size w w' := by
  have HG := Lib.hid (begun13_any w)
  have N0 := Lib.hid n0; have N1 := Lib.hid n1; have P0 := Lib.hid p0; have P1 := Lib.hid p1
  clear n0 n1 p0 p1
  by_cases g1 : n < 980
  · go_enter Try.func3, Try.ntmps3
    go_wp2_with (go_at_call 8; with_reducible refine (HG.out).mono ?_; rintro e w3 ⟨rfl, hb⟩)
    go_ret
    exact ⟨rfl, hb⟩
  by_cases g2 : 1020 < n
  · go_enter Try.func3, Try.ntmps3
    go_wp2_with (go_at_call 8; with_reducible refine (HG.out).mono ?_; rintro e w3 ⟨rfl, hb⟩)
    go_ret
    exact ⟨rfl, hb⟩
  by_cases g3 : per < 1
  · go_enter Try.func3, Try.ntmps3
    go_wp2_with (go_at_call 8; with_reducible refine (HG.out).mono ?_; rintro e w3 ⟨rfl, hb⟩)
    go_ret
    exact ⟨rfl, hb⟩
  by_cases g4 : 100 < per
  · go_enter Try.func3, Try.ntmps3
    go_wp2_with (go_at_call 8; with_reducible refine (HG.out).mono ?_; rintro e w3 ⟨rfl, hb⟩)
    go_ret
    exact ⟨rfl, hb⟩
  obtain ⟨N, rfl⟩ : ∃ N : Nat, n = N := ⟨n.toNat, by omega⟩
  obtain ⟨R, rfl⟩ : ∃ R : Nat, per = R := ⟨per.toNat, by omega⟩
  have hN1 : 980 ≤ N := by omega
  have hN2 : N ≤ 1020 := by omega
  have hR1 : 1 ≤ R := by omega
  have hR2 : R ≤ 100 := by omega
  clear N0 N1 P0 P1
  go_enter Try.func3, Try.ntmps3
  go_wp2_with (go_at_call 8; with_reducible refine (HG.out).mono ?_; rintro e w3 ⟨rfl, hb⟩)
  refine (new_0 _).mono ?_
  rintro e w4 ⟨rfl, hm, hb4⟩
  have hs3 := hb.size
  have HB := Lib.hid (hb.trans (hb4.mono hs3))
  have HM := Lib.hid hm
  have HS := Lib.hid hs3
  clear hb hb4 hs3 HG g1 g2 g3 g4 hm
  go_wp2_with fail
  go_loopw [7] (fun i wr => ∃ a : Nat, i = .int .i64 a ∧ a ≤ N ∧ a ≤ 1000 ∧ Hid (LM wr w3.heap.size a (zB a)) ∧ Hid (Below w.heap.size w wr)) (fun i _ => N - (intOf i).toNat)
  case atStart => exact ⟨0, rfl, by omega, by omega, HM, HB⟩
  case round =>
    obtain ⟨a, rfl, ha, ha2, HL, HBW⟩ := hrel
    clear HM HB
    by_cases hlt : a < N
    · obtain ⟨k, hk⟩ : ∃ k, min R (N - a) = k := ⟨_, rfl⟩
      have e1 : min (R : Int) ((N : Int) - (a : Int)) = (k : Int) := by omega
      have hk1 : 1 ≤ k := by omega
      have hk2 : k ≤ 100 := by omega
      have hkN : a + k ≤ N := by omega
      have hmk := make_b k (by omega) wr
      have hbA := below_own (b := w3.heap.size) HBW.out (World.grownBy_alloc wr (madeB k) _) HS.out
      by_cases hq : a + k ≤ 1000
      · have HP := Lib.hid (put_z_ok wr w3.heap.size a k HL.out hq)
        have e2 : min (k : Int) (1000 - (a : Int)) = (k : Int) := by omega
        have HBA := Lib.hid hbA
        clear hk hbA HL HBW
        go_wp2_with (go_at_call 10; with_reducible refine (HP.out).mono ?_; rintro e w6 ⟨rfl, hm, hg⟩; have HM := Lib.hid hm; have HB := Lib.hid (below_own HBA.out hg HS.out); clear hm hg)
        go_roundw
        case rel => exact ⟨a + k, by go_num, by omega, by omega, HM, HB⟩
        case measure => simp [intOf]; omega
      · obtain ⟨q, hq2⟩ : ∃ q, 1000 - a = q := ⟨_, rfl⟩
        have HP := Lib.hid (put_z_full wr w3.heap.size a k q HL.out ha2 (by omega) (by omega) hq2)
        have e2 : min (k : Int) (1000 - (a : Int)) = (q : Int) := by omega
        have hqk : q < k := by omega
        have HBA := Lib.hid hbA
        have hN3 : 1000 < N := by omega
        have e3 : min (N : Int) 1000 = 1000 := by omega
        have e4 : (1000 : Int) ≤ (N : Int) := by omega
        have e5 : decide ((1000 : Int) ≤ (N : Int)) = true := decide_eq_true e4
        clear hk hbA HL HBW
        go_wp2_with fail
        (with_reducible refine HP.out.mono ?_)
        rintro e w6 ⟨rfl, hm, hg⟩
        have HLN := Lib.hid (len_any w6 w3.heap.size 1000 (zB 1000) hm)
        have HAD : Hid (Calls Try.prog 12 #[pB w3.heap.size, .int .u8 1] w6 fun e w' => e = .returned (.int .i64 4) ∧ LM w' w3.heap.size 1000 (zB 1000) ∧ w6.grownBy w' (some w3.heap.size)) := add_full w6 w3.heap.size 1000 (zB 1000) hm (zB_len 1000) rfl 1
        have HB := Lib.hid (below_own HBA.out hg HS.out)
        clear hm hg HP
        go_wp2_with (first
          | (go_at_call 11; with_reducible refine (HLN.out).mono ?_; rintro e w7 ⟨rfl, rfl⟩)
          | (go_at_call 12; with_reducible refine (HAD.out).mono ?_; rintro e w7 ⟨rfl, -, hg⟩; have HB7 := Lib.hid (below_own HB.out hg HS.out); clear hg))
        go_ret
        exact ⟨rfl, HB7.out⟩
    · obtain rfl : N = a := by omega
      by_cases h1 : N < 1000
      · have HLN := Lib.hid (len_any wr w3.heap.size N (zB N) HL.out)
        have HAD : Hid (Calls Try.prog 12 #[pB w3.heap.size, .int .u8 1] wr fun e w' => e = .returned (.int .i64 0) ∧ LM w' w3.heap.size (N + 1 : Nat) (zB N ++ [1]) ∧ wr.grownBy w' (some w3.heap.size)) := add_ok wr w3.heap.size N (zB N) HL.out (zB_len N) h1 1
        have e3 : min (N : Int) 1000 = (N : Int) := by omega
        have e5 : decide ((1000 : Int) ≤ (N : Int)) = false := decide_eq_false (by omega)
        have h1' : (N : Int) < 1000 := by omega
        clear HL h1 ha ha2
        go_wp2_with (first
          | (go_at_call 11; with_reducible refine (HLN.out).mono ?_; rintro e w7 ⟨rfl, rfl⟩)
          | (go_at_call 12; with_reducible refine (HAD.out).mono ?_; rintro e w7 ⟨rfl, -, hg⟩; have HB7 := Lib.hid (below_own HBW.out hg HS.out); clear hg))
        go_ret
        exact ⟨rfl, HB7.out⟩
      · obtain rfl : N = 1000 := by omega
        have HLN := Lib.hid (len_any wr w3.heap.size (1000 : Nat) (zB 1000) HL.out)
        have HAD : Hid (Calls Try.prog 12 #[pB w3.heap.size, .int .u8 1] wr fun e w' => e = .returned (.int .i64 4) ∧ LM w' w3.heap.size (1000 : Nat) (zB 1000) ∧ wr.grownBy w' (some w3.heap.size)) := add_full wr w3.heap.size 1000 (zB 1000) HL.out (zB_len 1000) rfl 1
        clear HL h1 ha ha2 hlt
        go_wp2_with (first
          | (go_at_call 11; with_reducible refine (HLN.out).mono ?_; rintro e w7 ⟨rfl, rfl⟩)
          | (go_at_call 12; with_reducible refine (HAD.out).mono ?_; rintro e w7 ⟨rfl, -, hg⟩; have HB7 := Lib.hid (below_own HBW.out hg HS.out); clear hg))
        go_ret
        exact ⟨rfl, HB7.out⟩
end Go.Proofs.Ytmolmckijcjhgaa
