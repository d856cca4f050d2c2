/- THE WALK of ref Put. -/
import Derived.Test.YtclgcfofgiejgaaDoorNb
namespace Go.Proofs.YtclgcfofgiejgaaDoor
open Go.RowKit
set_option linter.unusedVariables false

theorem not_u64 (x : Nat) (h : x < 18446744073709551616) : bits .xor .u64 IntKind.u64.max (x : Int) = 18446744073709551615 - (x : Int) := by
  have hx : 18446744073709551615 ^^^ x = 18446744073709551615 - x := by
    apply Nat.eq_of_testBit_eq
    intro i
    have e := congrArg (fun b => b) (Nat.testBit_two_pow_sub_succ (x := x) (n := 64) (by simpa using h) i)
    have e2 : (2 : Nat) ^ 64 - (x + 1) = 18446744073709551615 - x := by omega
    rw [e2] at e
    rw [e, Nat.testBit_xor]
    have e3 : (18446744073709551615 : Nat) = 2 ^ 64 - 1 := by decide
    rw [e3, Nat.testBit_two_pow_sub_one]
    by_cases hi : i < 64
    · simp [hi]
    · have : x.testBit i = false := Nat.testBit_lt_two_pow (Nat.lt_of_lt_of_le h (by
        have := Nat.pow_le_pow_right (n := 2) (by omega) (show 64 ≤ i by omega)
        simpa using this))
      simp [hi, this]
  have hm : IntKind.u64.max = ((18446744073709551615 : Nat) : Int) := by decide
  rw [hm, u64_xor_nat _ _ (by omega) h, hx]
  omega
theorem flip (n : Int) (h1 : -9223372036854775808 ≤ n) (h : n < 0) : bits .xor .u64 IntKind.u64.max (IntKind.u64.wrap (IntKind.u64.wrap n * 2)) = (zig n : Int) := by
  obtain ⟨x, hx⟩ : ∃ x : Nat, (x : Int) = 18446744073709551616 + 2 * n := ⟨(18446744073709551616 + 2 * n).toNat, by omega⟩
  have e : IntKind.u64.wrap (IntKind.u64.wrap n * 2) = (x : Int) := by rw [IntKind.wrap_u64, IntKind.wrap_u64]; omega
  rw [e, not_u64 x (by omega)]
  unfold zig; rw [if_pos h]; omega
set_option maxHeartbeats 1000000 in
theorem refput_any (n : Int) (w : World) (hn : in64 n) :
    Calls Tryd.prog 35 #[.int .i64 n] w fun e w' => ∃ v, e = .returned v ∧ OB w' w.heap.size v (putN n) ∧ Below w.heap.size w w' := by
  have HN := Lib.hid hn
  have HZ := Lib.hid (zig_lt n HN.out)
  obtain ⟨h1, h2⟩ := hn
  by_cases hneg : n < 0
  all_goals
    have HQ : Hid (n < 0 → bits .xor .u64 IntKind.u64.max (IntKind.u64.wrap (IntKind.u64.wrap n * 2)) = (zig n : Int)) := flip n h1
    have HP : Hid (¬ n < 0 → n * 2 = (zig n : Int)) := fun h => by unfold zig; rw [if_neg h]; omega
    go_enter Tryd.func35, Tryd.ntmps35
    go_wp2
    go_loopw [4, 3] (fun v u wr => ∃ (y : Int) (x : Nat) (p : List UInt8), u = .int .u64 y ∧ Hid (y = x) ∧ 0 ≤ y ∧ y ≤ 18446744073709551615 ∧ Hid (p ++ putU x = putU (zig n)) ∧ Hid (OB wr w.heap.size v p) ∧ Below w.heap.size w wr) (fun _ u _ => (intOf u).toNat)
    case atStart =>
      have hz := HZ.out
      first
        | (have e := HQ.out hneg; exact ⟨_, zig n, [], rfl, e, by omega, by omega, rfl, OB.nil _ _, Below.refl _ _⟩)
        | (have e := HP.out hneg; exact ⟨_, zig n, [], rfl, e, by omega, by omega, rfl, OB.nil _ _, Below.refl _ _⟩)
        | (have e := HP.out (by omega); exact ⟨_, zig n, [], rfl, e, by omega, by omega, rfl, OB.nil _ _, Below.refl _ _⟩)
    case round =>
      obtain ⟨y, x, p, rfl, hy, hy0, hy1, hp, ho, hb⟩ := hrel
      have hpl : p.length ≤ 10 := by
        have h1 := putN_len n HN.out
        unfold putN at h1
        rw [← hp.out, List.length_append] at h1
        omega
      clear hneg
      have hsz := hb.size
      have hlen : p.length + 1 ≤ 140737488355328 := by omega
      have h8 : ∀ o : Obj, w.heap.size ≤ (wr.alloc o).heap.size := fun o => by rw [World.size_alloc]; omega
      have H8 := Lib.hid h8; clear h8
      by_cases hlt : y < 128
      · have e := hy.out
        have HE := Lib.hid (putU_small x (by omega))
        have hc := one_reads wr y (UInt8.ofNat x) (by rw [ofNat_nat x (by omega)]; exact e.symm)
        have HC := Lib.hid hc; clear hc
        clear e
        have o2 : OB (wr.alloc (bOne y)) w.heap.size u4 p := ho.out.alloc _
        have b2 : Below w.heap.size w (wr.alloc (bOne y)) := hb.alloc hsz _
        have H2 := Lib.hid o2; clear o2
        have HL := Lib.hid hlen; clear hlen
        go_wp2_with (at_builtin; refine wpList_append_bytes rfl (.tmp 23) (.tmp 26) rfl w.heap.size u4 p [UInt8.ofNat x] rfl H2.out (wr.heap.size + 1) _ 1 rfl HC.out HL.out (H8.out _) ?_; intro v2 w2 o3 g2 e2)
        go_ret
        refine ⟨_, rfl, ?_, b2.grown g2 (by rw [World.size_alloc]; omega) H2.out.ge⟩
        have hq := hp.out
        rw [HE.out] at hq
        unfold putN
        rw [← hq]
        exact o3
      · have e := hy.out
        have HE := Lib.hid (putU_big x (by omega))
        have hc := one_reads wr (y % 128 + 128) (UInt8.ofNat (x % 128 + 128)) (by rw [ofNat_nat _ (by omega)]; omega)
        have HC := Lib.hid hc; clear hc
        have HD := Lib.hid (show y / 128 = ((x / 128 : Nat) : Int) by omega)
        clear e
        have o2 : OB (wr.alloc (bOne (y % 128 + 128))) w.heap.size u4 p := ho.out.alloc _
        have b2 : Below w.heap.size w (wr.alloc (bOne (y % 128 + 128))) := hb.alloc hsz _
        have H2 := Lib.hid o2; clear o2
        have HL := Lib.hid hlen; clear hlen
        go_wp2_with (at_builtin; refine wpList_append_bytes rfl (.tmp 14) (.tmp 19) rfl w.heap.size u4 p [UInt8.ofNat (x % 128 + 128)] rfl H2.out (wr.heap.size + 1) _ 1 rfl HC.out HL.out (H8.out _) ?_; intro v2 w2 o3 g2 e2)
        have b3 : Below w.heap.size w w2 := b2.grown g2 (by rw [World.size_alloc]; omega) H2.out.ge
        clear g2 e2
        have H3 := Lib.hid o3; clear o3
        go_wp2
        go_roundw
        case rel =>
          refine ⟨y / 128, x / 128, p ++ [UInt8.ofNat (x % 128 + 128)], rfl, HD.out, by omega, by omega, ?_, H3.out, b3⟩
          have hq := hp.out
          rw [HE.out] at hq
          unfold Hid
          rw [List.append_assoc]
          exact hq
        case measure => simp [intOf]; omega
end Go.Proofs.YtclgcfofgiejgaaDoor
