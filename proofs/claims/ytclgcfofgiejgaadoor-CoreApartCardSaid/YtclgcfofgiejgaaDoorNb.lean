/- THE WALKS over package num, of writing: unsigned, Put; ref Put. -/
import Derived.Test.YtclgcfofgiejgaaDoorKa
import Derived.Test.YtclgcfofgiejgaaDoorNa
import Derived.Laws.Bits128
import Derived.Outline
namespace Go.Proofs.YtclgcfofgiejgaaDoor
open Go.RowKit
set_option linter.unusedVariables false

theorem ret_int {k : IntKind} {a b : Int} (h : a = b) : Ending.returned (.int k a) = .returned (.int k b) := by rw [h]
theorem unsigned_any (n : Int) (w : World) (hn : in64 n) :
    Calls Tryd.prog 81 #[.int .i64 n] w fun e w' => e = .returned (.int .u64 (zig n : Int)) ∧ w = w' := by
  obtain ⟨h1, h2⟩ := hn
  by_cases h : n < 0
  · go_enter Tryd.func81, Tryd.ntmps81
    go_wp2
    go_ret
    refine ⟨ret_int ?_, rfl⟩
    unfold zig; split <;> omega
  · go_enter Tryd.func81, Tryd.ntmps81
    go_wp2
    go_ret
    refine ⟨ret_int ?_, rfl⟩
    unfold zig; split <;> omega
theorem or_128 (y : Int) (h0 : 0 ≤ y) (h1 : y < 128) : bits .or .u8 128 y = 128 + y := by
  have hc : bits .or .u8 128 y = bits .or .u8 y 128 := by simp only [bits, BitVec.or_comm]
  rw [hc, u8_or128_right y h0 h1, Int.add_comm]
def bOne (x : Int) : Obj := .cells #[.int .u8 x] 5
theorem one_reads (w : World) (x : Int) (c : UInt8) (h : (c.toNat : Int) = x) : RB (w.alloc (bOne x)) (w.heap.size + 1) (some ⟨w.heap.size, 0, none⟩) [c] := fun _ => by
  refine ⟨_, _, rfl, Nat.lt_succ_self _, fun j hj => ?_⟩
  have hj : j < 1 := hj
  obtain rfl : j = 0 := by omega
  rw [cell_of_row _ _ _ _ _ _ (heap_alloc_new w (bOne x))]
  show some (Value.int .u8 x) = _
  rw [← h]; rfl
set_option maxHeartbeats 1000000 in
theorem put_any (A : Option Addr) (l : List UInt8) (cap B : Nat) (n : Int) (w : World) (hr : RB w B A l) (hB : B ≤ w.heap.size) (hn : in64 n) (hl : l.length ≤ 1099511627776) :
    Calls Tryd.prog 75 #[.slice A l.length cap, .int .i64 n] w fun e w' => ∃ v, e = .returned v ∧ OB w' w.heap.size v (l ++ putN n) ∧ Below w.heap.size w w' := by
  have HN := Lib.hid hn; clear hn
  have HR := Lib.hid hr; clear hr
  go_enter Tryd.func75, Tryd.ntmps75
  go_wp2_with (at_builtin; refine wpList_append_bytes rfl (.const (.slice none 0 0)) _ rfl w.heap.size (.slice none 0 0) [] l rfl (OB.nil _ _) B A cap rfl HR.out (by simp; omega) (Nat.le_refl _) ?_; intro v1 w1 o1 g1 e1)
  go_wp2_with fail
  refine (unsigned_any n _ HN.out).mono ?_
  rintro e w' ⟨rfl, rfl⟩
  go_wp2_with fail
  rw [List.nil_append] at o1
  have b1 : Below w.heap.size w w1 := (Below.refl _ _).grown g1 (Nat.le_refl _) (by simp [Value.ownBlock])
  have HO := Lib.hid o1; clear o1
  have HZ := Lib.hid (zig_lt n HN.out); clear g1 e1
  go_loopw [5, 6] (fun v u wr => ∃ (y : Int) (x : Nat) (p : List UInt8), u = .int .u64 y ∧ Hid (y = x) ∧ 0 ≤ y ∧ y ≤ 18446744073709551615 ∧ Hid (p ++ putU x = putU (zig n)) ∧ Hid (OB wr w.heap.size v (l ++ p)) ∧ Below w.heap.size w wr) (fun _ u _ => (intOf u).toNat)
  case atStart => exact ⟨_, zig n, [], rfl, rfl, by omega, by have := HZ.out; omega, rfl, by rw [List.append_nil]; exact HO, b1⟩
  case round =>
    obtain ⟨y, x, p, rfl, hy, hy0, hy1, hp, ho, hb⟩ := hrel
    have hpl : p.length ≤ 10 := by
      have h1 := putN_len n HN.out
      unfold putN at h1
      rw [← hp.out, List.length_append] at h1
      omega
    clear HO b1
    have hsz := hb.size
    have hlen : (l ++ p).length + 1 ≤ 140737488355328 := by rw [List.length_append]; omega
    have h8 : ∀ o : Obj, w.heap.size ≤ (wr.alloc o).heap.size := fun o => by rw [World.size_alloc]; omega
    have H8 := Lib.hid h8; clear h8
    by_cases hlt : y < 128
    · have e := hy.out
      have HE := Lib.hid (putU_small x (by omega))
      have hc := one_reads wr y (UInt8.ofNat x) (by rw [ofNat_nat x (by omega)]; exact e.symm)
      have HC := Lib.hid hc; clear hc
      clear e
      have o2 : OB (wr.alloc (bOne y)) w.heap.size u5 (l ++ p) := ho.out.alloc _
      have b2 : Below w.heap.size w (wr.alloc (bOne y)) := hb.alloc hsz _
      have H2 := Lib.hid o2; clear o2
      have HL := Lib.hid hlen; clear hlen
      go_wp2_with (at_builtin; refine wpList_append_bytes rfl (.tmp 22) (.tmp 25) rfl w.heap.size u5 (l ++ p) [UInt8.ofNat x] rfl H2.out (wr.heap.size + 1) _ 1 rfl HC.out HL.out (H8.out _) ?_; intro v2 w2 o3 g2 e2)
      go_ret
      refine ⟨_, rfl, ?_, b2.grown g2 (by rw [World.size_alloc]; omega) H2.out.ge⟩
      have hq := hp.out
      rw [HE.out] at hq
      unfold putN
      rw [← hq, ← List.append_assoc]
      exact o3
    · have e := hy.out
      have HE := Lib.hid (putU_big x (by omega))
      have hor := or_128 (y % 128) (by omega) (by omega)
      have hc := one_reads wr (128 + y % 128) (UInt8.ofNat (x % 128 + 128)) (by rw [ofNat_nat _ (by omega)]; omega)
      have HC := Lib.hid hc; clear hc
      have HD := Lib.hid (show y / 128 = ((x / 128 : Nat) : Int) by omega)
      clear e
      have o2 : OB (wr.alloc (bOne (128 + y % 128))) w.heap.size u5 (l ++ p) := ho.out.alloc _
      have b2 : Below w.heap.size w (wr.alloc (bOne (128 + y % 128))) := hb.alloc hsz _
      have H2 := Lib.hid o2; clear o2
      have HL := Lib.hid hlen; clear hlen
      go_wp2_with (at_builtin; refine wpList_append_bytes rfl (.tmp 13) (.tmp 18) rfl w.heap.size u5 (l ++ p) [UInt8.ofNat (x % 128 + 128)] rfl H2.out (wr.heap.size + 1) _ 1 rfl HC.out HL.out (H8.out _) ?_; intro v2 w2 o3 g2 e2)
      have b3 : Below w.heap.size w w2 := b2.grown g2 (by rw [World.size_alloc]; omega) H2.out.ge
      clear g2 e2
      have H3 := Lib.hid o3; clear o3
      go_wp2
      go_roundw
      case rel =>
        refine ⟨y / 128, x / 128, p ++ [UInt8.ofNat (x % 128 + 128)], ?_, HD.out, by omega, by omega, ?_, ?_, b3⟩
        · first | rfl | (show _ = Value.int .u64 (y / 128); simp; done) | (trace_state; fail)
        · have hq := hp.out
          rw [HE.out] at hq
          unfold Hid
          rw [List.append_assoc]
          exact hq
        · have := H3.out
          rw [List.append_assoc] at this
          exact this
      case measure => simp [intOf]; omega
end Go.Proofs.YtclgcfofgiejgaaDoor
