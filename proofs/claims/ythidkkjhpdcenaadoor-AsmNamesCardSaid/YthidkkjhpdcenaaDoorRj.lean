/- THE WALK: quintainref1.Decimal. -/
import Derived.Test.YthidkkjhpdcenaaDoorRi
import Derived.Lib.ItoaNum
namespace Go.Proofs.YthidkkjhpdcenaaDoor
open Go.RowKit

theorem digit_byte (d : Nat) (h : d < 10) : (UInt8.ofNat (48 + d)).toNat = 48 + d := by
  simp; omega

/-- A byte out of a number. -/
def byteOf (z : Int) : UInt8 := UInt8.ofNat z.toNat
/-- string([]byte{z}). -/
theorem conv1 (w : World) (z : Int) : (convert 50 9 (.slice (some ⟨w.heap.size, 0, none⟩) 1 1)).run Tryd.prog (w.alloc (.cells #[.int .u8 z] 5)) = .ok (.string ⟨#[byteOf z]⟩) (w.alloc (.cells #[.int .u8 z] 5)) := by
  have := run_convert_bytes_arg (P := Tryd.prog) (w.alloc (.cells #[.int .u8 z] 5)) 50 5 Tryd.underlying50 Tryd.underlying5 w.heap.size 0 1 1 [z] rfl (fun i hi => by
    obtain rfl : i = 0 := by omega
    simp) 9 Tryd.underlying9
  simpa [strOfNums, byteOf] using this

theorem lst_cons (b : UInt8) (c : ByteArray) : lst ((⟨#[b]⟩ : ByteArray) ++ c) = b :: lst c := by simp [lst]
theorem size_cons (b : UInt8) (c : ByteArray) : ((⟨#[b]⟩ : ByteArray) ++ c).size = c.size + 1 := by
  rw [ByteArray.size_append, Nat.add_comm]; rfl
theorem of_lst (c : ByteArray) : c = ⟨(lst c).toArray⟩ := by simp [lst]

/-- The digits so far: c stands behind those of M. -/
def DecInv (N M : Nat) (c : ByteArray) : Prop := (M ≠ 0 → Lib.decDigits N = Lib.decDigits M ++ lst c) ∧ (M = 0 → Lib.decDigits N = lst c)
theorem DecInv.step {N M : Nat} {c : ByteArray} (h : DecInv N M c) (h0 : 0 < M) (z : Int) (hz : z = 48 + ((M % 10 : Nat) : Int)) : DecInv N (M / 10) ((⟨#[byteOf z]⟩ : ByteArray) ++ c) := by
  have hb : byteOf z = UInt8.ofNat (48 + M % 10) := by unfold byteOf; congr 1; omega
  rw [hb]
  have h1 := h.1 (by omega)
  constructor
  · intro hm
    rw [h1, lst_cons, Lib.decDigits, dif_neg (by omega)]
    simp
  · intro hm
    have : M % 10 = M := by omega
    rw [h1, lst_cons, Lib.decDigits, dif_pos (by omega), this]; rfl

set_option maxRecDepth 100000 in
set_option maxHeartbeats 1000000 in
theorem decimal_neg (n : Int) (w : World) (h0 : n < 0) (h1 : -2147483648 ≤ n) :
    Calls Tryd.prog 18 #[.int .i64 n] w fun e w' => e = .returned (.string ⟨(Lib.itoa n).toArray⟩) ∧ Below w.heap.size w w' := by
  have hn0 : (n == 0) = false := by rw [beq_eq_false_iff_ne]; omega
  obtain ⟨N, hN⟩ : ∃ N : Nat, n = -(N : Int) := ⟨n.natAbs, by omega⟩
  have hit : Lib.itoa n = 45 :: Lib.decDigits N := by
    rw [Lib.itoa, if_pos h0]
    congr 1; congr 1; omega
  have HIT := Lib.hid hit; clear hit
  have HN := Lib.hid hN; clear hN
  go_enter Tryd.func18, Tryd.ntmps18
  go_wp2
  go_loopw [3, 4] (fun sv mv wr => ∃ (M : Nat) (c : ByteArray), mv = .int .i64 (-(M : Int)) ∧ sv = .string c ∧ M ≤ 2147483648 ∧ c.size + M ≤ 2147483648 ∧ Hid (DecInv N M c) ∧ Below w.heap.size w wr) (fun _ mv _ => (intOf mv).natAbs)
  case atStart => exact ⟨N, ⟨#[]⟩, by rw [HN.out], rfl, by have := HN.out; omega, by have := HN.out; show 0 + N ≤ _; omega, ⟨fun _ => by simp [lst], fun h => by have := HN.out; omega⟩, Below.refl _ _⟩
  case round =>
    obtain ⟨M, c, rfl, rfl, hM, hc, HP, hb⟩ := hrel
    by_cases h : 0 < M
    · have hm : (-(M : Int) != 0) = true := by simp; omega
      have hcv := conv1 wr
      have hB := (hb.alloc hb.size (.cells #[.int .u8 (48 + (M : Int) % 10)] 5))
      have hB0 := (hb.alloc hb.size (.cells #[.int .u8 (48 + -((M : Int) % 10))] 5))
      by_cases hd : M % 10 = 0
      · have HD := Lib.hid hd
        have hd1 : ¬ (0 : Int) < (M : Int) % 10 := by omega
        clear hd
        go_wp2
        go_roundw
        case rel =>
          refine ⟨M / 10, _, by go_num, rfl, by omega, ?_, HP.out.step h _ (by have := HD.out; omega), by assumption⟩
          rw [size_cons]; omega
        case measure => simp [intOf]; omega
      · have hd1 : (0 : Int) < (M : Int) % 10 := by omega
        clear hd
        go_wp2
        go_roundw
        case rel =>
          refine ⟨M / 10, _, by go_num, rfl, by omega, ?_, HP.out.step h _ (by omega), by assumption⟩
          rw [size_cons]; omega
        case measure => simp [intOf]; omega
    · obtain rfl : M = 0 := by omega
      have hm : (-((0 : Nat) : Int) != 0) = false := by decide
      go_wp2
      go_ret
      refine ⟨?_, hb⟩
      rw [HIT.out, HP.out.2 rfl]
      have e : lst ((⟨#[45]⟩ : ByteArray) ++ c) = 45 :: lst c := lst_cons 45 c
      rw [← e, ← of_lst]; rfl

set_option maxRecDepth 100000 in
set_option maxHeartbeats 1000000 in
theorem decimal_pos (n : Int) (w : World) (h0 : 0 < n) (h1 : n ≤ 2147483648) :
    Calls Tryd.prog 18 #[.int .i64 n] w fun e w' => e = .returned (.string ⟨(Lib.itoa n).toArray⟩) ∧ Below w.heap.size w w' := by
  have hn0 : (n == 0) = false := by rw [beq_eq_false_iff_ne]; omega
  obtain ⟨N, hN⟩ : ∃ N : Nat, n = (N : Int) := ⟨n.natAbs, by omega⟩
  have hit : Lib.itoa n = Lib.decDigits N := by
    rw [Lib.itoa, if_neg (by omega)]
    congr 1; omega
  have HIT := Lib.hid hit; clear hit
  have HN := Lib.hid hN; clear hN
  have hn1 := Lib.hid h1; clear h1
  go_enter Tryd.func18, Tryd.ntmps18
  go_wp2
  go_loopw [3, 4] (fun sv mv wr => ∃ (M : Nat) (c : ByteArray), mv = .int .i64 ((M : Int)) ∧ sv = .string c ∧ M ≤ 2147483648 ∧ c.size + M ≤ 2147483648 ∧ Hid (DecInv N M c) ∧ Below w.heap.size w wr) (fun _ mv _ => (intOf mv).natAbs)
  case atStart => exact ⟨N, ⟨#[]⟩, by rw [HN.out], rfl, by have := HN.out; have := hn1.out; omega, by have := HN.out; have := hn1.out; show 0 + N ≤ _; omega, ⟨fun _ => by simp [lst], fun h => by have := HN.out; omega⟩, Below.refl _ _⟩
  case round =>
    obtain ⟨M, c, rfl, rfl, hM, hc, HP, hb⟩ := hrel
    by_cases h : 0 < M
    · have hm : ((M : Int) != 0) = true := by simp; omega
      have hcv := conv1 wr
      have hB := (hb.alloc hb.size (.cells #[.int .u8 (48 + (M : Int) % 10)] 5))
      have hB0 := (hb.alloc hb.size (.cells #[.int .u8 (48 + -((M : Int) % 10))] 5))
      by_cases hd : M % 10 = 0
      · have HD := Lib.hid hd
        have hd1 : ¬ (0 : Int) < (M : Int) % 10 := by omega
        clear hd
        go_wp2
        go_roundw
        case rel =>
          refine ⟨M / 10, _, by go_num, rfl, by omega, ?_, HP.out.step h _ (by have := HD.out; omega), by assumption⟩
          rw [size_cons]; omega
        case measure => simp [intOf]; omega
      · have hd1 : (0 : Int) < (M : Int) % 10 := by omega
        clear hd
        go_wp2
        go_roundw
        case rel =>
          refine ⟨M / 10, _, by go_num, rfl, by omega, ?_, HP.out.step h _ (by omega), by assumption⟩
          rw [size_cons]; omega
        case measure => simp [intOf]; omega
    · obtain rfl : M = 0 := by omega
      have hm : (((0 : Nat) : Int) != 0) = false := by decide
      go_wp2
      go_ret
      refine ⟨?_, hb⟩
      rw [HIT.out, HP.out.2 rfl]
      rw [← of_lst]; rfl

theorem decimal_0 (w : World) :
    Calls Tryd.prog 18 #[.int .i64 0] w fun e w' => e = .returned (.string ⟨(Lib.itoa 0).toArray⟩) ∧ Below w.heap.size w w' := by
  have hit : Lib.itoa 0 = [48] := by rw [Lib.itoa, if_neg (by omega)]; show Lib.decDigits 0 = _; rw [Lib.decDigits, dif_pos (by omega)]; rfl
  have HIT := Lib.hid hit; clear hit
  go_enter Tryd.func18, Tryd.ntmps18
  go_wp2
  go_ret
  exact ⟨by rw [HIT.out]; rfl, Below.refl _ _⟩

theorem decimal_any (n : Int) (w : World) (h1 : -2147483648 ≤ n) (h2 : n ≤ 2147483647) :
    Calls Tryd.prog 18 #[.int .i64 n] w fun e w' => e = .returned (.string ⟨(Lib.itoa n).toArray⟩) ∧ Below w.heap.size w w' := by
  by_cases h0 : n = 0
  · subst h0; exact decimal_0 w
  · by_cases hn : n < 0
    · exact decimal_neg n w hn h1
    · exact decimal_pos n w (by omega) (by omega)
end Go.Proofs.YthidkkjhpdcenaaDoor
