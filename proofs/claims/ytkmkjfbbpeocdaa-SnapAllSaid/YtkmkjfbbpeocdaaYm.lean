/- SnapAll: WALK. -/
import Derived.Test.YtkmkjfbbpeocdaaYi
import Derived.Test.YtkmkjfbbpeocdaaYj
namespace Go.Proofs.Ytkmkjfbbpeocdaa
set_option maxRecDepth 100000
open Go.RowKit Go.Maps
set_option linter.unusedVariables false
set_option linter.unusedSimpArgs false

theorem built_book (N : Int) : Try.prog.built 29 [(2, .int .i64 N)] = some #[.slice none 0 0, .int .i64 0, .int .i64 N] := by kernel_rfl
theorem run_build_book (N : Int) (w : World) : (Instr.build 29 #[(2, .int .i64 N)]).run Try.prog w = .ok (.agg #[.slice none 0 0, .int .i64 0, .int .i64 N]) w := run_build w _ _ _ (built_book N)
set_option maxHeartbeats 8000000 in
theorem snapall_law (n : Int) (A1 : Option Addr) (qs : List O5) (cap : Nat) (w : World) (n0 : -9223372036854775808 ≤ n) (n1 : n ≤ 9223372036854775807) (hr : RO5 w w.heap.size A1 qs) (hc : qs.length ≤ cap) (hm : cap ≤ maxLen) (hq : ∀ o ∈ qs, inO5 w o) :
    Calls Try.prog 3 #[.int .i64 n, .slice A1 qs.length cap] w fun e w' => e = .returned (.bool true) ∧ Below w.heap.size w w' := by
  have HBg := Lib.hid (begun11_any w)
  obtain ⟨pn, hp5, hpm, hp1, hp2⟩ := mod5 n ⟨n0, n1⟩
  have HNew := Lib.hid (fun W => f_new pn (by omega) (pn : Int) rfl W (4 * pn) rfl)
  have HR := Lib.hid hr
  have HI := Lib.hid hq
  have hbk := run_build_book
  have hw4 : IntKind.i64.wrap (4 * (pn : Int)) = 4 * (pn : Int) := by rw [IntKind.wrap_i64]; omega
  have hmx := hm
  unfold maxLen at hmx
  clear hr hq
  go_enter Try.func3, Try.ntmps3
  go_wp2_with (first
    | (go_at_call 11; (with_reducible refine HBg.out.mono ?_); rintro e wa ⟨rfl, hb⟩; have HB0 := Lib.hid hb; clear hb)
    | (go_at_call 12; (with_reducible refine (HNew.out _).mono ?_); rintro e w1 ⟨S, P, A, M, rfl, E⟩; have HE := Lib.hid E; clear E))
  have HD0 := Lib.hid (d_start HE.out (n4 := 4 * (pn : Int)) (by omega) ((Below.refl _ w1).alloc (Nat.le_refl _) (.cells #[.slice none 0 0, .int .i64 0, .int .i64 (4 * (pn : Int))] 29)) w1.heap.size (Nat.le_refl _) (heap_alloc_last w1 _))
  obtain ⟨N, hN⟩ : ∃ N : Int, N = 4 * (pn : Int) := ⟨_, rfl⟩
  obtain ⟨Bb, hBb⟩ : ∃ Bb, Bb = w1.heap.size := ⟨_, rfl⟩
  have HN : Hid (0 ≤ N ∧ N ≤ 200) := by rw [Hid]; omega
  obtain ⟨W1, hW1⟩ : ∃ W1, W1 = w1.alloc (.cells #[.slice none 0 0, .int .i64 0, .int .i64 (4 * (pn : Int))] 29) := ⟨_, rfl⟩
  rw [← hW1, ← hBb, ← hN] at HD0
  rw [← hW1, ← hBb]
  clear hW1 hBb hN HE HNew
  go_loopw [8] (fun i wr => ∃ k : Nat, i = .int .i64 k ∧ k ≤ qs.length ∧ k ≤ 50 ∧ Hid (DoR wa wr S P A M Bb N k)) (fun i _ => 50 - (numI i).toNat)
  case atStart => exact ⟨0, rfl, by omega, by omega, HD0⟩
  case round =>
    obtain ⟨k, rfl, hkq, hk50, hD⟩ := hrel
    have HBr := Lib.hid (HB0.out.trans (hD.out.be.mono HB0.out.size))
    by_cases hlt : k < qs.length
    · have hlc : (k : Int) < (qs.length : Int) := by omega
      by_cases h50 : k < 50
      · have h5c : (k : Int) < 50 := by omega
        obtain ⟨b, off, rfl, hbB, hcell⟩ := (HR.out.below HBr.out) (by omega)
        obtain ⟨q0, q1, q2, q3, q4⟩ := hcell k hlt
        have hin := HI.out qs[k] (List.getElem_mem hlt)
        clear hcell
        generalize qs[k] = o at q0 q1 q2 q3 q4 hin
        obtain ⟨kd, kP, kc, kv, A0, ls, cp⟩ := o
        obtain ⟨i0, i1, i2, i3, i4, i5⟩ := hin
        dsimp only at q0 q1 q2 q3 q4 i0 i1 i2 i3 i4 i5
        have HDo := Lib.hid (do_any wa wr S P A M Bb N k h50 HN.out hD.out kd kP kc kv i1 i2 A0 ls cp ((i3.below HB0.out).more HB0.out.size) i4 i5)
        clear i0 i1 i2 i3 i4 i5
        go_wp2_with (first
          | (go_at_call 13; (with_reducible refine HDo.out.mono ?_); rintro e w5 ⟨rfl, E⟩; have HD5 := Lib.hid E; clear E)
          | (go_at_call 14; have HQ := d_same HD5.out (by omega); (with_reducible refine HQ.mono ?_); clear HQ; rintro e w6 ⟨rfl, E⟩; have HD6 := Lib.hid E; clear E))
        go_roundw
        case rel => exact ⟨k + 1, by go_num, by omega, by omega, HD6⟩
        case measure => simp [numI]; omega
      · have h5c : ¬ (k : Int) < 50 := by omega
        have HQ := Lib.hid (d_same hD.out hk50)
        go_wp2_with (go_at_call 14; (with_reducible refine HQ.out.mono ?_); rintro e w6 ⟨rfl, E⟩; have HD6 := Lib.hid E; clear E)
        go_ret
        exact ⟨rfl, HB0.out.trans (HD6.out.be.mono HB0.out.size)⟩
    · have hlc : ¬ (k : Int) < (qs.length : Int) := by omega
      have HQ := Lib.hid (d_same hD.out hk50)
      go_wp2_with (go_at_call 14; (with_reducible refine HQ.out.mono ?_); rintro e w6 ⟨rfl, E⟩; have HD6 := Lib.hid E; clear E)
      go_ret
      exact ⟨rfl, HB0.out.trans (HD6.out.be.mono HB0.out.size)⟩
end Go.Proofs.Ytkmkjfbbpeocdaa
