/- THE WALKS over package runes: Count, At. -/
import Derived.Test.YtbmhdinaofepdaaRows
import Derived.Test.YtbmhdinaofepdaaRa
import Derived.WalkKit
import Derived.WalkSpells
import Derived.WalkLawsBesides
import Derived.Lib.Hide
namespace Go.Proofs.Ytbmhdinaofepdaa
open Go.RowKit

theorem below_iter (w : World) (s : ByteArray) (p : Nat) : Below w.heap.size w (w.iter s p) := (Below.refl _ _).alloc (Nat.le_refl _) _

set_option maxHeartbeats 400000 in
theorem count_any (s : ByteArray) (w : World) (hs : s.size ≤ maxLen) :
    Calls Try.prog 61 #[.string s] w fun e w' => e = .returned (.int .i64 ((rns s).length : Int)) ∧ Below w.heap.size w w' := by
  unfold maxLen at hs
  go_enter Try.func61, Try.ntmps61
  go_wp2
  go_loopw [3] (fun n w' => ∃ (p k : Nat), w' = w.iter s p ∧ n = .int .i64 k ∧ p ≤ s.size ∧ k ≤ p ∧ k + (rnsAt s p).length = (rns s).length) (fun _ w' => s.size - w'.iterPos w.heap.size)
  case atStart => exact ⟨0, 0, rfl, rfl, by omega, by omega, by simp [rns]⟩
  case round =>
    obtain ⟨p, k, rfl, rfl, hp, hk, hl⟩ := hrel
    by_cases h : p < s.size
    · have hnx : ∀ ty, (Instr.next (.pointer (some ⟨w.heap.size, 0, none⟩)) true ty).run Try.prog (w.iter s p) = _ := fun ty => run_next_any w s p ty h
      have HL := Lib.hid hl; clear hl
      go_wp2
      have h1 := dec_fits s p h
      have h2 := dec_pos s p
      go_roundw
      case rel =>
        refine ⟨p + (Utf8.decode s p).2, k + 1, rfl, by go_num, h1, by omega, ?_⟩
        rw [← HL.out, rnsAt_step h, List.length_cons]; omega
      case measure =>
        simp
        omega
    · have hnx : ∀ ty, (Instr.next (.pointer (some ⟨w.heap.size, 0, none⟩)) true ty).run Try.prog (w.iter s p) = _ := fun ty => run_next_end w s p ty h
      have HL := Lib.hid hl; clear hl
      go_wp2
      go_ret
      have e := HL.out
      rw [rnsAt_end h] at e
      exact ⟨by rw [← e]; simp, below_iter _ _ _⟩

set_option maxHeartbeats 400000 in
theorem at_any (s : ByteArray) (n : Int) (w : World) (hs : s.size ≤ maxLen) :
    Calls Try.prog 46 #[.string s, .int .i64 n] w fun e w' => e = .returned (.int .i32 (atR s n)) ∧ Below w.heap.size w w' := by
  unfold maxLen at hs
  go_enter Try.func46, Try.ntmps46
  go_wp2
  go_loopw [5] (fun v w' => ∃ (p k : Nat), w' = w.iter s p ∧ v = .int .i64 k ∧ p ≤ s.size ∧ k ≤ p ∧ (n < 0 ∨ k ≤ n) ∧ rnsAt s p = (rns s).drop k) (fun _ w' => s.size - w'.iterPos w.heap.size)
  case atStart => exact ⟨0, 0, rfl, rfl, by omega, by omega, by omega, by simp [rns]⟩
  case round =>
    obtain ⟨p, k, rfl, rfl, hp, hk, hn, hl⟩ := hrel
    have HL := Lib.hid hl; clear hl
    by_cases h : p < s.size
    · have hnx : ∀ ty, (Instr.next (.pointer (some ⟨w.heap.size, 0, none⟩)) true ty).run Try.prog (w.iter s p) = _ := fun ty => run_next_any w s p ty h
      have h1 := dec_fits s p h
      have h2 := dec_pos s p
      by_cases he : (k : Int) = n
      · subst he
        go_wp2
        go_ret
        refine ⟨?_, below_iter _ _ _⟩
        have e := HL.out
        rw [rnsAt_step h] at e
        have e2 : (rns s)[k]? = some (Utf8.decode s p) := by
          have := congrArg (·[0]?) e
          simpa using this.symm
        simp [atR, e2]
      · have hb : ((k : Int) == n) = false := by simpa using he
        go_wp2
        go_roundw
        case rel =>
          refine ⟨p + (Utf8.decode s p).2, k + 1, rfl, by go_num, h1, by omega, by omega, ?_⟩
          have e := HL.out
          rw [rnsAt_step h] at e
          have := congrArg List.tail e
          simpa using this
        case measure =>
          simp
          omega
    · have hnx : ∀ ty, (Instr.next (.pointer (some ⟨w.heap.size, 0, none⟩)) true ty).run Try.prog (w.iter s p) = _ := fun ty => run_next_end w s p ty h
      go_wp2
      go_ret
      refine ⟨?_, below_iter _ _ _⟩
      have e := HL.out
      rw [rnsAt_end h] at e
      have hlen : (rns s).length ≤ k := by
        have := congrArg List.length e
        simp at this
        omega
      by_cases h0 : 0 ≤ n
      · have : (rns s)[n.toNat]? = none := List.getElem?_eq_none (by omega)
        simp [atR, this]
      · simp [atR, h0]
end Go.Proofs.Ytbmhdinaofepdaa
