/- WALKS over package state: Encode. -/
import Derived.Test.YtbhmageepocmcaaDoorGd
import Derived.Test.YtbhmageepocmcaaDoorDb
namespace Go.Proofs.YtbhmageepocmcaaDoor
open Go.RowKit
set_option linter.unusedVariables false

/-- a game's bytes -/
def encG (g : List Int) : List UInt8 := g.flatMap s4
theorem s4_length (a : Int) : (s4 a).length = 4 := rfl
theorem encG_length (g : List Int) : (encG g).length = 4 * g.length := by
  unfold encG
  induction g with
  | nil => rfl
  | cons x g ih => simp only [List.flatMap_cons, List.length_append, s4_length, ih, List.length_cons]; omega
theorem encG_step (g : List Int) (k : Nat) (h : k < g.length) : encG (g.take (k + 1)) = encG (g.take k) ++ s4 g[k] := by
  unfold encG
  rw [List.take_succ_eq_append_getElem h, List.flatMap_append]; simp
/-- all its numbers have 32 bits -/
def Bd (g : List Int) : Prop := ∀ x ∈ g, -2147483648 ≤ x ∧ x ≤ 2147483647

set_option maxHeartbeats 1000000 in
theorem encode_any (g : List Int) (w : World) (hg : g.length = 32) (hbd : Bd g) :
    Calls Tryd.prog 7 #[.agg (gC g)] w fun e w' => ∃ v, e = .returned v ∧ OB w' w.heap.size v (encG g) ∧ Below w.heap.size w w' := by
  obtain ⟨i0, hi0, hz0, hz1, hz2⟩ := info_parts byte_info
  have HBD := Lib.hid hbd; clear hbd
  have G0 : Hid (GA (w.alloc (.cells (gC g) 25)) w.heap.size 25 g) := Lib.hid (GA.new w 25 g)
  have B0 := Lib.hid ((Below.refl w.heap.size w).alloc (Nat.le_refl _) (.cells (gC g) 25))
  go_enter Tryd.func7, Tryd.ntmps7
  go_wp2_with (first
    | (refine wpList_make_own _ rfl _ _ 28 rfl w.heap.size 5 i0 (.int .u8 0) 1 Tryd.underlying28 hi0 hz0 hz1 .i64 .i64 128 128 rfl rfl rfl (by rw [hz2]; omega) (by unfold maxLen; omega) (by simp) ?_; intro w1 O1 R1; have G1 := Lib.hid (G0.out.grown R1 (by simp)); have B1 := Lib.hid (B0.out.grown R1 (by simp) (by simp)); replace O1 : Hid (OB w1 w.heap.size _ []) := Lib.hid O1)
    | (with_reducible refine wpList_load_g rfl 25 (.tmp 1) rfl _ (by with_unfolding_all rfl) 25 g G1.out Tryd.underlying25 (by rw [hg]; exact infoState) ?_))
  go_loopw [3, 8] (fun v i wr => ∃ k : Nat, i = .int .i64 k ∧ k ≤ 32 ∧ Hid (OB wr w.heap.size v (encG (g.take k))) ∧ Hid (Below w.heap.size w wr)) (fun _ i _ => 32 - (intOf i).toNat)
  case atStart => exact ⟨0, rfl, by omega, by simpa [encG] using O1, B1⟩
  case round =>
    obtain ⟨k, rfl, hk, HO, HB⟩ := hrel
    by_cases h1 : k < 32
    · have h1c : (k : Int) < 32 := by omega
      have hix := index_g (P := Tryd.prog) 25 g Tryd.underlying25 Tryd.underlying21 rfl infoCell k (by omega) hg
      obtain ⟨x, hx⟩ : ∃ x, g[k] = x := ⟨_, rfl⟩
      rw [hx] at hix
      obtain ⟨x1, x2⟩ := HBD.out x (by rw [← hx]; exact List.getElem_mem _)
      have HS := Lib.hid (show encG (g.take (k + 1)) = encG (g.take k) ++ s4 x by rw [encG_step g k (by omega), hx])
      have HL := Lib.hid (show (encG (g.take k)).length = 4 * k by rw [encG_length, List.length_take]; omega)
      have HR := Lib.hid (s4_reads wr x)
      have HO2 := Lib.hid (HO.out.below ((Below.refl wr.heap.size wr).alloc (Nat.le_refl _) (rowB (s4 x))) (Nat.le_refl _))
      have HB2 := Lib.hid (HB.out.alloc HB.out.size (rowB (s4 x)))
      have HP := Lib.hid (put_any x wr x1 x2)
      clear hx
      go_wp2_with (first
        | (go_at_call 14; refine HP.out.mono ?_; rintro e w' ⟨rfl, rfl⟩)
        | (at_builtin; refine wpList_append_bytes rfl (.tmp 11) (.tmp 13) rfl w.heap.size _ _ (s4 x) rfl HO2.out _ _ 4 rfl HR.out (by rw [HL.out, s4_length]; omega) HB2.out.size ?_; intro v3 w3 O3 R3 E3; have HO3 := Lib.hid O3; have HB3 := Lib.hid (HB2.out.grown R3 HB2.out.size HO2.out.ge)))
      go_round
      case rel => exact ⟨k + 1, by go_num, by omega, by unfold Hid; rw [HS.out]; exact HO3.out, HB3⟩
      case measure => simp [intOf]; omega
    · obtain rfl : k = 32 := by omega
      have h1c : ¬ ((32 : Nat) : Int) < 32 := by omega
      have HF : Hid (OB wr w.heap.size u3 (encG g)) := by have := HO.out; rw [List.take_of_length_le (by omega)] at this; exact this
      clear HO
      go_wp2
      go_ret
      exact ⟨_, rfl, HF.out, HB.out⟩
end Go.Proofs.YtbhmageepocmcaaDoor
