/- WALKS: state's Sum; quintainref1's Bytes, SumOf. Of a seat that has the table of sums. -/
import Derived.Test.YtbhmageepocmcaaDoorGg
import Derived.Test.YtbhmageepocmcaaDoorGi
import Derived.Test.YtbhmageepocmcaaDoorCd
namespace Go.Proofs.YtbhmageepocmcaaDoor
open Go.RowKit
set_option linter.unusedVariables false

theorem infoGame : (Tryd.prog.info? 27).map (·.size) = some 32 := by kernel_rfl
theorem guardGame : Tryd.prog.eqGuardType Tryd.prog.depth 27 = false := by kernel_rfl
theorem s4_round (x : Int) : s4 (x % 4294967296) = s4 x := by
  have key : ∀ y z : Int, y % 256 = z % 256 → u8 y = u8 z := fun y z h => by unfold u8; rw [h]
  unfold s4
  rw [key (x % 4294967296 / 16777216) (x / 16777216) (by omega), key (x % 4294967296 / 65536) (x / 65536) (by omega), key (x % 4294967296 / 256) (x / 256) (by omega), key (x % 4294967296) x (by omega)]

set_option maxHeartbeats 1000000 in
theorem gsum_any (g : List Int) (w : World) (hg : g.length = 32) (hbd : Bd g) (hT : TabW w) :
    Calls Tryd.prog 10 #[.agg (gC g)] w fun e w' => e = .returned (.int .u32 (tn (sumL (encG g)))) ∧ Below w.heap.size w w' := by
  obtain ⟨L, hL⟩ : ∃ L, L = encG g := ⟨_, rfl⟩
  have hL1 : L.length = 128 := by rw [hL, encG_length, hg]
  have KE := Lib.hid (fun w => encode_any g w hg hbd)
  have G0 : Hid (GA (w.alloc (.cells (gC g) 25)) w.heap.size 25 g) := Lib.hid (GA.new w _ g)
  have B0 := Lib.hid ((Below.refl w.heap.size w).alloc (Nat.le_refl _) (.cells (gC g) 25))
  rw [← hL]
  have HL := Lib.hid hL; have HL1 := Lib.hid hL1; have HT := Lib.hid hT
  clear hL hL1 hbd hT
  go_enter Tryd.func10, Tryd.ntmps10
  go_wp2_with (first
    | (with_reducible refine wpList_load_g rfl 25 (.tmp 1) rfl _ (by with_unfolding_all rfl) 25 g G0.out Tryd.underlying25 (by rw [hg]; exact infoState) ?_)
    | (go_at_call 7; refine (KE.out _).mono ?_; rintro e w2 ⟨v, rfl, O2, R2⟩
       rw [← HL.out] at O2
       obtain ⟨b, cap, rfl, hb1, hb2, hb3, hb4, hb5, hb6⟩ := OB.row O2 HL1.out (by omega)
       have B3 := Lib.hid (B0.out.trans (R2.mono (by simp)))
       have HS := Lib.hid (sum_any (some ⟨b, 0, none⟩) L cap _ w2 (HT.out.below B3.out HT.out.lt) hb5 (by have := HL1.out; unfold maxLen; omega))
       rw [HL1.out] at HS
       clear O2 hb6)
    | (go_at_call 17; refine HS.out.mono ?_; rintro e w3 ⟨rfl, rfl⟩))
  go_ret
  exact ⟨rfl, B3.out⟩

set_option maxHeartbeats 1000000 in
theorem refbytes_any (g : List Int) (w : World) (hg : g.length = 32) (hbd : Bd g) :
    Calls Tryd.prog 9 #[.agg (gC g)] w fun e w' => ∃ v, e = .returned v ∧ OB w' w.heap.size v (encG g) ∧ Below w.heap.size w w' := by
  have HBD := Lib.hid hbd; clear hbd
  have G0 : Hid (GA (w.alloc (.cells (gC g) 27)) w.heap.size 27 g) := Lib.hid (GA.new w _ g)
  have B0 := Lib.hid ((Below.refl (w.heap.size + 1) (w.alloc (.cells (gC g) 27))))
  have hs0 : (w.alloc (.cells (gC g) 27)).heap.size = w.heap.size + 1 := by simp
  have HZ := Lib.hid hs0; clear hs0
  go_enter Tryd.func9, Tryd.ntmps9
  go_wp2_with fail
  go_loopw [3, 4] (fun v i wr => ∃ k : Nat, i = .int .i64 k ∧ k ≤ 32 ∧ Hid (OB wr (w.heap.size + 1) v (encG (g.take k))) ∧ Hid (Below (w.heap.size + 1) (w.alloc (.cells (gC g) 27)) wr)) (fun _ i _ => 32 - (intOf i).toNat)
  case atStart => exact ⟨0, rfl, by omega, OB.nil _ _, B0⟩
  case round =>
    obtain ⟨k, rfl, hk, HO, HB⟩ := hrel
    have hsz : w.heap.size + 1 ≤ wr.heap.size := by have := HB.out.size; rw [HZ.out] at this; exact this
    by_cases h1 : k < 32
    · have h1c : (k : Int) < 32 := by omega
      have hy := (HB.out.cell (p := ⟨w.heap.size, k, none⟩) (by simp)).trans (G0.out.cell k (by omega))
      obtain ⟨x, hx⟩ : ∃ x, g[k] = x := ⟨_, rfl⟩
      rw [hx] at hy
      obtain ⟨x1, x2⟩ := HBD.out x (by rw [← hx]; exact List.getElem_mem _)
      have HS := Lib.hid (show encG (g.take (k + 1)) = encG (g.take k) ++ s4 x by rw [encG_step g k (by omega), hx])
      have HL := Lib.hid (show (encG (g.take k)).length = 4 * k by rw [encG_length, List.length_take]; omega)
      have HR := Lib.hid (s4_reads wr x)
      have HO2 := Lib.hid (HO.out.below ((Below.refl wr.heap.size wr).alloc (Nat.le_refl _) (rowB (s4 x))) (Nat.le_refl _))
      have HB2 := Lib.hid (HB.out.alloc hsz (rowB (s4 x)))
      have HP := Lib.hid (s4_round x ▸ four_any (x % 4294967296) wr (by omega) (by omega))
      clear hx
      go_wp2_with (first
        | (go_at_call 16; refine HP.out.mono ?_; rintro e w' ⟨rfl, rfl⟩)
        | (at_builtin; refine wpList_append_bytes rfl (.tmp 9) (.tmp 14) rfl (w.heap.size + 1) _ _ (s4 x) rfl HO2.out _ _ 4 rfl HR.out (by rw [HL.out, s4_length]; omega) (by simp; omega) ?_; intro v3 w3 O3 R3 E3; have HO3 := Lib.hid O3; have HB3 := Lib.hid (HB2.out.grown R3 (by simp; omega) HO2.out.ge)))
      go_round
      case rel => exact ⟨k + 1, by go_num, by omega, by unfold Hid; rw [HS.out]; exact HO3.out, HB3⟩
      case measure => simp [intOf]; omega
    · obtain rfl : k = 32 := by omega
      have h1c : ¬ ((32 : Nat) : Int) < 32 := by omega
      have HF : Hid (OB wr (w.heap.size + 1) u3 (encG g)) := by have := HO.out; rw [List.take_of_length_le (by omega)] at this; exact this
      clear HO
      go_wp2
      go_ret
      exact ⟨_, rfl, HF.out.less (by omega), ((Below.refl w.heap.size w).alloc (Nat.le_refl _) _).trans (HB.out.mono (by omega))⟩

set_option maxHeartbeats 1000000 in
theorem refsumof_any (g : List Int) (w : World) (hg : g.length = 32) (hbd : Bd g) :
    Calls Tryd.prog 11 #[.agg (gC g)] w fun e w' => e = .returned (.int .u32 (tn (sumL (encG g)))) ∧ Below w.heap.size w w' := by
  obtain ⟨L, hL⟩ : ∃ L, L = encG g := ⟨_, rfl⟩
  have hL1 : L.length = 128 := by rw [hL, encG_length, hg]
  have KE := Lib.hid (fun w => refbytes_any g w hg hbd)
  have G0 : Hid (GA (w.alloc (.cells (gC g) 27)) w.heap.size 27 g) := Lib.hid (GA.new w _ g)
  have B0 := Lib.hid ((Below.refl w.heap.size w).alloc (Nat.le_refl _) (.cells (gC g) 27))
  rw [← hL]
  have HL := Lib.hid hL; have HL1 := Lib.hid hL1
  clear hL hL1 hbd
  go_enter Tryd.func11, Tryd.ntmps11
  go_wp2_with (first
    | (with_reducible refine wpList_load_g rfl 27 (.tmp 1) rfl _ (by with_unfolding_all rfl) 27 g G0.out Tryd.underlying27 (by rw [hg]; exact infoGame) ?_)
    | (go_at_call 9; refine (KE.out _).mono ?_; rintro e w2 ⟨v, rfl, O2, R2⟩
       rw [← HL.out] at O2
       obtain ⟨b, cap, rfl, hb1, hb2, hb3, hb4, hb5, hb6⟩ := OB.row O2 HL1.out (by omega)
       have B3 := Lib.hid (B0.out.trans (R2.mono (by simp)))
       have HS := Lib.hid (refsum_any (some ⟨b, 0, none⟩) L cap _ w2 hb5 (by have := HL1.out; unfold maxLen; omega))
       rw [HL1.out] at HS
       clear O2 hb6)
    | (go_at_call 18; refine HS.out.mono ?_; rintro e w3 ⟨rfl, rfl⟩))
  go_ret
  exact ⟨rfl, B3.out⟩
end Go.Proofs.YtbhmageepocmcaaDoor
