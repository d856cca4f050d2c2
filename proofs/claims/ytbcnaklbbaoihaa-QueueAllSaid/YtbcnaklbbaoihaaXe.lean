/- WALKS of the laws of layer 17: begun; QueueNone. -/
import Derived.Test.YtbcnaklbbaoihaaXd
namespace Go.Proofs.Ytbcnaklbbaoihaa
set_option maxRecDepth 100000
open Go.RowKit
set_option linter.unusedVariables false
set_option linter.unusedSimpArgs false

theorem two_new {xs : List Ln} (h : xs.map Ln.l = List.replicate 2 (zB 1)) : ∃ a b, xs = [⟨a, [0]⟩, ⟨b, [0]⟩] := by
  have hl : xs.length = 2 := by have := congrArg List.length h; simpa using this
  match xs, hl with
  | [⟨a, x⟩, ⟨b, y⟩], _ =>
    simp [zB, List.replicate] at h
    obtain ⟨rfl, rfl⟩ := h
    exact ⟨a, b, rfl⟩
set_option maxHeartbeats 4000000 in
theorem begun17_any (w : World) : Calls Try.prog 7 #[] w fun e w' => e = .returned (.bool true) ∧ Below w.heap.size w w' := by
  have HN := Lib.hid (qf_new w w (Below.refl _ _) noB (no_noB w w) 2 1 2 1 (by omega) (by omega))
  go_enter Try.func7, Try.ntmps7
  go_wp2_with fail
  (with_reducible refine HN.out.mono ?_)
  rintro e w1 ⟨q, r, xs, rfl, F1, hmp, -⟩
  obtain ⟨a, b, rfl⟩ := two_new hmp
  have L0 := Lib.hid (line_in w1 q r _ F1.qm 0 0 rfl ⟨a, [0]⟩ rfl)
  have L2 := Lib.hid (line_out w1 q r _ F1.qm 2 rfl 2 (by omega))
  have HA : Hid (Calls Try.prog 20 #[pB a, .int .u8 5] w1 fun e w' => e = .returned (.int .i64 0) ∧ LM w' a 2 [0, 5] ∧ w1.grownBy w' (some a)) := add_ok w1 a 1 [0] (F1.qm.line 0 ⟨a, [0]⟩ rfl).1 rfl (by omega) 5
  have HF1 := Lib.hid F1
  clear HN hmp F1
  go_wp2_with (first
    | (go_at_call 17; with_reducible refine L0.out.mono ?_; rintro e w3 ⟨rfl, rfl⟩)
    | (go_at_call 17; with_reducible refine L2.out.mono ?_; rintro e w3 ⟨rfl, rfl⟩))
  (with_reducible refine HA.out.mono ?_)
  rintro e w2 ⟨rfl, hm, hg⟩
  obtain ⟨F2, -⟩ := HF1.out.put 0 ⟨a, [0]⟩ rfl [0, 5] 2 rfl hm (by omega) hg
  have HJ := Lib.hid (joint_in w2 q r _ F2.qm 2 rfl (by omega) (by omega) 1 (by rfl) 0 0 rfl (by omega))
  have HF2 := Lib.hid F2
  clear L0 L2 HA HF1 hm hg F2
  go_wp2_with fail
  (with_reducible refine HJ.out.mono ?_)
  rintro e w3 ⟨rfl, o3, b3⟩
  have F3 := HF2.out.belows b3
  have HJ2 := Lib.hid (joint_out w3 q r _ F3.qm (by show 0 < 2; omega) (by show 2 ≤ 8; omega) 1 (by rfl) 1 (by omega))
  have HK := Lib.hid (known_any w3 q r _ F3.qm 2 rfl (by omega) 1)
  have O3 := Lib.hid o3; have HF3 := Lib.hid F3
  clear HJ HF2 o3 b3 F3
  go_wp2_with (go_at_call 14; with_reducible refine HJ2.out.mono ?_; rintro e w4 ⟨rfl, rfl⟩)
  (with_reducible refine HK.out.mono ?_)
  rintro e w4 ⟨v, rfl, o4, b4⟩
  have F4 := HF3.out.belows b4
  obtain ⟨A4, c4, rfl, hc4, hk4⟩ := o4.form 2 rfl
  obtain ⟨g, rfl, -, k0⟩ := hk4 0 (by show 0 < 2; omega)
  obtain ⟨g', hg', -, k1⟩ := hk4 1 (by show 1 < 2; omega)
  obtain rfl : g' = g := by injection hg' with e; injection e with e; exact e.symm
  have k0' : w4.cell? ⟨g', 0, none⟩ = some (.bool true) := k0
  have k1' : w4.cell? ⟨g', 1, none⟩ = some (.bool false) := k1
  have hs4 : (convert 29 9 (.slice (some ⟨w2.heap.size, 0, none⟩) 2 2)).run Try.prog w4 = .ok (.string ⟨#[0, 0]⟩) w4 := conv_rb (O3.out.cells.below b4) 2 2 rfl
  have HNN := Lib.hid (qn_any w4 q r _ F4.qm 2 rfl)
  have HFF := Lib.hid (front_any w4 q r _ F4.qm (by show 0 < 2; omega) (by show 2 ≤ 8; omega) 1 (by rfl))
  have B4 := Lib.hid F4.be
  clear HJ2 HK O3 HF3 o4 b4 F4 hk4 k0 k1 hg'
  go_wp2_with (first
    | (go_at_call 13; with_reducible refine HNN.out.mono ?_; rintro e w5 ⟨rfl, rfl⟩)
    | (go_at_call 12; with_reducible refine HFF.out.mono ?_; rintro e w5 ⟨rfl, rfl⟩))
  go_ret
  exact ⟨rfl, B4.out⟩
set_option maxHeartbeats 4000000 in
theorem none_law (w : World) : Calls Try.prog 4 #[] w fun e w' => e = .returned (.bool true) ∧ Below w.heap.size w w' := by
  have HJ := Lib.hid (joint_nil w 0)
  have HG := Lib.hid (begun17_any w)
  have HN := Lib.hid qn_nil
  have HL := Lib.hid (fun W => line_nil W 0)
  have HF := Lib.hid front_nil
  have HK := Lib.hid (fun W => known_nil W 0)
  go_enter Try.func4, Try.ntmps4
  go_wp2_with (first
    | (go_at_call 14; with_reducible refine HJ.out.mono ?_; rintro e w3 ⟨rfl, rfl⟩)
    | (go_at_call 7; with_reducible refine HG.out.mono ?_; rintro e w3 ⟨rfl, B⟩; have BB := Lib.hid B; clear B)
    | (go_at_call 13; with_reducible refine (HN.out _).mono ?_; rintro e w4 ⟨rfl, rfl⟩)
    | (go_at_call 17; with_reducible refine (HL.out _).mono ?_; rintro e w4 ⟨rfl, rfl⟩)
    | (go_at_call 12; with_reducible refine (HF.out _).mono ?_; rintro e w4 ⟨rfl, rfl⟩)
    | (go_at_call 16; with_reducible refine (HK.out _).mono ?_; rintro e w4 ⟨rfl, rfl⟩))
  go_ret
  exact ⟨rfl, BB.out⟩
end Go.Proofs.Ytbcnaklbbaoihaa
