/- WALK of the law NetFull: too many bytes. -/
import Derived.Test.YtolnafpicfemnaaHi
namespace Go.Proofs.Ytolnafpicfemnaa
set_option maxRecDepth 100000
open Go.RowKit
set_option linter.unusedVariables false
set_option linter.unusedSimpArgs false

set_option maxHeartbeats 4000000 in
theorem full_long (K Z : Nat) (w : World) (hK : K ≤ 320) (hZ : Z ≤ 1100) (h1 : 1000 < Z) :
    Calls Try.prog 4 #[.int .i64 K, .int .i64 Z] w fun e w' => e = .returned (.bool true) ∧ Below w.heap.size w w' := by
  have zz0 : (0 : Int) < Z := by omega
  have zz1 : ¬ (Z : Int) ≤ 1000 := by omega
  have HG := Lib.hid (begun16_any w)
  have hmk := make_b Z (by omega)
  obtain ⟨M, hM⟩ : ∃ M, min K 300 = M := ⟨_, rfl⟩
  have eM : min (K : Int) 300 = (M : Int) := by omega
  have HMm := Lib.hid hM
  clear hM
  go_enter Try.func4, Try.ntmps4
  go_wp2_with fail
  (with_reducible refine HG.out.mono ?_)
  rintro e w1 ⟨rfl, b1⟩
  have HNw := Lib.hid (nf_new w w1 b1 noB (no_noB w w1))
  clear HG b1
  go_wp2_with fail
  (with_reducible refine HNw.out.mono ?_)
  rintro e w2 ⟨rfl, F2, -⟩
  have HF2 := Lib.hid F2
  clear HNw F2
  go_wp2_with fail
  go_loopw [7] (fun i wr => ∃ (a : Nat) (ps : List Pm), i = .int .i64 a ∧ a ≤ K ∧ Hid (ps.length = min a 300) ∧ Hid (NF w wr w1.heap.size ps noB)) (fun i _ => K - (intOf i).toNat)
  case atStart => exact ⟨0, [], rfl, by omega, rfl, HF2⟩
  case round =>
    clear HF2
    obtain ⟨a, ps, rfl, ha, HPS, HFr⟩ := hrel
    by_cases hlt : a < K
    · have zlt : (a : Int) < K := by omega
      by_cases h3 : a < 300
      · have z3 : (a : Int) < 300 := by omega
        have HS := Lib.hid (nf_send HFr.out 1 a none 0 0 [] (RB.nil _ _ _) rfl (by rw [HPS.out]; omega) (by omega))
        clear HFr
        go_wp2_with fail
        (with_reducible refine HS.out.mono ?_)
        rintro e w3 ⟨rfl, F3, -⟩
        have HF3 := Lib.hid F3
        clear F3 HS
        go_wp2
        go_roundw
        case rel => exact ⟨a + 1, ps ++ [⟨1, a, []⟩], by go_num, by omega, by (show _ = _); rw [List.length_append, HPS.out]; simp; omega, HF3⟩
        case measure => simp [intOf]; omega
      · have z3 : ¬ (a : Int) < 300 := by omega
        have HS := Lib.hid (nf_sendno HFr.out 1 a none 0 0 (.inl (by rw [HPS.out]; omega)) (Nat.le_refl _) (by unfold maxLen; omega))
        go_wp2_with fail
        (with_reducible refine HS.out.mono ?_)
        rintro e w3 ⟨rfl, b3⟩
        have HF3 := Lib.hid (HFr.out.belows b3)
        clear b3 HS HFr
        go_wp2
        go_roundw
        case rel => exact ⟨a + 1, ps, by go_num, by omega, by (show _ = _); rw [HPS.out]; omega, HF3⟩
        case measure => simp [intOf]; omega
    · obtain rfl : a = K := by omega
      obtain ⟨v1, ms1, N1, hps, q1, h4, -⟩ := HFr.out
      have hml : ms1.length = M := by rw [← HMm.out, ← HPS.out, ← hps, List.length_map]
      have HML := Lib.hid hml
      have HNw := Lib.hid (nf_new w wr q1 (NB w1.heap.size v1 ms1) (fun k hk => ⟨(h4 k hk).1, N1.lt hk⟩))
      have HN1 := Lib.hid N1
      clear N1 hps q1 h4 hml HFr HPS
      go_wp2_with fail
      (with_reducible refine HNw.out.mono ?_)
      rintro e w6 ⟨rfl, F6, b6⟩
      have bA : Below w6.heap.size w6 (w6.alloc (madeB Z)) := (Below.refl _ _).alloc (Nat.le_refl _) _
      have N7 := Lib.hid ((HN1.out.belows b6).belows bA)
      have HL6 : Hid (wr.heap.size ≤ w6.heap.size) := b6.size
      have HX6 : Hid (¬ NB w1.heap.size v1 ms1 w6.heap.size) := fun e => by have := HN1.out.lt e; have := HL6.out; omega
      have F7 : NF w (w6.alloc (madeB Z)) wr.heap.size [] (fun k => NB w1.heap.size v1 ms1 k ∨ k = w6.heap.size) := F6.add bA (fun k hk => by
        rcases hk with hk | rfl
        · exact .inl hk
        · exact .inr ⟨Nat.le_refl _, by simp⟩)
      have HS := Lib.hid (nf_sendno F7 0 0 (some ⟨w6.heap.size, 0, none⟩) Z Z (.inr h1) (Nat.le_refl _) (by unfold maxLen; omega))
      have HF7 := Lib.hid F7
      clear HNw F6 b6 bA F7 HN1
      go_wp2_with fail
      (with_reducible refine HS.out.mono ?_)
      rintro e w8 ⟨rfl, b8⟩
      have F8 := HF7.out.belows b8
      have N8 := Lib.hid (N7.out.belows b8)
      obtain ⟨x0, fx⟩ := made_cell w6 w8 Z (by omega) (b8.block _ (by simp))
      have g9 := grown_set w8 ⟨w6.heap.size, 0, none⟩ (.int .u8 9)
      have F9 := F8.wrote g9 (.inr rfl)
      have N9 := Lib.hid (N8.out.far g9 HX6.out)
      have HL := Lib.hid (nf_lookno F9 0 (by simp))
      have HF9 := Lib.hid F9
      clear F8 HS N7 N8 g9 F9 b8 HF7
      go_wp2_with fail
      (with_reducible refine HL.out.mono ?_)
      rintro e w10 ⟨rfl, b10⟩
      have N10 := Lib.hid (N9.out.belows b10)
      have HF10 := Lib.hid (HF9.out.belows b10)
      clear HL b10 x0 fx N9 HF9
      go_wp2_with fail
      have b11 : Below w10.heap.size w10 (w10.alloc (mlO 0 0 none 0 0)) := (Below.refl _ _).alloc (Nat.le_refl _) _
      have N11 := Lib.hid (N10.out.belows b11)
      have HF11 := Lib.hid (HF10.out.belows b11)
      have HT := Lib.hid (nf_takeno HF11.out 0 (by simp))
      clear b11
      (with_reducible refine HT.out.mono ?_)
      rintro e w13 ⟨rfl, b13⟩
      have N13 := Lib.hid (N11.out.belows b13)
      have HB13 := Lib.hid (HF11.out.belows b13).be
      clear b13 HT N11 HF11
      go_wp2_with fail
      have b14 : Below w13.heap.size w13 (w13.alloc (mlO 0 0 none 0 0)) := (Below.refl _ _).alloc (Nat.le_refl _) _
      have HLn := Lib.hid (nlen_any (w13.alloc (mlO 0 0 none 0 0)) w1.heap.size v1 ms1 (N13.out.belows b14) M HML.out)
      have HBE := Lib.hid (HB13.out.trans (b14.mono HB13.out.size))
      clear b14
      (with_reducible refine HLn.out.mono ?_)
      rintro e w15 ⟨rfl, rfl⟩
      go_wp2
      all_goals
        go_ret
        exact ⟨by simp <;> omega, HBE.out⟩
end Go.Proofs.Ytolnafpicfemnaa
