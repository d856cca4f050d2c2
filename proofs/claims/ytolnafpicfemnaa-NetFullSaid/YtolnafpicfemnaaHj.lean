/- WALK of the law NetFull: bytes in a mail. -/
import Derived.Test.YtolnafpicfemnaaHi
namespace Go.Proofs.Ytolnafpicfemnaa
set_option maxRecDepth 100000
open Go.RowKit
set_option linter.unusedVariables false
set_option linter.unusedSimpArgs false

set_option maxHeartbeats 4000000 in
theorem full_in (K Z : Nat) (w : World) (hK : K ≤ 320) (hZ : Z ≤ 1100) (h0 : 0 < Z) (h1 : Z ≤ 1000) :
    Calls Try.prog 4 #[.int .i64 K, .int .i64 Z] w fun e w' => e = .returned (.bool true) ∧ Below w.heap.size w w' := by
  have zz0 : (0 : Int) < Z := by omega
  have zz1 : (Z : Int) ≤ 1000 := by omega
  have HG := Lib.hid (begun16_any w)
  have hmk := make_b Z (by omega)
  obtain ⟨M, hM⟩ : ∃ M, min K 300 = M := ⟨_, rfl⟩
  have eM : min (K : Int) 300 = (M : Int) := by omega
  have HMm := Lib.hid hM
  clear hM
  go_enter Try.func4, Try.ntmps4
  go_wp2_with fail
  (with_reducible refine HG.out.mono ?_)
  rintro e w1 ⟨rfl, b1⟩
  have HNw := Lib.hid (nf_new w w1 b1 noB (no_noB w w1))
  clear HG b1
  go_wp2_with fail
  (with_reducible refine HNw.out.mono ?_)
  rintro e w2 ⟨rfl, F2, -⟩
  have HF2 := Lib.hid F2
  clear HNw F2
  go_wp2_with fail
  go_loopw [7] (fun i wr => ∃ (a : Nat) (ps : List Pm), i = .int .i64 a ∧ a ≤ K ∧ Hid (ps.length = min a 300) ∧ Hid (NF w wr w1.heap.size ps noB)) (fun i _ => K - (intOf i).toNat)
  case atStart => exact ⟨0, [], rfl, by omega, rfl, HF2⟩
  case round =>
    clear HF2
    obtain ⟨a, ps, rfl, ha, HPS, HFr⟩ := hrel
    by_cases hlt : a < K
    · have zlt : (a : Int) < K := by omega
      by_cases h3 : a < 300
      · have z3 : (a : Int) < 300 := by omega
        have HS := Lib.hid (nf_send HFr.out 1 a none 0 0 [] (RB.nil _ _ _) rfl (by rw [HPS.out]; omega) (by omega))
        clear HFr
        go_wp2_with fail
        (with_reducible refine HS.out.mono ?_)
        rintro e w3 ⟨rfl, F3, -⟩
        have HF3 := Lib.hid F3
        clear F3 HS
        go_wp2
        go_roundw
        case rel => exact ⟨a + 1, ps ++ [⟨1, a, []⟩], by go_num, by omega, by (show _ = _); rw [List.length_append, HPS.out]; simp; omega, HF3⟩
        case measure => simp [intOf]; omega
      · have z3 : ¬ (a : Int) < 300 := by omega
        have HS := Lib.hid (nf_sendno HFr.out 1 a none 0 0 (.inl (by rw [HPS.out]; omega)) (Nat.le_refl _) (by unfold maxLen; omega))
        go_wp2_with fail
        (with_reducible refine HS.out.mono ?_)
        rintro e w3 ⟨rfl, b3⟩
        have HF3 := Lib.hid (HFr.out.belows b3)
        clear b3 HS HFr
        go_wp2
        go_roundw
        case rel => exact ⟨a + 1, ps, by go_num, by omega, by (show _ = _); rw [HPS.out]; omega, HF3⟩
        case measure => simp [intOf]; omega
    · obtain rfl : a = K := by omega
      obtain ⟨v1, ms1, N1, hps, q1, h4, -⟩ := HFr.out
      have hml : ms1.length = M := by rw [← HMm.out, ← HPS.out, ← hps, List.length_map]
      have HML := Lib.hid hml
      have HNw := Lib.hid (nf_new w wr q1 (NB w1.heap.size v1 ms1) (fun k hk => ⟨(h4 k hk).1, N1.lt hk⟩))
      have HN1 := Lib.hid N1
      clear N1 hps q1 h4 hml HFr HPS
      go_wp2_with fail
      (with_reducible refine HNw.out.mono ?_)
      rintro e w6 ⟨rfl, F6, b6⟩
      have bA : Below w6.heap.size w6 (w6.alloc (madeB Z)) := (Below.refl _ _).alloc (Nat.le_refl _) _
      have N7 := Lib.hid ((HN1.out.belows b6).belows bA)
      have HL6 : Hid (wr.heap.size ≤ w6.heap.size) := b6.size
      have HX6 : Hid (¬ NB w1.heap.size v1 ms1 w6.heap.size) := fun e => by have := HN1.out.lt e; have := HL6.out; omega
      have F7 : NF w (w6.alloc (madeB Z)) wr.heap.size [] (fun k => NB w1.heap.size v1 ms1 k ∨ k = w6.heap.size) := F6.add bA (fun k hk => by
        rcases hk with hk | rfl
        · exact .inl hk
        · exact .inr ⟨Nat.le_refl _, by simp⟩)
      have HS := Lib.hid (nf_send F7 0 0 (some ⟨w6.heap.size, 0, none⟩) Z Z (zB Z) (rb_zeros w6 Z _ (by simp)) (zB_len Z) (by simp) (by omega))
      clear HNw F6 b6 bA F7 HN1
      go_wp2_with fail
      (with_reducible refine HS.out.mono ?_)
      rintro e w8 ⟨rfl, F8, S8⟩
      have F8 : NF w w8 wr.heap.size [⟨0, 0, zB Z⟩] (fun k => NB w1.heap.size v1 ms1 k ∨ k = w6.heap.size) := F8
      have N8 := Lib.hid (N7.out.keep S8 (fun k hk => .inl hk))
      have X8 := S8 w6.heap.size (.inr rfl)
      obtain ⟨x0, fx⟩ := made_cell w6 w8 Z h0 X8
      have g9 := grown_set w8 ⟨w6.heap.size, 0, none⟩ (.int .u8 9)
      have F9 := F8.wrote g9 (.inr rfl)
      have N9 := Lib.hid (N8.out.far g9 HX6.out)
      have HL := Lib.hid (nf_look F9 (by simp) 0 0 rfl ⟨0, 0, zB Z⟩ rfl Z (zB_len Z))
      have HF9 := Lib.hid F9
      clear F8 S8 X8 HS N7 N8 g9 F9
      go_wp2_with fail
      (with_reducible refine HL.out.mono ?_)
      rintro e w10 ⟨A10, c10, rfl, o10, b10⟩
      obtain ⟨g10, c10', e10, -⟩ := o10.some_ (by show 0 < (zB Z).length; rw [zB_len]; omega)
      injection e10 with e10 e11 e12
      subst e10
      have HO10 := Lib.hid o10; have HB10 := Lib.hid b10
      clear HL o10 b10 e11 e12 x0 fx
      go_wp2_with (first
        | (refine wpList_store_ml rfl (.tmp 11) (.tmp 59) rfl w10.heap.size (by rfl) (MlM.new w10 0 0 none 0 0) (by rfl) ?_; intro w11 p11 t11 g11
           obtain ⟨F11, b11, o11, e11⟩ := NF.laid HF9.out HB10.out w10.heap.size rfl 0 0 (some ⟨g10, 0, none⟩) Z c10 (zB Z) HO10.out g11
           obtain ⟨y0, y1, y2⟩ := p11.c
           obtain ⟨z0, fz⟩ := o11.zero h0
           have N11 := Lib.hid (N9.out.belows b11)
           have HG10 := Lib.hid (o11.lt g10 rfl)
           have HF11 := Lib.hid F11
           clear p11 t11 g11 b11 o11 e11 F11))
      have g12 := grown_set w11 ⟨g10, 0, none⟩ (.int .u8 8)
      have F12 := HF11.out.wrote g12 (.inr (.inr rfl))
      have N12 := Lib.hid (N11.out.far g12 (fun e => by have h : g10 < _ := N9.out.lt e; have := HG10.out.1; omega))
      have HT := Lib.hid (nf_take F12 (by simp) 0 0 rfl ⟨0, 0, zB Z⟩ rfl Z (zB_len Z))
      clear g12 F12 HF9 HO10 HB10
      (with_reducible refine HT.out.mono ?_)
      rintro e w13 ⟨A13, c13, rfl, o13, F13, S13⟩
      obtain ⟨g13, c13', e13, -⟩ := o13.some_ (by show 0 < (zB Z).length; rw [zB_len]; omega)
      injection e13 with e13 e14 e15
      subst e13
      have N13 := Lib.hid (N12.out.keep S13 (fun k hk => .inl (.inl hk)))
      have HO13 := Lib.hid o13
      have HB13 := Lib.hid F13.be
      clear HT o13 F13 S13 e14 e15 y0 y1 y2 z0 fz N12 N11 HG10 HF11 N9
      go_wp2_with (first
        | (refine wpList_store_ml rfl (.tmp 13) (.tmp 83) rfl w13.heap.size (by rfl) (MlM.new w13 0 0 none 0 0) (by rfl) ?_; intro w14 p14 t14 g14
           have b14 : Below w13.heap.size w13 w14 := below_own ((Below.refl _ _).alloc (Nat.le_refl _) _) g14 (Nat.le_refl _)
           obtain ⟨y0, y1, y2⟩ := p14.c
           obtain ⟨z0, fz⟩ := (HO13.out.below b14 (Nat.le_refl _)).zero h0
           have HLn := Lib.hid (nlen_any w14 w1.heap.size v1 ms1 (N13.out.belows b14) M HML.out)
           have HBE := Lib.hid (HB13.out.trans (b14.mono HB13.out.size))
           clear p14 t14 g14 b14)
        | (go_at_call 17; with_reducible refine HLn.out.mono ?_; rintro e w15 ⟨rfl, rfl⟩))
      all_goals
        go_ret
        exact ⟨rfl, HBE.out⟩
end Go.Proofs.Ytolnafpicfemnaa
