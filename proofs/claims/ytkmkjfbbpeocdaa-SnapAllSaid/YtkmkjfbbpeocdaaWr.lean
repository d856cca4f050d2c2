/- WALK: SnapFull. -/
import Derived.Test.YtkmkjfbbpeocdaaWp
namespace Go.Proofs.Ytkmkjfbbpeocdaa
set_option maxRecDepth 100000
open Go.RowKit Go.Maps
set_option linter.unusedVariables false
set_option linter.unusedSimpArgs false

/-- a place of a game: the place's number goes round -/
theorem mod32 (z : Int) (h0 : -9223372036854775808 ≤ z) (h1 : z ≤ 9223372036854775807) : ∃ n : Nat, n < 32 ∧ (z.tmod 32 + 32).tmod 32 = (n : Int) ∧ -32 < z.tmod 32 ∧ z.tmod 32 < 32 := by
  have e1 : -32 < z.tmod 32 := by have := Int.lt_tmod_of_pos z (show (0 : Int) < 32 by omega); omega
  have e2 : z.tmod 32 < 32 := Int.tmod_lt_of_pos z (by omega)
  have e3 : (z.tmod 32 + 32).tmod 32 = (z.tmod 32 + 32) % 32 := Int.tmod_eq_emod_of_nonneg (by omega)
  refine ⟨((z.tmod 32 + 32) % 32).toNat, by omega, ?_, e1, e2⟩
  rw [e3]; omega
set_option maxHeartbeats 4000000 in
theorem full_law (v z : Int) (w : World) (z0 : -9223372036854775808 ≤ z) (z1 : z ≤ 9223372036854775807) :
    Calls Try.prog 9 #[.int .i32 v, .int .i64 z] w fun e w' => e = .returned (.bool true) ∧ Below w.heap.size w w' := by
  obtain ⟨n, hn, hm, hm1, hm2⟩ := mod32 z z0 z1
  have HBg := Lib.hid (begun11_any w)
  have HNew := Lib.hid (fun W => t_new 1 (by omega) 1 rfl W 4 rfl)
  have HOf := Lib.hid (of_lit1 1)
  have HOn := Lib.hid of_nil
  obtain ⟨g, hg⟩ : ∃ g, g = ofL [1] := ⟨_, rfl⟩
  rw [← hg] at HOf
  have hgl := Lib.hid (show g.length = 32 by rw [hg]; exact ofL_length _)
  have hgs := Lib.hid (show (g.set n v).length = 32 by rw [List.length_set]; exact hgl.out)
  have hgv : Hid ((g.set n v)[n]? = some v) := List.getElem?_set_self (by rw [hgl.out]; exact hn)
  have hg9 : Hid (((g.set n v).set n 9)[n]? = some 9) := List.getElem?_set_self (by rw [hgs.out]; exact hn)
  clear hg
  have hnc : (n : Int) < 32 := by omega
  go_enter Try.func9, Try.ntmps9
  go_wp2_with (first
    | (go_at_call 11; with_reducible refine HBg.out.mono ?_; rintro e wa ⟨rfl, hb⟩; have HB0 := Lib.hid hb; clear hb)
    | (go_at_call 12; with_reducible refine (HNew.out _).mono ?_; rintro e w1 ⟨S, P, A, M, rfl, E⟩; have HE := Lib.hid E; clear E)
    | (go_at_call 15; with_reducible refine (HOf.out _).mono ?_; rintro e w2 ⟨rfl, hb⟩; replace HE := Lib.hid (HE.out.belows hb); clear hb)
    | (go_at_call 16; with_reducible refine (t_make1 HE.out (by omega) g hgl.out).mono ?_; rintro e w3 ⟨rfl, E⟩; have HO := Lib.hid E; clear E HE)
    | (go_at_call 15; with_reducible refine (HOn.out _).mono ?_; rintro e w2 ⟨rfl, hb⟩; replace HO := Lib.hid (HO.out.belows hb); clear hb)
    | (go_at_call 16; with_reducible refine (t_makeno1 HO.out (zG 32)).mono ?_; rintro e w3 ⟨rfl, E⟩; replace HO := Lib.hid E; clear E)
    | (go_at_call 18; with_reducible refine (t_set1 HO.out (by omega) _ n rfl hn _).mono ?_; rintro e w5 ⟨rfl, E⟩; have HO2 := Lib.hid E; clear E HO)
    | (go_at_call 17; with_reducible refine (t_fork1 HO2.out).mono ?_; rintro e w4 ⟨rfl, E⟩; have HT := Lib.hid E; clear E HO2)
    | (go_at_call 18; with_reducible refine (t_set2full HT.out 2 (.inr rfl) _ n rfl hn _).mono ?_; rintro e w5 ⟨rfl, E⟩; replace HT := Lib.hid E; clear E)
    | (go_at_call 18; with_reducible refine (t_set2full HT.out 1 (.inl rfl) _ n rfl hn _).mono ?_; rintro e w5 ⟨rfl, E⟩; replace HT := Lib.hid E; clear E)
    | (go_at_call 23; with_reducible refine (t_get2 HT.out 1 (g.set n v) (.inl ⟨rfl, rfl⟩) _ n rfl hn v hgv.out).mono ?_; rintro e w6 ⟨rfl, E⟩; replace HT := Lib.hid E; clear E)
    | (go_at_call 23; with_reducible refine (t_get2 HT.out 2 (g.set n v) (.inr ⟨rfl, rfl⟩) _ n rfl hn v hgv.out).mono ?_; rintro e w6 ⟨rfl, E⟩; replace HT := Lib.hid E; clear E)
    | (go_at_call 20; with_reducible refine (t_drop2 HT.out 1 2 (g.set n v) (.inl ⟨rfl, rfl, rfl⟩)).mono ?_; rintro e w8 ⟨rfl, E⟩; have HL := Lib.hid E; clear E HT)
    | (go_at_call 18; with_reducible refine (t_setL HL.out _ n rfl hn _).mono ?_; rintro e w5 ⟨rfl, E⟩; have HL2 := Lib.hid E; clear E HL)
    | (go_at_call 23; with_reducible refine (t_getL HL2.out _ n rfl hn 9 hg9.out).mono ?_; rintro e w6 ⟨rfl, E⟩; replace HL2 := Lib.hid E; clear E)
    | (go_at_call 21; with_reducible refine (t_roomL HL2.out).mono ?_; rintro e w9 ⟨rfl, E⟩; replace HL2 := Lib.hid E; clear E)
    | (go_at_call 22; with_reducible refine (t_usedL HL2.out).mono ?_; rintro e w9 ⟨rfl, E⟩; replace HL2 := Lib.hid E; clear E))
  go_ret
  exact ⟨rfl, HB0.out.trans (HL2.out.be.mono HB0.out.size)⟩
end Go.Proofs.Ytkmkjfbbpeocdaa
