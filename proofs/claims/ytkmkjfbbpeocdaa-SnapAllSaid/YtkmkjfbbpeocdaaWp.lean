/- WALK: begun of the laws of layer 11; SnapNone; SnapFull. -/
import Derived.Test.YtkmkjfbbpeocdaaWo
import Derived.Test.YtkmkjfbbpeocdaaGb
namespace Go.Proofs.Ytkmkjfbbpeocdaa
set_option maxRecDepth 100000
open Go.RowKit Go.Maps
set_option linter.unusedVariables false
set_option linter.unusedSimpArgs false

theorem lit_rg (w : World) (l : List Int) (t : TypeId) : RG (w.alloc (.cells (gC l) t)) (w.alloc (.cells (gC l) t)).heap.size (some ⟨w.heap.size, 0, none⟩) l := fun _ => by
  refine ⟨w.heap.size, 0, rfl, by simp, fun j hj => ?_⟩
  rw [Nat.zero_add]
  exact (GA.new w t l).cell j hj
theorem of_lit2 (a b : Int) (w : World) :
    Calls Try.prog 15 #[.slice (some ⟨w.heap.size, 0, none⟩) 2 2] (w.alloc (.cells #[.int .i32 a, .int .i32 b] 21)) fun e w' => e = .returned (.agg (gC (ofL [a, b]))) ∧ Below w.heap.size w w' := by
  refine (of_any (some ⟨w.heap.size, 0, none⟩) [a, b] 2 _ (lit_rg w [a, b] 21) (by simp) (by unfold maxLen; omega)).mono fun e w' ⟨he, hb⟩ => ⟨he, ?_⟩
  exact ((Below.refl _ w).alloc (Nat.le_refl _) _).trans (hb.mono (by simp))
theorem of_lit1 (a : Int) (w : World) :
    Calls Try.prog 15 #[.slice (some ⟨w.heap.size, 0, none⟩) 1 1] (w.alloc (.cells #[.int .i32 a] 21)) fun e w' => e = .returned (.agg (gC (ofL [a]))) ∧ Below w.heap.size w w' := by
  refine (of_any (some ⟨w.heap.size, 0, none⟩) [a] 1 _ (lit_rg w [a] 21) (by simp) (by unfold maxLen; omega)).mono fun e w' ⟨he, hb⟩ => ⟨he, ?_⟩
  exact ((Below.refl _ w).alloc (Nat.le_refl _) _).trans (hb.mono (by simp))
theorem of_nil (w : World) :
    Calls Try.prog 15 #[.slice none 0 0] w fun e w' => e = .returned (.agg (gC (zG 32))) ∧ Below w.heap.size w w' := by
  have := of_any none [] 0 w (fun h => absurd h (by simp)) (by simp) (by unfold maxLen; omega)
  rw [ofL_nil] at this
  exact this
theorem ofL_at0 (a : Int) (r : List Int) : (ofL (a :: r))[0]? = some a := by unfold ofL; simp
set_option maxHeartbeats 4000000 in
theorem begun11_any (w : World) : Calls Try.prog 11 #[] w fun e w' => e = .returned (.bool true) ∧ Below w.heap.size w w' := by
  have HN := Lib.hid (t_new 2 (by omega) 2 rfl w 8 rfl)
  have HOf := Lib.hid (of_lit2 1 2)
  obtain ⟨g, hg⟩ : ∃ g, g = ofL [1, 2] := ⟨_, rfl⟩
  rw [← hg] at HOf
  have hgl := Lib.hid (show g.length = 32 by rw [hg]; exact ofL_length _)
  have hg0 := Lib.hid (show g[0]? = some 1 by rw [hg]; exact ofL_at0 _ _)
  have hg9 : Hid ((g.set 0 9)[0]? = some 9) := List.getElem?_set_self (by rw [hgl.out]; omega)
  clear hg
  go_enter Try.func11, Try.ntmps11
  go_wp2_with (first
    | (go_at_call 12; with_reducible refine HN.out.mono ?_; rintro e w1 ⟨S, P, A, M, rfl, E⟩; have HE := Lib.hid E; clear E)
    | (go_at_call 15; with_reducible refine (HOf.out _).mono ?_; rintro e w2 ⟨rfl, hb⟩; have HE2 := Lib.hid (HE.out.belows hb); clear hb)
    | (go_at_call 16; with_reducible refine (t_make1 HE2.out (by omega) g hgl.out).mono ?_; rintro e w3 ⟨rfl, E⟩; have HO := Lib.hid E; clear E)
    | (go_at_call 17; with_reducible refine (t_fork1 HO.out).mono ?_; rintro e w4 ⟨rfl, E⟩; have HT := Lib.hid E; clear E)
    | (go_at_call 18; with_reducible refine (t_set2first HT.out (by omega) 0 0 rfl (by omega) 9).mono ?_; rintro e w5 ⟨rfl, E⟩; have HW := Lib.hid E; clear E HT)
    | (go_at_call 23; with_reducible refine (t_get2 HW.out 1 g (.inl ⟨rfl, rfl⟩) 0 0 rfl (by omega) 1 hg0.out).mono ?_; rintro e w6 ⟨rfl, E⟩; replace HW := Lib.hid E; clear E)
    | (go_at_call 23; with_reducible refine (t_get2 HW.out 2 (g.set 0 9) (.inr ⟨rfl, rfl⟩) 0 0 rfl (by omega) 9 hg9.out).mono ?_; rintro e w6 ⟨rfl, E⟩; replace HW := Lib.hid E; clear E)
    | (go_at_call 25; with_reducible refine (t_live2 HW.out).mono ?_; rintro e w7 ⟨gg, cap, rfl, E⟩; replace HW := Lib.hid E; clear E)
    | (go_at_call 21; with_reducible refine (t_room2 HW.out).mono ?_; rintro e w7 ⟨rfl, E⟩; replace HW := Lib.hid E; clear E)
    | (go_at_call 22; with_reducible refine (t_used2 HW.out 5 rfl).mono ?_; rintro e w7 ⟨rfl, E⟩; replace HW := Lib.hid E; clear E)
    | (go_at_call 26; with_reducible refine (t_refs2 HW.out).mono ?_; rintro e w7 ⟨rfl, E⟩; replace HW := Lib.hid E; clear E)
    | (go_at_call 27; with_reducible refine (t_pages2 HW.out).mono ?_; rintro e w7 ⟨gp, capp, rfl, E⟩; replace HW := Lib.hid E; clear E)
    | (go_at_call 28; with_reducible refine (t_has2 HW.out 3 (by omega) true rfl).mono ?_; rintro e w7 ⟨rfl, E⟩; replace HW := Lib.hid E; clear E)
    | (go_at_call 28; with_reducible refine (t_has2 HW.out 4 (by omega) false rfl).mono ?_; rintro e w7 ⟨rfl, E⟩; replace HW := Lib.hid E; clear E)
    | (go_at_call 20; with_reducible refine (t_drop2 HW.out 2 1 g (.inr ⟨rfl, rfl, rfl⟩)).mono ?_; rintro e w8 ⟨rfl, E⟩; have HL := Lib.hid E; clear E HW)
    | (go_at_call 21; with_reducible refine (t_roomL HL.out).mono ?_; rintro e w9 ⟨rfl, E⟩; replace HL := Lib.hid E; clear E)
    | (go_at_call 22; with_reducible refine (t_usedL HL.out).mono ?_; rintro e w9 ⟨rfl, E⟩; replace HL := Lib.hid E; clear E))
  go_ret
  exact ⟨rfl, HL.out.be⟩
end Go.Proofs.Ytkmkjfbbpeocdaa
