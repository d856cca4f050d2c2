/- WALK of the law PageCopies. -/
import Derived.Test.YtfpoeilamfcmjaaBe
import Derived.Test.YtfpoeilamfcmjaaKj
namespace Go.Proofs.Ytfpoeilamfcmjaa
set_option maxRecDepth 100000
open Go.RowKit
set_option linter.unusedVariables false
set_option linter.unusedSimpArgs false

def cpF (l : List Int) (k : Nat) : Nat → Int := fun j => if j < k then l.getD j 0 else 0
theorem cpF_zero (l : List Int) : cpF l 0 = zN := by funext j; unfold cpF zN; rw [if_neg (by omega)]
theorem cpF_step (l : List Int) (k : Nat) (h : k < l.length) : shPut (cpF l k) k l[k] = cpF l (k + 1) := by
  funext j
  unfold shPut cpF
  by_cases e : j = k
  · subst e; rw [if_pos rfl, if_pos (by omega), List.getD_eq_getElem?_getD, List.getElem?_eq_getElem h]; rfl
  · rw [if_neg e]
    by_cases e2 : j < k
    · rw [if_pos e2, if_pos (by omega)]
    · rw [if_neg e2, if_neg (by omega)]
theorem cpF_end (l : List Int) (k : Nat) (hk : k = l.length ∨ k = 8) (j : Nat) (hj : j < 8) : cpF l k j = l.getD j 0 := by
  unfold cpF
  by_cases e : j < k
  · rw [if_pos e]
  · rw [if_neg e, List.getD_eq_getElem?_getD, List.getElem?_eq_none (by omega)]; rfl
theorem getD_in (l : List Int) (j : Nat) (h : j < l.length) : l.getD j 0 = l[j] := by rw [List.getD_eq_getElem?_getD, List.getElem?_eq_getElem h]; rfl
theorem getD_out (l : List Int) (j : Nat) (h : ¬ j < l.length) : l.getD j 0 = 0 := by rw [List.getD_eq_getElem?_getD, List.getElem?_eq_none (by omega)]; rfl
def cs1 (F : Nat → Int) : List Sh := [⟨1, F⟩, zS, zS, zS]
def cs2 (F G : Nat → Int) : List Sh := [⟨1, F⟩, ⟨1, G⟩, zS, zS]
theorem tm8 (x : Int) : -8 < x.tmod 8 ∧ x.tmod 8 < 8 := by
  have h1 := Int.tmod_lt_of_pos x (show (0 : Int) < 8 by omega)
  have h2 := Int.lt_tmod_of_pos x (show (0 : Int) < 8 by omega)
  omega
theorem tm8p (x : Int) (h : 0 ≤ x) : 0 ≤ x.tmod 8 := Int.tmod_nonneg 8 h
set_option maxHeartbeats 4000000 in
theorem copies_law (A0 : Option Addr) (l : List Int) (cap : Nat) (at0 v : Int) (w : World) (hr : RG w w.heap.size A0 l) (hc : l.length ≤ cap) (hm : cap ≤ maxLen) (n0 : -9223372036854775808 ≤ at0) (n1 : at0 ≤ 9223372036854775807) :
    Calls Try.prog 7 #[.slice A0 l.length cap, .int .i64 at0, .int .i32 v] w fun e w' => e = .returned (.bool true) ∧ Below w.heap.size w w' := by
  have HBg := Lib.hid begun10_any
  have HRG := Lib.hid hr; clear hr
  have hmx := hm
  unfold maxLen at hmx
  obtain ⟨x0, x1⟩ := tm8 at0
  obtain ⟨x, hx⟩ : ∃ x, at0.tmod 8 = x := ⟨_, rfl⟩
  rw [hx] at x0 x1
  obtain ⟨y0, y1⟩ := tm8 (x + 8)
  have y2 := tm8p (x + 8) (by omega)
  obtain ⟨y, hy⟩ : ∃ y, (x + 8).tmod 8 = y := ⟨_, rfl⟩
  rw [hy] at y0 y1 y2
  obtain ⟨a, ha⟩ : ∃ a : Nat, y = a := ⟨y.toNat, by omega⟩
  have ha8 : a < 8 := by omega
  have HA := Lib.hid ha; clear ha
  have HN : Hid (∀ w, Calls Try.prog 9 #[.int .i64 4] w fun e w' => ∃ P A, e = .returned (.pointer (some ⟨P, 0, none⟩)) ∧ w.heap.size ≤ A ∧ w.heap.size ≤ P ∧ RM w' P A (List.replicate 4 zS) ∧ Below w.heap.size w w') := fun w => new_any 4 4 (by omega) w
  have HT : Hid (∀ W P A, RM W P A (List.replicate 4 zS) → Calls Try.prog 10 #[.pointer (some ⟨P, 0, none⟩)] W fun e w' => e = .returned (.tuple #[.int .i64 1, .bool true]) ∧ Upd W w' P A (cs1 (cpF l 0))) := fun W P A R => take_hit W P A _ R 0 (by decide) rfl (fun j hj => by omega) 1 rfl _ (by rw [cpF_zero]; rfl)
  go_enter Try.func7, Try.ntmps7
  go_wp2_with (first
        | (go_at_call 8; with_reducible refine (HBg.out _).mono ?_; rintro e w0 ⟨rfl, B0⟩; have B := Lib.hid B0; clear B0)
        | (go_at_call 9; with_reducible refine (HN.out _).mono ?_; rintro e w1 ⟨P, A, rfl, hA0, hP0, R0, B0⟩; have hA : w.heap.size ≤ A := Nat.le_trans B.out.size hA0; have R := Lib.hid R0; replace B := Lib.hid (B.out.trans (B0.mono B.out.size)); clear R0 B0 hA0 hP0)
        | (go_at_call 10; with_reducible refine (HT.out _ P A R.out).mono ?_; rintro e w1 ⟨rfl, U⟩; replace R := Lib.hid U.rm; replace B := Lib.hid (B.out.grown U.gr B.out.size (fun k e => by have := Option.some.inj e; omega)); clear U))
  go_loopw [11] (fun i wr => ∃ k : Nat, i = .int .i64 k ∧ k ≤ l.length ∧ k ≤ 8 ∧ Hid (RM wr P A (cs1 (cpF l k))) ∧ Hid (Below w.heap.size w wr)) (fun i _ => 8 - (intOf i).toNat)
  case atStart => exact ⟨0, rfl, by omega, by omega, R, B⟩
  case round =>
    obtain ⟨k, rfl, hk, hk8, R2, B2⟩ := hrel
    clear R B; have R := R2; have B := B2; clear R2 B2
    by_cases hlt : k < 8 ∧ k < l.length
    · obtain ⟨h8, hlt⟩ := hlt
      have hkc : (k : Int) < (l.length : Int) := by omega
      have hk8c : (k : Int) < 8 := by omega
      obtain ⟨b, off, rfl, hbB, hcell⟩ := (HRG.out.below B.out) (by omega)
      have q1 := hcell k hlt
      clear hcell
      have hst := cpF_step l k hlt
      obtain ⟨z, hz⟩ : ∃ z, l[k] = z := ⟨_, rfl⟩
      rw [hz] at q1 hst
      clear hz
      have HS : Hid (∀ W P A, RM W P A (cs1 (cpF l k)) → Calls Try.prog 14 #[.pointer (some ⟨P, 0, none⟩), .int .i64 1, .int .i64 (k : Int), .int .i32 z] W fun e w' => e = .returned (.bool true) ∧ Upd W w' P A (cs1 (cpF l (k + 1)))) := fun W P A R => set_in W P A _ R 1 k z 0 k rfl (by show 0 < 4; omega) rfl rfl h8 _ (by rw [← hst]; rfl)
      clear hst
      go_wp2_with (go_at_call 14; with_reducible refine (HS.out _ P A R.out).mono ?_; rintro e w1 ⟨rfl, U⟩; replace R := Lib.hid U.rm; replace B := Lib.hid (B.out.grown U.gr B.out.size (fun k e => by have := Option.some.inj e; omega)); clear U)
      go_roundw
      case rel => exact ⟨k + 1, by go_num, by omega, by omega, R, B⟩
      case measure => simp [intOf]; omega
    · have hend : k = l.length ∨ k = 8 := by omega
      have HF := Lib.hid (cpF_end l k hend)
      obtain ⟨F, hF⟩ : ∃ F, cpF l k = F := ⟨_, rfl⟩
      rw [hF] at HF R
      clear hF
      have HC : Hid (∀ W P A, RM W P A (cs1 F) → Calls Try.prog 11 #[.pointer (some ⟨P, 0, none⟩), .int .i64 1] W fun e w' => e = .returned (.tuple #[.int .i64 2, .bool true]) ∧ Upd W w' P A (cs2 F F)) := fun W P A R => copy_hit W P A _ R 1 0 rfl (by show 0 < 4; omega) (by show (1 : Int) ≠ 0; omega) 1 (by show 1 < 4; omega) rfl (fun j hj => by rcases lt1 hj with rfl; show (1 : Int) ≠ 0; omega) 2 rfl _ rfl
      have HS : Hid (∀ W P A, RM W P A (cs2 F F) → Calls Try.prog 14 #[.pointer (some ⟨P, 0, none⟩), .int .i64 2, .int .i64 (y), .int .i32 v] W fun e w' => e = .returned (.bool true) ∧ Upd W w' P A (cs2 F (shPut F a v))) := fun W P A R => set_in W P A _ R 2 y v 1 a rfl (by show 1 < 4; omega) rfl HA.out ha8 _ rfl
      have HU : Hid (∀ W P A, RM W P A (cs2 F (shPut F a v)) → Calls Try.prog 17 #[.pointer (some ⟨P, 0, none⟩)] W fun e w' => e = .returned (.int .i64 2) ∧ Below W.heap.size W w') := fun W P A R => used_any W P A _ R 2 rfl
      have HR1 : Hid (∀ W P A, RM W P A (cs2 F (shPut F a v)) → Calls Try.prog 18 #[.pointer (some ⟨P, 0, none⟩), .int .i64 1] W fun e w' => e = .returned (.int .i64 1) ∧ W = w') := fun W P A R => refs_any W P A _ R 1 1 rfl
      have HR2 : Hid (∀ W P A, RM W P A (cs2 F (shPut F a v)) → Calls Try.prog 18 #[.pointer (some ⟨P, 0, none⟩), .int .i64 2] W fun e w' => e = .returned (.int .i64 1) ∧ W = w') := fun W P A R => refs_any W P A _ R 2 1 rfl
      by_cases h8 : k < 8
      · have h8c : (k : Int) < 8 := by omega
        have hlc : ¬ (k : Int) < (l.length : Int) := by omega
        go_wp2_with (first
              | (go_at_call 11; with_reducible refine (HC.out _ P A R.out).mono ?_; rintro e w1 ⟨rfl, U⟩; replace R := Lib.hid U.rm; replace B := Lib.hid (B.out.grown U.gr B.out.size (fun k e => by have := Option.some.inj e; omega)); clear U)
              | (go_at_call 14; with_reducible refine (HS.out _ P A R.out).mono ?_; rintro e w1 ⟨rfl, U⟩; replace R := Lib.hid U.rm; replace B := Lib.hid (B.out.grown U.gr B.out.size (fun k e => by have := Option.some.inj e; omega)); clear U))
        have B3 := B
        go_loop [14] (fun i => ∃ j : Nat, i = .int .i64 j ∧ j ≤ 8) (fun i => 8 - (intOf i).toNat)
        case atStart => exact ⟨0, rfl, by omega⟩
        case round =>
          obtain ⟨j, rfl, hj⟩ := hrel
          by_cases hj8 : j < 8
          · have hjc : (j : Int) < 8 := by omega
            by_cases hjl : j < l.length
            · have hjlc : (j : Int) < (l.length : Int) := by omega
              obtain ⟨b, off, rfl, hbB, hcell⟩ := (HRG.out.below B.out) (by omega)
              have q1 := hcell j hjl
              clear hcell
              obtain ⟨z, hz⟩ : ∃ z, l[j] = z := ⟨_, rfl⟩
              rw [hz] at q1
              have HW : Hid (l.getD j 0 = z) := by unfold Hid; rw [getD_in l j hjl, hz]
              clear hz
              have HG1 : Hid (∀ W P A, RM W P A (cs2 F (shPut F a v)) → Calls Try.prog 16 #[.pointer (some ⟨P, 0, none⟩), .int .i64 1, .int .i64 (j : Int)] W fun e w' => e = .returned (.tuple #[.int .i32 z, .bool true]) ∧ W = w') := fun W P A R => get_in W P A _ R 1 j 0 j rfl (by show 0 < 4; omega) (by show (1 : Int) ≠ 0; omega) rfl hj8 _ (by show _ = F j; rw [HF.out j hj8]; exact HW.out.symm)
              by_cases hja : j = a
              · have hjh : 0 ≤ (j : Int) := by omega
                obtain rfl : y = (j : Int) := by have := HA.out; omega
                have HJ := Lib.hid hja; clear hja
                have HG2 : Hid (∀ W P A, RM W P A (cs2 F (shPut F a v)) → Calls Try.prog 16 #[.pointer (some ⟨P, 0, none⟩), .int .i64 2, .int .i64 (j : Int)] W fun e w' => e = .returned (.tuple #[.int .i32 v, .bool true]) ∧ W = w') := fun W P A R => get_in W P A _ R 2 j 1 j rfl (by show 1 < 4; omega) (by show (1 : Int) ≠ 0; omega) rfl hj8 _ (by show _ = shPut F a v j; unfold shPut; rw [if_pos HJ.out])
                go_wp2_with (first
                    | (go_at_call 16; with_reducible refine (HG1.out _ P A R.out).mono ?_; rintro e w1 ⟨rfl, rfl⟩)
                    | (go_at_call 16; with_reducible refine (HG2.out _ P A R.out).mono ?_; rintro e w1 ⟨rfl, rfl⟩))
                go_round
                case rel => exact ⟨j + 1, by go_num, by omega⟩
                case measure => simp [intOf]; omega
              · have hjh : 0 ≤ (j : Int) := by omega
                have hjy : ((j : Int) == y) = false := by have := HA.out; simp; omega
                have hjy2 : ((j : Int) != y) = true := by have := HA.out; simp; omega
                have hjy3 : ¬ (j : Int) = y := by have := HA.out; omega
                have HJ := Lib.hid hja; clear hja
                have HG2 : Hid (∀ W P A, RM W P A (cs2 F (shPut F a v)) → Calls Try.prog 16 #[.pointer (some ⟨P, 0, none⟩), .int .i64 2, .int .i64 (j : Int)] W fun e w' => e = .returned (.tuple #[.int .i32 z, .bool true]) ∧ W = w') := fun W P A R => get_in W P A _ R 2 j 1 j rfl (by show 1 < 4; omega) (by show (1 : Int) ≠ 0; omega) rfl hj8 _ (by show _ = shPut F a v j; unfold shPut; rw [if_neg HJ.out, HF.out j hj8]; exact HW.out.symm)
                go_wp2_with (first
                    | (go_at_call 16; with_reducible refine (HG1.out _ P A R.out).mono ?_; rintro e w1 ⟨rfl, rfl⟩)
                    | (go_at_call 16; with_reducible refine (HG2.out _ P A R.out).mono ?_; rintro e w1 ⟨rfl, rfl⟩))
                go_round
                case rel => exact ⟨j + 1, by go_num, by omega⟩
                case measure => simp [intOf]; omega
            · have hjlc : ¬ (j : Int) < (l.length : Int) := by omega
              have HW : Hid (l.getD j 0 = 0) := getD_out l j hjl
              have HG1 : Hid (∀ W P A, RM W P A (cs2 F (shPut F a v)) → Calls Try.prog 16 #[.pointer (some ⟨P, 0, none⟩), .int .i64 1, .int .i64 (j : Int)] W fun e w' => e = .returned (.tuple #[.int .i32 0, .bool true]) ∧ W = w') := fun W P A R => get_in W P A _ R 1 j 0 j rfl (by show 0 < 4; omega) (by show (1 : Int) ≠ 0; omega) rfl hj8 _ (by show _ = F j; rw [HF.out j hj8]; exact HW.out.symm)
              by_cases hja : j = a
              · have hjh : 0 ≤ (j : Int) := by omega
                obtain rfl : y = (j : Int) := by have := HA.out; omega
                have HJ := Lib.hid hja; clear hja
                have HG2 : Hid (∀ W P A, RM W P A (cs2 F (shPut F a v)) → Calls Try.prog 16 #[.pointer (some ⟨P, 0, none⟩), .int .i64 2, .int .i64 (j : Int)] W fun e w' => e = .returned (.tuple #[.int .i32 v, .bool true]) ∧ W = w') := fun W P A R => get_in W P A _ R 2 j 1 j rfl (by show 1 < 4; omega) (by show (1 : Int) ≠ 0; omega) rfl hj8 _ (by show _ = shPut F a v j; unfold shPut; rw [if_pos HJ.out])
                go_wp2_with (first
                    | (go_at_call 16; with_reducible refine (HG1.out _ P A R.out).mono ?_; rintro e w1 ⟨rfl, rfl⟩)
                    | (go_at_call 16; with_reducible refine (HG2.out _ P A R.out).mono ?_; rintro e w1 ⟨rfl, rfl⟩))
                go_round
                case rel => exact ⟨j + 1, by go_num, by omega⟩
                case measure => simp [intOf]; omega
              · have hjh : 0 ≤ (j : Int) := by omega
                have hjy : ((j : Int) == y) = false := by have := HA.out; simp; omega
                have hjy2 : ((j : Int) != y) = true := by have := HA.out; simp; omega
                have hjy3 : ¬ (j : Int) = y := by have := HA.out; omega
                have HJ := Lib.hid hja; clear hja
                have HG2 : Hid (∀ W P A, RM W P A (cs2 F (shPut F a v)) → Calls Try.prog 16 #[.pointer (some ⟨P, 0, none⟩), .int .i64 2, .int .i64 (j : Int)] W fun e w' => e = .returned (.tuple #[.int .i32 0, .bool true]) ∧ W = w') := fun W P A R => get_in W P A _ R 2 j 1 j rfl (by show 1 < 4; omega) (by show (1 : Int) ≠ 0; omega) rfl hj8 _ (by show _ = shPut F a v j; unfold shPut; rw [if_neg HJ.out, HF.out j hj8]; exact HW.out.symm)
                go_wp2_with (first
                    | (go_at_call 16; with_reducible refine (HG1.out _ P A R.out).mono ?_; rintro e w1 ⟨rfl, rfl⟩)
                    | (go_at_call 16; with_reducible refine (HG2.out _ P A R.out).mono ?_; rintro e w1 ⟨rfl, rfl⟩))
                go_round
                case rel => exact ⟨j + 1, by go_num, by omega⟩
                case measure => simp [intOf]; omega
          · obtain rfl : j = 8 := by omega
            go_wp2_with (first
              | (go_at_call 17; with_reducible refine (HU.out _ P A R.out).mono ?_; rintro e w1 ⟨rfl, U⟩; replace R := Lib.hid (R.out.belows U); replace B := Lib.hid (B.out.trans (U.mono B.out.size)); clear U)
              | (go_at_call 18; with_reducible refine (HR1.out _ P A R.out).mono ?_; rintro e w1 ⟨rfl, rfl⟩)
              | (go_at_call 18; with_reducible refine (HR2.out _ P A R.out).mono ?_; rintro e w1 ⟨rfl, rfl⟩))
            go_ret
            exact ⟨rfl, B.out⟩
      · have h8c : ¬ (k : Int) < 8 := by omega
        have hk8' : k = 8 := by omega
        go_wp2_with (first
              | (go_at_call 11; with_reducible refine (HC.out _ P A R.out).mono ?_; rintro e w1 ⟨rfl, U⟩; replace R := Lib.hid U.rm; replace B := Lib.hid (B.out.grown U.gr B.out.size (fun k e => by have := Option.some.inj e; omega)); clear U)
              | (go_at_call 14; with_reducible refine (HS.out _ P A R.out).mono ?_; rintro e w1 ⟨rfl, U⟩; replace R := Lib.hid U.rm; replace B := Lib.hid (B.out.grown U.gr B.out.size (fun k e => by have := Option.some.inj e; omega)); clear U))
        have B3 := B
        go_loop [14] (fun i => ∃ j : Nat, i = .int .i64 j ∧ j ≤ 8) (fun i => 8 - (intOf i).toNat)
        case atStart => exact ⟨0, rfl, by omega⟩
        case round =>
          obtain ⟨j, rfl, hj⟩ := hrel
          by_cases hj8 : j < 8
          · have hjc : (j : Int) < 8 := by omega
            have hjl : j < l.length := by omega
            · have hjlc : (j : Int) < (l.length : Int) := by omega
              obtain ⟨b, off, rfl, hbB, hcell⟩ := (HRG.out.below B.out) (by omega)
              have q1 := hcell j hjl
              clear hcell
              obtain ⟨z, hz⟩ : ∃ z, l[j] = z := ⟨_, rfl⟩
              rw [hz] at q1
              have HW : Hid (l.getD j 0 = z) := by unfold Hid; rw [getD_in l j hjl, hz]
              clear hz
              have HG1 : Hid (∀ W P A, RM W P A (cs2 F (shPut F a v)) → Calls Try.prog 16 #[.pointer (some ⟨P, 0, none⟩), .int .i64 1, .int .i64 (j : Int)] W fun e w' => e = .returned (.tuple #[.int .i32 z, .bool true]) ∧ W = w') := fun W P A R => get_in W P A _ R 1 j 0 j rfl (by show 0 < 4; omega) (by show (1 : Int) ≠ 0; omega) rfl hj8 _ (by show _ = F j; rw [HF.out j hj8]; exact HW.out.symm)
              by_cases hja : j = a
              · have hjh : 0 ≤ (j : Int) := by omega
                obtain rfl : y = (j : Int) := by have := HA.out; omega
                have HJ := Lib.hid hja; clear hja
                have HG2 : Hid (∀ W P A, RM W P A (cs2 F (shPut F a v)) → Calls Try.prog 16 #[.pointer (some ⟨P, 0, none⟩), .int .i64 2, .int .i64 (j : Int)] W fun e w' => e = .returned (.tuple #[.int .i32 v, .bool true]) ∧ W = w') := fun W P A R => get_in W P A _ R 2 j 1 j rfl (by show 1 < 4; omega) (by show (1 : Int) ≠ 0; omega) rfl hj8 _ (by show _ = shPut F a v j; unfold shPut; rw [if_pos HJ.out])
                go_wp2_with (first
                    | (go_at_call 16; with_reducible refine (HG1.out _ P A R.out).mono ?_; rintro e w1 ⟨rfl, rfl⟩)
                    | (go_at_call 16; with_reducible refine (HG2.out _ P A R.out).mono ?_; rintro e w1 ⟨rfl, rfl⟩))
                go_round
                case rel => exact ⟨j + 1, by go_num, by omega⟩
                case measure => simp [intOf]; omega
              · have hjh : 0 ≤ (j : Int) := by omega
                have hjy : ((j : Int) == y) = false := by have := HA.out; simp; omega
                have hjy2 : ((j : Int) != y) = true := by have := HA.out; simp; omega
                have hjy3 : ¬ (j : Int) = y := by have := HA.out; omega
                have HJ := Lib.hid hja; clear hja
                have HG2 : Hid (∀ W P A, RM W P A (cs2 F (shPut F a v)) → Calls Try.prog 16 #[.pointer (some ⟨P, 0, none⟩), .int .i64 2, .int .i64 (j : Int)] W fun e w' => e = .returned (.tuple #[.int .i32 z, .bool true]) ∧ W = w') := fun W P A R => get_in W P A _ R 2 j 1 j rfl (by show 1 < 4; omega) (by show (1 : Int) ≠ 0; omega) rfl hj8 _ (by show _ = shPut F a v j; unfold shPut; rw [if_neg HJ.out, HF.out j hj8]; exact HW.out.symm)
                go_wp2_with (first
                    | (go_at_call 16; with_reducible refine (HG1.out _ P A R.out).mono ?_; rintro e w1 ⟨rfl, rfl⟩)
                    | (go_at_call 16; with_reducible refine (HG2.out _ P A R.out).mono ?_; rintro e w1 ⟨rfl, rfl⟩))
                go_round
                case rel => exact ⟨j + 1, by go_num, by omega⟩
                case measure => simp [intOf]; omega
          · obtain rfl : j = 8 := by omega
            go_wp2_with (first
              | (go_at_call 17; with_reducible refine (HU.out _ P A R.out).mono ?_; rintro e w1 ⟨rfl, U⟩; replace R := Lib.hid (R.out.belows U); replace B := Lib.hid (B.out.trans (U.mono B.out.size)); clear U)
              | (go_at_call 18; with_reducible refine (HR1.out _ P A R.out).mono ?_; rintro e w1 ⟨rfl, rfl⟩)
              | (go_at_call 18; with_reducible refine (HR2.out _ P A R.out).mono ?_; rintro e w1 ⟨rfl, rfl⟩))
            go_ret
            exact ⟨rfl, B.out⟩
end Go.Proofs.Ytfpoeilamfcmjaa
