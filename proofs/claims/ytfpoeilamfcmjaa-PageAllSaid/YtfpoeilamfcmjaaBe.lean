/- WALKS: no room; the begun of the laws of layer 10; PageNone. -/
import Derived.Test.YtfpoeilamfcmjaaBd
namespace Go.Proofs.Ytfpoeilamfcmjaa
set_option maxRecDepth 100000
open Go.RowKit
set_option linter.unusedVariables false
set_option linter.unusedSimpArgs false

theorem refs_nil (p : Int) (w : World) :
    Calls Try.prog 18 #[.pointer none, .int .i64 p] w fun e w' => e = .returned (.int .i64 0) ∧ w = w' := by
  have HU := Lib.hid (inuse_nil p w)
  go_enter Try.func18, Try.ntmps18
  go_wp2_with (go_at_call 20; with_reducible refine HU.out.mono ?_; rintro e w1 ⟨rfl, rfl⟩)
  go_ret
  exact ⟨rfl, rfl⟩
theorem get_nil (p i : Int) (w : World) :
    Calls Try.prog 16 #[.pointer none, .int .i64 p, .int .i64 i] w fun e w' => e = .returned (.tuple #[.int .i32 0, .bool false]) ∧ w = w' := by
  have HU := Lib.hid (inuse_nil p w)
  go_enter Try.func16, Try.ntmps16
  go_wp2_with (go_at_call 20; with_reducible refine HU.out.mono ?_; rintro e w1 ⟨rfl, rfl⟩)
  go_ret2
  exact ⟨rfl, rfl⟩
theorem hold_nil (p : Int) (w : World) :
    Calls Try.prog 12 #[.pointer none, .int .i64 p] w fun e w' => e = .returned (.bool false) ∧ w = w' := by
  have HU := Lib.hid (inuse_nil p w)
  go_enter Try.func12, Try.ntmps12
  go_wp2_with (go_at_call 20; with_reducible refine HU.out.mono ?_; rintro e w1 ⟨rfl, rfl⟩)
  go_ret
  exact ⟨rfl, rfl⟩
theorem drop_nil (p : Int) (w : World) :
    Calls Try.prog 13 #[.pointer none, .int .i64 p] w fun e w' => e = .returned (.bool false) ∧ w = w' := by
  have HU := Lib.hid (inuse_nil p w)
  go_enter Try.func13, Try.ntmps13
  go_wp2_with (go_at_call 20; with_reducible refine HU.out.mono ?_; rintro e w1 ⟨rfl, rfl⟩)
  go_ret
  exact ⟨rfl, rfl⟩
theorem set_nil (p i v : Int) (w : World) :
    Calls Try.prog 14 #[.pointer none, .int .i64 p, .int .i64 i, .int .i32 v] w fun e w' => e = .returned (.bool false) ∧ w = w' := by
  have HU := Lib.hid (inuse_nil p w)
  go_enter Try.func14, Try.ntmps14
  go_wp2_with (go_at_call 20; with_reducible refine HU.out.mono ?_; rintro e w1 ⟨rfl, rfl⟩)
  go_ret
  exact ⟨rfl, rfl⟩
theorem copy_nil (p : Int) (w : World) :
    Calls Try.prog 11 #[.pointer none, .int .i64 p] w fun e w' => e = .returned (.tuple #[.int .i64 0, .bool false]) ∧ w = w' := by
  have HU := Lib.hid (inuse_nil p w)
  go_enter Try.func11, Try.ntmps11
  go_wp2_with (go_at_call 20; with_reducible refine HU.out.mono ?_; rintro e w1 ⟨rfl, rfl⟩)
  go_ret2
  exact ⟨rfl, rfl⟩

/-! ### begun -/
def fB : Nat → Int := shPut zN 3 7
def bg0 : List Sh := List.replicate 2 zS
def bg1 : List Sh := [⟨1, zN⟩, zS]
def bg2 : List Sh := [⟨1, fB⟩, zS]
def bg3 : List Sh := [⟨1, fB⟩, ⟨1, fB⟩]
def bg4 : List Sh := [⟨2, fB⟩, ⟨1, fB⟩]
def bg5 : List Sh := [⟨2, fB⟩, ⟨0, fB⟩]
theorem lt1 {j : Nat} (h : j < 1) : j = 0 := by omega
theorem lt2 {j : Nat} (h : j < 2) : j = 0 ∨ j = 1 := by omega
set_option maxHeartbeats 4000000 in
theorem begun10_any (w : World) : Calls Try.prog 8 #[] w fun e w' => e = .returned (.bool true) ∧ Below w.heap.size w w' := by
  have HN : Hid (Calls Try.prog 9 #[.int .i64 2] w fun e w' => ∃ P A, e = .returned (.pointer (some ⟨P, 0, none⟩)) ∧ w.heap.size ≤ A ∧ w.heap.size ≤ P ∧ RM w' P A bg0 ∧ Below w.heap.size w w') := new_any 2 2 (by omega) w
  have HT1 : Hid (∀ W P A, RM W P A bg0 → Calls Try.prog 10 #[.pointer (some ⟨P, 0, none⟩)] W fun e w' => e = .returned (.tuple #[.int .i64 1, .bool true]) ∧ Upd W w' P A bg1) :=
    fun W P A R => take_hit W P A bg0 R 0 (by decide) rfl (fun j hj => by omega) 1 rfl _ rfl
  have HS1 : Hid (∀ W P A, RM W P A bg1 → Calls Try.prog 14 #[.pointer (some ⟨P, 0, none⟩), .int .i64 1, .int .i64 3, .int .i32 7] W fun e w' => e = .returned (.bool true) ∧ Upd W w' P A bg2) :=
    fun W P A R => set_in W P A bg1 R 1 3 7 0 3 rfl (by decide) rfl rfl (by omega) _ rfl
  have HC1 : Hid (∀ W P A, RM W P A bg2 → Calls Try.prog 11 #[.pointer (some ⟨P, 0, none⟩), .int .i64 1] W fun e w' => e = .returned (.tuple #[.int .i64 2, .bool true]) ∧ Upd W w' P A bg3) :=
    fun W P A R => copy_hit W P A bg2 R 1 0 rfl (by decide) (by decide) 1 (by decide) rfl (fun j hj => by rcases lt1 hj with rfl; decide) 2 rfl _ rfl
  have HT2 : Hid (∀ W P A, RM W P A bg3 → Calls Try.prog 10 #[.pointer (some ⟨P, 0, none⟩)] W fun e w' => e = .returned (.tuple #[.int .i64 0, .bool false]) ∧ Below W.heap.size W w') :=
    fun W P A R => take_miss W P A bg3 R (fun j hj => by rcases lt2 hj with rfl | rfl <;> decide)
  have HG1 : Hid (∀ W P A, RM W P A bg3 → Calls Try.prog 16 #[.pointer (some ⟨P, 0, none⟩), .int .i64 2, .int .i64 3] W fun e w' => e = .returned (.tuple #[.int .i32 7, .bool true]) ∧ W = w') :=
    fun W P A R => get_in W P A bg3 R 2 3 1 3 rfl (by decide) (by decide) rfl (by omega) 7 rfl
  have HU1 : Hid (∀ W P A, RM W P A bg3 → Calls Try.prog 17 #[.pointer (some ⟨P, 0, none⟩)] W fun e w' => e = .returned (.int .i64 2) ∧ Below W.heap.size W w') :=
    fun W P A R => used_any W P A bg3 R 2 (by decide)
  have HH1 : Hid (∀ W P A, RM W P A bg3 → Calls Try.prog 12 #[.pointer (some ⟨P, 0, none⟩), .int .i64 1] W fun e w' => e = .returned (.bool true) ∧ Upd W w' P A bg4) :=
    fun W P A R => hold_in W P A bg3 R 1 0 rfl (by decide) (by decide) (by decide) (by decide) _ rfl
  have HR1 : Hid (∀ W P A, RM W P A bg4 → Calls Try.prog 18 #[.pointer (some ⟨P, 0, none⟩), .int .i64 1] W fun e w' => e = .returned (.int .i64 2) ∧ W = w') :=
    fun W P A R => refs_any W P A bg4 R 1 2 rfl
  have HS2 : Hid (∀ W P A, RM W P A bg4 → Calls Try.prog 14 #[.pointer (some ⟨P, 0, none⟩), .int .i64 1, .int .i64 0, .int .i32 1] W fun e w' => e = .returned (.bool false) ∧ W = w') :=
    fun W P A R => set_out W P A bg4 R 1 0 1 (.inr (.inl (by decide)))
  have HD1 : Hid (∀ W P A, RM W P A bg4 → Calls Try.prog 13 #[.pointer (some ⟨P, 0, none⟩), .int .i64 2] W fun e w' => e = .returned (.bool true) ∧ Upd W w' P A bg5) :=
    fun W P A R => drop_in W P A bg4 R 2 1 rfl (by decide) (by decide) (by decide) (by decide) _ rfl
  have HU2 : Hid (∀ W P A, RM W P A bg5 → Calls Try.prog 17 #[.pointer (some ⟨P, 0, none⟩)] W fun e w' => e = .returned (.int .i64 1) ∧ Below W.heap.size W w') :=
    fun W P A R => used_any W P A bg5 R 1 (by decide)
  go_enter Try.func8, Try.ntmps8
  go_wp2_with (first
    | (go_at_call 9; with_reducible refine HN.out.mono ?_; rintro e w1 ⟨P, A, rfl, hA, hP, R0, B0⟩; have R := Lib.hid R0; have B := Lib.hid B0; clear R0 B0)
    | (go_at_call 10; with_reducible refine (HT1.out _ P A R.out).mono ?_; rintro e w1 ⟨rfl, U⟩; replace R := Lib.hid U.1; replace B := Lib.hid (B.out.grown U.2 B.out.size (fun k e => by have := Option.some.inj e; omega)); clear U)
    | (go_at_call 10; with_reducible refine (HT2.out _ P A R.out).mono ?_; rintro e w1 ⟨rfl, U⟩; replace R := Lib.hid (R.out.belows U); replace B := Lib.hid (B.out.trans (U.mono B.out.size)); clear U)
    | (go_at_call 14; with_reducible refine (HS1.out _ P A R.out).mono ?_; rintro e w1 ⟨rfl, U⟩; replace R := Lib.hid U.1; replace B := Lib.hid (B.out.grown U.2 B.out.size (fun k e => by have := Option.some.inj e; omega)); clear U)
    | (go_at_call 11; with_reducible refine (HC1.out _ P A R.out).mono ?_; rintro e w1 ⟨rfl, U⟩; replace R := Lib.hid U.1; replace B := Lib.hid (B.out.grown U.2 B.out.size (fun k e => by have := Option.some.inj e; omega)); clear U)
    | (go_at_call 16; with_reducible refine (HG1.out _ P A R.out).mono ?_; rintro e w1 ⟨rfl, rfl⟩)
    | (go_at_call 17; with_reducible refine (HU1.out _ P A R.out).mono ?_; rintro e w1 ⟨rfl, U⟩; replace R := Lib.hid (R.out.belows U); replace B := Lib.hid (B.out.trans (U.mono B.out.size)); clear U)
    | (go_at_call 12; with_reducible refine (HH1.out _ P A R.out).mono ?_; rintro e w1 ⟨rfl, U⟩; replace R := Lib.hid U.1; replace B := Lib.hid (B.out.grown U.2 B.out.size (fun k e => by have := Option.some.inj e; omega)); clear U)
    | (go_at_call 18; with_reducible refine (HR1.out _ P A R.out).mono ?_; rintro e w1 ⟨rfl, rfl⟩)
    | (go_at_call 14; with_reducible refine (HS2.out _ P A R.out).mono ?_; rintro e w1 ⟨rfl, rfl⟩)
    | (go_at_call 13; with_reducible refine (HD1.out _ P A R.out).mono ?_; rintro e w1 ⟨rfl, U⟩; replace R := Lib.hid U.1; replace B := Lib.hid (B.out.grown U.2 B.out.size (fun k e => by have := Option.some.inj e; omega)); clear U)
    | (go_at_call 17; with_reducible refine (HU2.out _ P A R.out).mono ?_; rintro e w1 ⟨rfl, U⟩; replace R := Lib.hid (R.out.belows U); replace B := Lib.hid (B.out.trans (U.mono B.out.size)); clear U))
  go_ret
  exact ⟨rfl, B.out⟩
set_option maxHeartbeats 4000000 in
theorem none_law (w : World) : Calls Try.prog 5 #[] w fun e w' => e = .returned (.bool true) ∧ Below w.heap.size w w' := by
  have HT := Lib.hid take_nil
  have HC := Lib.hid copy_nil
  have HG := Lib.hid get_nil
  have HBg := Lib.hid begun10_any
  have HH := Lib.hid hold_nil
  have HD := Lib.hid drop_nil
  have HRf := Lib.hid refs_nil
  have HS := Lib.hid set_nil
  have HU := Lib.hid used_nil
  go_enter Try.func5, Try.ntmps5
  go_wp2_with (first
    | (go_at_call 10; with_reducible refine (HT.out _).mono ?_; rintro e w1 ⟨rfl, B⟩)
    | (go_at_call 11; with_reducible refine (HC.out _ _).mono ?_; rintro e w1' ⟨rfl, rfl⟩)
    | (go_at_call 16; with_reducible refine (HG.out _ _ _).mono ?_; rintro e w1' ⟨rfl, rfl⟩)
    | (go_at_call 8; with_reducible refine (HBg.out _).mono ?_; rintro e w2 ⟨rfl, B2⟩)
    | (go_at_call 12; with_reducible refine (HH.out _ _).mono ?_; rintro e w1' ⟨rfl, rfl⟩)
    | (go_at_call 13; with_reducible refine (HD.out _ _).mono ?_; rintro e w1' ⟨rfl, rfl⟩)
    | (go_at_call 18; with_reducible refine (HRf.out _ _).mono ?_; rintro e w1' ⟨rfl, rfl⟩)
    | (go_at_call 14; with_reducible refine (HS.out _ _ _ _).mono ?_; rintro e w1' ⟨rfl, rfl⟩)
    | (go_at_call 17; with_reducible refine (HU.out _).mono ?_; rintro e w1' ⟨rfl, rfl⟩))
  go_ret
  exact ⟨rfl, B.trans (B2.mono B.size)⟩
end Go.Proofs.Ytfpoeilamfcmjaa
