/- WALKS: the laws' begun, Cut. -/
import Derived.Test.YthidkkjhpdcenaaDoorPb
import Derived.Test.YthidkkjhpdcenaaDoorSf
import Derived.Test.YthidkkjhpdcenaaDoorOm
namespace Go.Proofs.YthidkkjhpdcenaaDoor
set_option maxRecDepth 100000
open Go.RowKit
set_option linter.unusedVariables false

def kText : List UInt8 := [32, 116, 105, 116, 108, 101, 32, 32, 97, 32, 98, 32, 35, 32, 99, 10, 10, 115, 101, 116, 32, 51, 32, 45, 53, 10, 104, 97, 108, 116]
def kBad : List UInt8 := [116, 105, 116, 108, 101, 32, 116, 10, 115, 101, 116, 32, 51]
def kOps : List O4 := [⟨1, 3, -5, 0⟩, ⟨0, 0, 0, 0⟩]
theorem k_parse1 : parseL kText = .ok [97, 32, 98] kOps := by kernel_rfl
theorem k_parse2 : parseL kBad = .bad 2 := by kernel_rfl
theorem k_printB : printB ⟨#[97, 32, 98]⟩ kOps = true := by decide +kernel
theorem k_itoa3 : Lib.itoa 3 = [51] := by rw [Lib.itoa, if_neg (by omega)]; show Lib.decDigits 3 = _; rw [Lib.decDigits, dif_pos (by omega)]; rfl
theorem k_itoa5 : Lib.itoa (-5) = [45, 53] := by rw [Lib.itoa, if_pos (by omega)]; show 45 :: Lib.decDigits 5 = _; rw [Lib.decDigits, dif_pos (by omega)]; rfl
def kPrint : ByteArray := ⟨#[116, 105, 116, 108, 101, 32, 97, 32, 98, 10, 115, 101, 116, 32, 51, 32, 45, 53, 10, 104, 97, 108, 116, 10]⟩
theorem k_print : str (printL ⟨#[97, 32, 98]⟩ kOps) = kPrint := by
  have h1 : opLine ⟨1, 3, -5, 0⟩ = [115, 101, 116, 32, 51, 32, 45, 53] := by
    show joinW (nameL 1) [Lib.itoa 3, Lib.itoa (-5)] = _
    rw [k_itoa3, k_itoa5]; rfl
  have h2 : opLine ⟨0, 0, 0, 0⟩ = [104, 97, 108, 116] := rfl
  refine printL_yes k_printB ?_
  unfold textOf kOps
  simp only [List.flatMap_cons, List.flatMap_nil, h1, h2]
  rfl
theorem k_first (w : World) (hT : Tabs w) : Calls Tryd.prog 11 #[.string ⟨#[32, 116, 105, 116, 108, 101, 32, 32, 97, 32, 98, 32, 35, 32, 99, 10, 10, 115, 101, 116, 32, 51, 32, 45, 53, 10, 104, 97, 108, 116]⟩] w fun e w' =>
    ∃ g off cap, e = .returned (.tuple #[.agg #[.string ⟨#[97, 32, 98]⟩, .slice (some ⟨g, off, none⟩) 2 cap], .int .i64 0, .int .i64 0]) ∧ RO w' w'.heap.size (some ⟨g, off, none⟩) kOps ∧ w'.cell? ⟨g, off + 2, none⟩ = some (.int .i64 (-5)) ∧ g < w'.heap.size ∧ 2 ≤ cap ∧ cap ≤ maxLen ∧ Below w.heap.size w w' := by
  refine (parse_any _ w hT (by decide)).mono ?_
  intro e w' h
  have h' : Parsed kText w e w' := h
  unfold Parsed at h'
  rw [k_parse1] at h'
  obtain ⟨A, cap, he, hro, h1, h2, hb⟩ := h'
  obtain ⟨g, off, rfl, hlt, hc⟩ := hro (by decide)
  refine ⟨g, off, cap, he, hro, ?_, hlt, h1, h2, hb⟩
  have := (hc 0 (by decide)).2.2.1
  rw [Nat.zero_mul, Nat.add_zero] at this
  exact this
theorem k_second (w : World) (hT : Tabs w) : Calls Tryd.prog 11 #[.string ⟨#[116, 105, 116, 108, 101, 32, 116, 10, 115, 101, 116, 32, 51]⟩] w fun e w' =>
    e = .returned (.tuple #[.agg #[.string ⟨#[]⟩, .slice none 0 0], .int .i64 2, .int .i64 1]) ∧ Below w.heap.size w w' := by
  refine (parse_any _ w hT (by decide)).mono ?_
  intro e w' h
  have h' : Parsed kBad w e w' := h
  unfold Parsed at h'
  rw [k_parse2] at h'
  exact h'
theorem k_third (A : Option Addr) (cap B : Nat) (w : World) (hT : Tabs w) (hr : RO w B A kOps) (hB : B ≤ w.heap.size) (hc : 2 ≤ cap) (hm : cap ≤ maxLen) :
    Calls Tryd.prog 15 #[.agg #[.string ⟨#[97, 32, 98]⟩, .slice A 2 cap]] w fun e w' => e = .returned (.string ⟨#[116, 105, 116, 108, 101, 32, 97, 32, 98, 10, 115, 101, 116, 32, 51, 32, 45, 53, 10, 104, 97, 108, 116, 10]⟩) ∧ Below w.heap.size w w' := by
  have := print_any ⟨#[97, 32, 98]⟩ A kOps cap B w hT hr hB hc hm (by decide)
  rw [k_print] at this
  exact this
set_option maxHeartbeats 2000000 in
theorem begun6_any (w : World) (hT : Tabs w) : Calls Tryd.prog 9 #[] w fun e w' => e = .returned (.bool true) ∧ Below w.heap.size w w' := by
  have HTT := Lib.hid hT; clear hT
  go_enter Tryd.func9, Tryd.ntmps9
  go_wp2_with fail
  refine (k_first _ HTT.out).mono ?_
  rintro e w1 ⟨g, off, cap, rfl, hro, hc5, hg, h1, h2, hb1⟩
  obtain ⟨W1, hW1⟩ : ∃ W1, W1 = w1.alloc (.cells #[.string ⟨#[97, 32, 98]⟩, .slice (some ⟨g, off, none⟩) 2 cap] 26) := ⟨_, rfl⟩
  have bv : Below w1.heap.size w1 W1 := by rw [hW1]; exact (Below.refl _ _).alloc (Nat.le_refl _) _
  have p0 : W1.cell? ⟨w1.heap.size, 0, none⟩ = some (.string ⟨#[97, 32, 98]⟩) := by rw [hW1]; simp
  have p1 : W1.cell? ⟨w1.heap.size, 1, none⟩ = some (.slice (some ⟨g, off, none⟩) 2 cap) := by rw [hW1]; simp
  have hz1 : w1.heap.size < W1.heap.size := by rw [hW1]; simp
  have hbW := hb1.trans (bv.mono hb1.size)
  have KS := Lib.hid (k_second W1 (HTT.out.next hbW))
  have HR := Lib.hid hro; have C5 := Lib.hid hc5
  have P0 := Lib.hid p0; have P1 := Lib.hid p1
  clear hro hc5 p0 p1
  go_wp2_with fail
  rw [← hW1]
  have HW1 := Lib.hid hW1; clear hW1
  refine KS.out.mono ?_
  rintro e w2 ⟨rfl, hb2⟩
  have bq : Below W1.heap.size W1 (w2.alloc (.cells #[.string ⟨#[]⟩, .slice none 0 0] 26)) := hb2.alloc hb2.size _
  have hb3 := hbW.trans (bq.mono hbW.size)
  have e0 := (bq.cell (p := ⟨w1.heap.size, 0, none⟩) hz1).trans P0.out
  have e1 := (bq.cell (p := ⟨w1.heap.size, 1, none⟩) hz1).trans P1.out
  have e5 := (bq.cell (p := ⟨g, off + 2, none⟩) (show g < _ by omega)).trans ((bv.cell (p := ⟨g, off + 2, none⟩) hg).trans C5.out)
  have KT := Lib.hid (k_third (some ⟨g, off, none⟩) cap w1.heap.size (w2.alloc (.cells #[.string ⟨#[]⟩, .slice none 0 0] 26)) (HTT.out.next hb3) ((HR.out.below bv).below (bq.mono bv.size)) (by have := bv.size; have := bq.size; omega) h1 h2)
  clear hb2 bq
  go_wp2_with (go_at_call 15; refine KT.out.mono ?_; rintro e w4 ⟨rfl, hb4⟩)
  go_ret
  exact ⟨rfl, hb3.trans (hb4.mono hb3.size)⟩

set_option maxHeartbeats 1000000 in
theorem lawcut_any (s : ByteArray) (n : Nat) (w : World) (hn : n ≤ 1000000) :
    Calls Tryd.prog 10 #[.string s, .int .i64 n] w fun e w' => e = .returned (.string (s.extract 0 (min n s.size))) ∧ w = w' := by
  have hx : s.extract 0 s.size = s := by simp
  have HX := Lib.hid hx; clear hx
  by_cases h : n < s.size
  · have h1 : (s.size : Int) > (n : Int) := by omega
    have hm : min n s.size = n := by omega
    have HM := Lib.hid hm; clear hm h
    go_enter Tryd.func10, Tryd.ntmps10
    go_wp2
    go_ret
    exact ⟨by rw [HM.out]; rfl, rfl⟩
  · have h1 : ¬ (s.size : Int) > (n : Int) := by omega
    have hm : min n s.size = s.size := by omega
    have HM := Lib.hid hm; clear hm h
    go_enter Tryd.func10, Tryd.ntmps10
    go_wp2
    go_ret
    exact ⟨by rw [HM.out, HX.out]; rfl, rfl⟩
theorem lawcut_n (s : ByteArray) (z : Int) (n : Nat) (hz : z = (n : Int)) (w : World) (hn : n ≤ 1000000) :
    Calls Tryd.prog 10 #[.string s, .int .i64 z] w fun e w' => ∃ u, e = .returned (.string u) ∧ w = w' ∧ u.size ≤ n := by
  subst hz
  refine (lawcut_any s n w hn).mono ?_
  rintro e w' ⟨rfl, rfl⟩
  exact ⟨_, rfl, rfl, cut_size s n⟩
end Go.Proofs.YthidkkjhpdcenaaDoor
