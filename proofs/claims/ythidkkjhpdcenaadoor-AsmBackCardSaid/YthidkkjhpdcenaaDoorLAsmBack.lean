/- MERGED of XUt XUd XUe XUf XFAsmBack -/
import Derived.Test.YthidkkjhpdcenaaDoorRows
import Derived.Test.YthidkkjhpdcenaaDoorSa
import Derived.MakeChecks
import Derived.OpenShut
import Derived.Test.YthidkkjhpdcenaaDoorUa
import Derived.Test.YthidkkjhpdcenaaDoorTc
import Derived.Test.YthidkkjhpdcenaaDoorOk
import Derived.Test.YthidkkjhpdcenaaDoorPc
import Derived.Test.YthidkkjhpdcenaaDoorOm
import Derived.Test.YthidkkjhpdcenaaDoorOf
import Derived.Test.YthidkkjhpdcenaaDoorCards
import Derived.Test.YthidkkjhpdcenaaDoorTie
import Derived.SevenTiedAt
import Derived.Lay
import Derived.LaidMore
import Derived.Test.YthidkkjhpdcenaaDoorKb
import Derived.Test.YthidkkjhpdcenaaDoorKp
/- XUt -/
namespace Go.Proofs.YthidkkjhpdcenaaDoor
set_option maxRecDepth 100000
open Go.RowKit Go.ChangeShapes
set_option linter.unusedVariables false

def asmLaid : List (String × DataW Unit) := [("math/bits.deBruijn32tab", Rows.laid_math_bits_deBruijn32tab), ("math/bits.deBruijn64tab", Rows.laid_math_bits_deBruijn64tab), ("internal/strconv.uint64pow10", Rows.laid_internal_strconv_uint64pow10), ("unicode/utf8.acceptRanges", Rows.laid_unicode_utf8_acceptRanges), ("quintain/asm.kinds", Rows.laid_quintain_asm_kinds), ("unicode/utf8.first", Rows.laid_unicode_utf8_first)]
theorem gKinds : Tryd.prog.globalNamed "quintain/asm.kinds" = some 0 := by kernel_rfl
def strOf : DataW Unit → List UInt8
  | .agg [.lit (.string s), _] => s
  | _ => []
def intOfD : DataW Unit → Int
  | .agg [_, .lit (.int _ n)] => n
  | _ => 0
def kindsD : List (DataW Unit) := match (Rows.laid_quintain_asm_kinds : DataW Unit) with
  | .agg xs => xs
  | _ => []
theorem kindsD_is : (Rows.laid_quintain_asm_kinds : DataW Unit) = .agg kindsD := rfl
theorem kindsD_at (k : Nat) (h : k < 16) : kindsD[k]? = some (.agg [.lit (.string (nameL k)), .lit (.int .i64 (takesL k : Int))]) := by
  rcases (by omega : k = 0 ∨ k = 1 ∨ k = 2 ∨ k = 3 ∨ k = 4 ∨ k = 5 ∨ k = 6 ∨ k = 7 ∨ k = 8 ∨ k = 9 ∨ k = 10 ∨ k = 11 ∨ k = 12 ∨ k = 13 ∨ k = 14 ∨ k = 15) with rfl | rfl | rfl | rfl | rfl | rfl | rfl | rfl | rfl | rfl | rfl | rfl | rfl | rfl | rfl | rfl <;> rfl
theorem tabs_met {W : World} (h : laidMetH Tryd.prog asmLaid W) : Tabs W := by
  rw [MakeChecks.laidMetH_plain _ _ _ (by kernel_rfl)] at h
  obtain ⟨ps, hl, _, _⟩ := h
  obtain ⟨g1, t1, cs1, f1, p1, q1, _, _, _, _, hl1, _⟩ := hl
  obtain ⟨g2, t2, cs2, f2, p2, q2, _, _, _, _, hl2, _⟩ := hl1
  obtain ⟨g3, t3, cs3, f3, p3, q3, hg3, ht3, hv3, hd3, hl3, _⟩ := hl2
  obtain ⟨g4, t4, cs4, f4, p4, q4, _, _, _, _, hl4, _⟩ := hl3
  obtain ⟨g5, t5, cs5, f5, p5, q5, hg5, ht5, hv5, hd5, _, _⟩ := hl4
  obtain rfl := Option.some.inj (gPow.symm.trans hg3)
  obtain rfl := Option.some.inj ((show (Tryd.prog.globals[3]?).map (·.type) = some 108 by kernel_rfl).symm.trans ht3)
  obtain rfl := Option.some.inj (gKinds.symm.trans hg5)
  obtain rfl := Option.some.inj ((show (Tryd.prog.globals[0]?).map (·.type) = some 72 by kernel_rfl).symm.trans ht5)
  have hP : TabP W := by
    unfold TabP Lib.TabIs
    rw [hv3, ← Lib.cells_of_tab Tryd.underlying108 Tryd.underlying89 (by kernel_rfl) (by kernel_rfl) (show _ = some (Lib.tabData .u64 Lib.pow10Tab, p3) from hd3)]
  have hK : TabK W := by
    obtain ⟨xs, m, _, ex, _, hlen, hel⟩ := DataW.trod_array Tryd.underlying72 hd5
    have e3 : xs.map (·.1) = kindsD := by
      have := (Prod.mk.inj ex).1
      rw [kindsD_is] at this
      exact (DataW.agg.inj this).symm
    have c2 : Tryd.prog.cellsOf 71 = 2 := by kernel_rfl
    have cs1' : Tryd.prog.cellsOf 9 = 1 := by kernel_rfl
    have ci1' : Tryd.prog.cellsOf 3 = 1 := by kernel_rfl
    intro k hk
    have hE := hel k hk
    rw [c2] at hE
    have hx : ∃ x, xs[k]? = some x := ⟨xs[k], List.getElem?_eq_getElem (by omega)⟩
    obtain ⟨x, hx⟩ := hx
    have hx1 : x.1 = .agg [.lit (.string (nameL k)), .lit (.int .i64 (takesL k : Int))] := by
      have e4 : (xs.map (·.1))[k]? = kindsD[k]? := by rw [e3]
      rw [List.getElem?_map, hx, kindsD_at k hk] at e4
      exact Option.some.inj e4
    rw [hx] at hE
    obtain ⟨y0, y1, n, hy, _, hs0, hs1⟩ := trod_struct2 Tryd.underlying71 hE
    rw [hy] at hx1
    have hx2 := DataW.agg.inj hx1
    injection hx2 with ha hb
    injection hb with hb _
    obtain ⟨s, es, ey0, _⟩ := DataW.trod_string Tryd.underlying9 hs0
    obtain ⟨z, ez, ey1, _⟩ := DataW.trod_int Tryd.underlying3 hs1
    rw [ey0] at ha
    rw [ey1] at hb
    have hs : s = str (nameL k) := by
      have : s.data.toList = nameL k := by injection ha with ha; injection ha
      rw [← this]
      rfl
    have hz : z = (takesL k : Int) := by injection hb with hb; injection hb
    subst hs hz
    have d0 : cs5.toList[2 * k]? = some (.string (str (nameL k))) := by
      have h0 := congrArg (·[0]?) es
      simp [List.getElem?_drop, cs1'] at h0
      rw [Nat.mul_comm]; simpa using h0
    have d1 : cs5.toList[2 * k + 1]? = some (.int .i64 (takesL k : Int)) := by
      have h0 := congrArg (·[0]?) ez
      simp [List.getElem?_drop, ci1'] at h0
      rw [Nat.mul_comm 2 k]; simpa using h0
    rw [World.var?_cell gKinds hv5, World.var?_cell gKinds hv5]
    exact ⟨by simpa using d0, by simpa using d1⟩
  have hsz : ∀ (nm : String) (g : Nat) cs, Tryd.prog.globalNamed nm = some g → W.var? Tryd.prog nm = some cs → g < W.heap.size := by
    intro nm g cs hg hv
    unfold World.var? at hv
    rw [hg] at hv
    simp only [Option.bind_some] at hv
    by_cases hlt : g < W.heap.size
    · exact hlt
    · rw [Array.getElem?_eq_none (by omega)] at hv
      cases hv
  exact ⟨hK, hP, hsz _ _ _ gKinds hv5, hsz _ _ _ gPow hv3⟩
end Go.Proofs.YthidkkjhpdcenaaDoor

/- XUd -/
namespace Go.Proofs.YthidkkjhpdcenaaDoor
set_option maxRecDepth 100000
open Go.RowKit
set_option linter.unusedVariables false

def tOf (l : List UInt8) : ByteArray := match parseL l with
  | .bad _ => ⟨#[]⟩
  | .ok t _ => str t
def osOf (l : List UInt8) : List O4 := match parseL l with
  | .bad _ => []
  | .ok _ os => os
def atOf (l : List UInt8) : Int := match parseL l with
  | .bad n => (n : Int)
  | .ok _ _ => 0
def erOf (l : List UInt8) : Int := match parseL l with
  | .bad _ => 1
  | .ok _ _ => 0
/-- what either Parse answers, its parts named -/
theorem Parsed.parts {l : List UInt8} {w w' : World} {e : Ending} (h : Parsed l w e w') {t : ByteArray} {os : List O4} {at_ er : Int} (h1 : tOf l = t) (h2 : osOf l = os) (h3 : atOf l = at_) (h4 : erOf l = er) :
    ∃ A cap, e = .returned (.tuple #[.agg #[.string t, .slice A os.length cap], .int .i64 at_, .int .i64 er]) ∧ Hid (RO w' w'.heap.size A os) ∧ os.length ≤ cap ∧ cap ≤ maxLen ∧ Below w.heap.size w w' := by
  subst h1 h2 h3 h4
  unfold Parsed at h
  unfold tOf osOf atOf erOf
  cases hp : parseL l with
  | bad n =>
    rw [hp] at h
    obtain ⟨rfl, hb⟩ := h
    exact ⟨none, 0, rfl, RO.nil _ _ _, Nat.le_refl _, by decide, hb⟩
  | ok t os =>
    rw [hp] at h
    obtain ⟨A, cap, rfl, hr, h1, h2, hb⟩ := h
    exact ⟨A, cap, rfl, hr, h1, h2, hb⟩
set_option maxHeartbeats 2000000 in
theorem text_law (s : ByteArray) (w : World) (hT : Tabs w) :
    Calls Tryd.prog 3 #[.string s] w fun e w' => e = .returned (.bool true) ∧ Below w.heap.size w w' := by
  have HTT := Lib.hid hT; clear hT
  have HC := Lib.hid (fun W => lawcut_n s 300 300 rfl W (by omega))
  go_enter Tryd.func3, Tryd.ntmps3
  go_wp2_with fail
  refine (begun6_any _ HTT.out).mono ?_
  rintro e w1 ⟨rfl, hb1⟩
  go_wp2_with fail
  refine (HC.out _).mono ?_
  rintro e w2 ⟨u, rfl, rfl, hu⟩
  have HP1 := Lib.hid (parse_any u w1 (HTT.out.next hb1) (by omega))
  obtain ⟨t, ht⟩ : ∃ t, tOf (lst u) = t := ⟨_, rfl⟩
  obtain ⟨os, hos⟩ : ∃ os, osOf (lst u) = os := ⟨_, rfl⟩
  obtain ⟨at_, hat⟩ : ∃ at_, atOf (lst u) = at_ := ⟨_, rfl⟩
  obtain ⟨er, her⟩ : ∃ er, erOf (lst u) = er := ⟨_, rfl⟩
  have HT1 := Lib.hid ht; have HO1 := Lib.hid hos; have HA1 := Lib.hid hat; have HE1 := Lib.hid her
  clear ht hos hat her HC
  go_wp2_with fail
  refine HP1.out.mono ?_
  intro e w2 hpa
  obtain ⟨A, cap, rfl, hr2, hc1, hc2, hb2⟩ := hpa.parts HT1.out HO1.out HA1.out HE1.out
  clear hpa
  have hbx := hb1.trans (hb2.mono hb1.size)
  have hbA : Below w2.heap.size w2 (w2.alloc (.cells #[.string t, .slice A os.length cap] 26)) := (Below.refl _ _).alloc (Nat.le_refl _) _
  have HR2 := Lib.hid (hr2.out.below hbA)
  have hby := hbx.trans (hbA.mono hbx.size)
  have HP2 := Lib.hid (refparse_any u (w2.alloc (.cells #[.string t, .slice A os.length cap] 26)) (by omega))
  clear HP1 hr2 hbA
  go_wp2_with fail
  refine HP2.out.mono ?_
  intro e w3 hpa
  obtain ⟨A2, cap2, rfl, hr3, hc3, hc4, hb3⟩ := hpa.parts HT1.out HO1.out HA1.out HE1.out
  clear hpa
  have c0 := hb3.cell (p := ⟨w2.heap.size, 0, none⟩) (by simp)
  have c1 := hb3.cell (p := ⟨w2.heap.size, 1, none⟩) (by simp)
  simp at c0 c1
  have hs3 := hb3.size
  rw [World.size_alloc] at hs3
  have hbz := hby.trans (hb3.mono hby.size)
  have hbB : Below w3.heap.size w3 (w3.alloc (.cells #[.string t, .slice A2 os.length cap2] 26)) := (Below.refl _ _).alloc (Nat.le_refl _) _
  have HR3 := Lib.hid (hr3.out.below hbB)
  have HR2' := Lib.hid ((HR2.out.below (hb3.mono (by simp))).below (hbB.mono (by omega)))
  have hbf := hbz.trans (hbB.mono hbz.size)
  have HEQ := Lib.hid (eqprog_any t t A A2 os os cap cap2 w3.heap.size (w3.alloc (.cells #[.string t, .slice A2 os.length cap2] 26)) (HR2'.out.more (by omega)) HR3.out (by simp) hc1 hc3 hc2 hc4 true (by simp))
  unfold progV at HEQ
  have n00 := World.new_ne w3 ⟨w2.heap.size, 0, none⟩ c0; have n01 := World.new_ne w3 ⟨w2.heap.size, 1, none⟩ c1
  have p0 := (hbB.cell (p := ⟨w2.heap.size, 0, none⟩) (show w2.heap.size < _ by omega)).trans c0; have p1 := (hbB.cell (p := ⟨w2.heap.size, 1, none⟩) (show w2.heap.size < _ by omega)).trans c1
  clear HP2 HR2 HR3 HR2' hr3 hbB hb3 hb2 hb1 hby hbz
  go_wp2_with (go_at_call 13; refine HEQ.out.mono ?_; rintro e w7 ⟨rfl, b7⟩)
  have hbg := hbf.trans (b7.mono hbf.size)
  go_ret
  exact ⟨rfl, hbg⟩
end Go.Proofs.YthidkkjhpdcenaaDoor

/- XUe -/
namespace Go.Proofs.YthidkkjhpdcenaaDoor
set_option maxRecDepth 100000
open Go.RowKit
set_option linter.unusedVariables false
attribute [local go_sem ↓] Go.wp_at_zero Go.wp_at_succ

theorem lcut_named (t : ByteArray) (A : Option Addr) (os : List O4) (cap k : Nat) (n : Int) (hn : Hid (n = k)) (w : World) (n0 : 0 ≤ n) (n1 : n ≤ 1000) (hc : os.length ≤ cap) (hm : cap ≤ maxLen) :
    Calls Tryd.prog 14 #[.agg #[.string t, .slice A os.length cap], .int .i64 n] w fun e w' => ∃ u os', Hid (u = cutT t) ∧ Hid (os' = os.take k) ∧ e = .returned (.agg #[.string u, .slice A os'.length cap]) ∧ Below w.heap.size w w' :=
  (lcut_any t A os cap k n hn w n0 n1 hc hm).mono fun e w' ⟨he, hw⟩ => ⟨_, _, rfl, rfl, he, hw⟩
/-- two stores into a program's block -/
theorem stored2 {w : World} {G : Nat} {u v u' v' : Value} (h0 : w.cell? ⟨G, 0, none⟩ = some u') (h1 : w.cell? ⟨G, 1, none⟩ = some v') (B : Nat) (hB : B ≤ G) :
    ((w.setCell ⟨G, 0, none⟩ u).setCell ⟨G, 1, none⟩ v).cell? ⟨G, 0, none⟩ = some u ∧ ((w.setCell ⟨G, 0, none⟩ u).setCell ⟨G, 1, none⟩ v).cell? ⟨G, 1, none⟩ = some v ∧
    Below B w ((w.setCell ⟨G, 0, none⟩ u).setCell ⟨G, 1, none⟩ v) ∧ ((w.setCell ⟨G, 0, none⟩ u).setCell ⟨G, 1, none⟩ v).heap.size = w.heap.size := by
  refine ⟨?_, ?_, ((Below.refl _ _).setCell hB _).setCell hB _, by simp⟩
  · go_simp
  · go_simp
theorem ops_len : ∀ (os : List O4), (∀ o ∈ os, smlO o) → (os.flatMap fun o => opLine o ++ ([] ++ [10])).length ≤ 41 * os.length
  | [], _ => by simp
  | o :: os, h => by
    have ih := ops_len os fun p hp => h p (by simp [hp])
    have h1 := opLine_len o (h o (by simp))
    rw [List.flatMap_cons, List.length_append, List.length_append]
    simp only [List.nil_append, List.length_cons, List.length_nil] at *
    omega
theorem printL_len (t : ByteArray) (os : List O4) : (printL t os).length ≤ t.size + 7 + 41 * os.length := by
  unfold printL
  split
  · rename_i h
    have hs := ((fitsB_iff _ _).1 ((printB_iff t os).1 h).1).2.2.2
    have h1 := ops_len os hs
    have h2 : (lst t).length = t.size := lst_len t
    have h3 : titleP.length = 5 := rfl
    unfold textOf
    simp only [List.length_append, List.length_cons, List.length_nil] at *
    omega
  · simp
theorem str_isEmpty' {z : ByteArray} (h : ¬ z = ⟨#[]⟩) : z.toList.isEmpty = false := by
  cases e : z.toList.isEmpty with
  | false => rfl
  | true =>
    exfalso; apply h
    have := List.isEmpty_iff.1 e
    exact toList_inj.1 (by rw [this, Lib.toList_data])

set_option maxHeartbeats 4000000 in
theorem line_law (t : ByteArray) (A : Option Addr) (x : List O4) (c : Nat) (at_ : Int) (l : ByteArray) (w : World) (hT : Tabs w) (h1 : RO w w.heap.size A x) (k1 : x.length ≤ c) (m1 : c ≤ maxLen) (n1 : -9223372036854775808 ≤ at_) (n2 : at_ ≤ 9223372036854775807) :
    Calls Tryd.prog 5 #[progV t A x.length c, .int .i64 at_, .string l] w fun e w' => e = .returned (.bool true) ∧ Below w.heap.size w w' := by
  have HTT := Lib.hid hT; clear hT
  have H1 := Lib.hid h1; clear h1
  unfold progV
  have b0 : Below w.heap.size w (w.alloc (.cells #[.string t, .slice A x.length c] 26)) := (Below.refl _ _).alloc (Nat.le_refl _) _
  have h12 : Hid ((12 : Int) = ((12 : Nat) : Int)) := by unfold Hid; omega
  have C1 := fun W => lcut_named t A x c 12 12 h12 W (by omega) (by omega) k1 m1
  have HC1 := Lib.hid C1; clear C1
  have HC2 := Lib.hid (fun W => lawcut_n l 30 30 rfl W (by omega))
  have HT0 := Lib.hid (HTT.out.next b0)
  go_enter Tryd.func5, Tryd.ntmps5
  go_wp2_with fail
  refine (begun6_any _ HT0.out).mono ?_
  rintro e w1 ⟨rfl, hb1⟩
  obtain ⟨hc0, hc1, hf0, hf1⟩ := two_cells hb1 (by simp)
  have hb2 := b0.trans (hb1.mono (by simp))
  have hs1 := hb1.size
  rw [World.size_alloc] at hs1
  clear hb1 b0 HT0
  go_wp2_with fail
  refine (HC1.out _).mono ?_
  rintro e w2 ⟨u, y, hu, hy, rfl, hb3⟩
  have d0 := (hb3.cell (p := ⟨w.heap.size, 0, none⟩) (show w.heap.size < _ by omega)).trans hc0
  have d1 := (hb3.cell (p := ⟨w.heap.size, 1, none⟩) (show w.heap.size < _ by omega)).trans hc1
  have e0 := (hb3.frozen (p := ⟨w.heap.size, 0, none⟩) (show w.heap.size < _ by omega)).trans hf0
  have e1 := (hb3.frozen (p := ⟨w.heap.size, 1, none⟩) (show w.heap.size < _ by omega)).trans hf1
  have hb4 := hb2.trans (hb3.mono hb2.size)
  have hs2 := Nat.le_trans hs1 hb3.size
  clear hc0 hc1 hf0 hf1 hb2 hb3
  go_wp2_with fail
  refine (HC2.out _).mono ?_
  rintro e w2 ⟨l2, rfl, rfl, hl2⟩
  obtain ⟨s0, s1, sb, sz⟩ := stored2 (u := .string u) (v := .slice A y.length c) d0 d1 w.heap.size (Nat.le_refl _)
  have hbW := hb4.trans sb
  have hyl : y.length ≤ c := by rw [hy.out, List.length_take]; omega
  have hy12 : y.length ≤ 12 := by rw [hy.out, List.length_take]; omega
  have hut : u.size ≤ 40 := by rw [hu.out]; exact cutT_size _
  obtain ⟨W2, hW2⟩ : ∃ W2, W2 = (w2.setCell ⟨w.heap.size, 0, none⟩ (.string u)).setCell ⟨w.heap.size, 1, none⟩ (.slice A y.length c) := ⟨_, rfl⟩
  rw [← hW2] at s0 s1 sb sz hbW
  have R0 := Lib.hid (show RO W2 w.heap.size A y by have r0 := (H1.out.below hbW).take 12; rw [← hy.out] at r0; exact r0)
  have HPR := Lib.hid (refprint_any u A y c w.heap.size W2 R0.out (by rw [sz]; omega) hyl m1 (by omega))
  obtain ⟨z, hz⟩ : ∃ z, str (printL u y) = z := ⟨_, rfl⟩
  have hzs : z.size ≤ 600 := by rw [← hz, str_size]; have := printL_len u y; omega
  unfold progV at HPR
  rw [hz] at HPR
  have hsW : w.heap.size + 1 ≤ W2.heap.size := by omega
  have S0 := Lib.hid s0; have S1 := Lib.hid s1
  clear s0 s1 sz sb HC1 HC2 hb4 H1 hz R0 hu hy
  go_upto_region 5 with fail
  rw [← hW2]
  have HW2 := Lib.hid hW2; clear hW2 d0 d1 e0 e1
  have s0 := S0.out; have s1 := S1.out
  go_wp2_with fail
  refine HPR.out.mono ?_
  rintro e w3 ⟨rfl, hb5⟩
  have p1 := (hb5.cell (p := ⟨w.heap.size, 1, none⟩) (show w.heap.size < _ by omega)).trans S1.out
  have hb6 := hbW.trans (hb5.mono (by omega))
  clear s0 s1 S0 S1 HPR hb5 hbW
  by_cases hze : z = ⟨#[]⟩
  · subst hze
    go_wp2
    go_ret
    exact ⟨rfl, hb6⟩
  have hne := str_isEmpty' hze
  by_cases hneg : at_ < 0
  · go_wp2
    go_ret
    exact ⟨rfl, hb6⟩
  obtain ⟨d, hd⟩ : ∃ d, at_.tmod ((y.length : Int) + 1) = d := ⟨_, rfl⟩
  have hd1 : -((y.length : Int) + 1) < at_.tmod ((y.length : Int) + 1) := Int.lt_tmod_of_pos at_ (by omega)
  have hd2 : at_.tmod ((y.length : Int) + 1) < (y.length : Int) + 1 := Int.tmod_lt_of_pos at_ (by omega)
  have hnz : ((y.length : Int) + 1 == 0) = false := by rw [beq_eq_false_iff_ne]; omega
  have hnz2 : ¬ (y.length : Int) + 1 = 0 := by omega
  rw [hd] at hd1 hd2
  clear hze
  go_wp2_with fail
  go_loop [9, 10, 11] (fun sv nv iv => ∃ (i n : Nat) (q : ByteArray), sv = .string q ∧ nv = .int .i64 n ∧ iv = .int .i64 i ∧ i ≤ z.size ∧ n ≤ i ∧ q.size ≤ 31 * i) (fun _ _ iv => z.size - (intOf iv).toNat)
  case atStart => exact ⟨0, 0, ⟨#[]⟩, rfl, rfl, rfl, by omega, by omega, Nat.le_refl 0⟩
  case round =>
    obtain ⟨i, n, q, rfl, rfl, rfl, hi, hn, hq⟩ := hrel
    by_cases hlt : i < z.size
    · have hlt2 : (i : Int) < (z.size : Int) := by omega
      have hle1 : (i : Int) ≤ (i : Int) + 1 := by omega
      have hle2 : (i : Int) + 1 ≤ (z.size : Int) := by omega
      by_cases hnd : (n : Int) = d
      · have hb : ((n : Int) == d) = true := by rw [beq_iff_eq]; exact hnd
        by_cases hc10 : (z[i]'hlt).toNat = 10
        · have hq10 : (((z[i]'hlt).toNat : Int) == 10) = true := by rw [hc10]; rfl
          clear hnd hc10
          go_wp2
          go_round
          case rel =>
            refine ⟨i + 1, n + 1, _, rfl, by go_num, by go_num, by omega, by omega, ?_⟩
            simp only [ByteArray.size_append]
            have e2 : (⟨#[10]⟩ : ByteArray).size = 1 := rfl
            omega
          case measure => simp [intOf]; omega
        · have hq10 : (((z[i]'hlt).toNat : Int) == 10) = false := by rw [beq_eq_false_iff_ne]; omega
          clear hnd hc10
          go_wp2
          go_round
          case rel => exact ⟨i + 1, n, q, rfl, rfl, by go_num, by omega, by omega, by omega⟩
          case measure => simp [intOf]; omega
      · have hb : ((n : Int) == d) = false := by rw [beq_eq_false_iff_ne]; exact hnd
        have hxs : (z.extract i (i + 1)).size ≤ 1 := by rw [ByteArray.size_extract]; omega
        by_cases hc10 : (z[i]'hlt).toNat = 10
        · have hq10 : (((z[i]'hlt).toNat : Int) == 10) = true := by rw [hc10]; rfl
          clear hnd hc10
          go_wp2
          go_round
          case rel => exact ⟨i + 1, n + 1, _, rfl, by go_num, by go_num, by omega, by omega, by simp only [ByteArray.size_append]; omega⟩
          case measure => simp [intOf]; omega
        · have hq10 : (((z[i]'hlt).toNat : Int) == 10) = false := by rw [beq_eq_false_iff_ne]; omega
          clear hnd hc10
          go_wp2
          go_round
          case rel => exact ⟨i + 1, n, _, rfl, rfl, by go_num, by omega, by omega, by simp only [ByteArray.size_append]; omega⟩
          case measure => simp [intOf]; omega
    · have hlt2 : ¬ (i : Int) < (z.size : Int) := by omega
      have hqs : q.size ≤ 100000 := by omega
      have HP1 := Lib.hid (parse_any q w3 (HTT.out.next hb6) hqs)
      obtain ⟨t1, ht⟩ : ∃ t1, tOf (lst q) = t1 := ⟨_, rfl⟩
      obtain ⟨os, hos⟩ : ∃ os, osOf (lst q) = os := ⟨_, rfl⟩
      obtain ⟨at2, hat⟩ : ∃ at2, atOf (lst q) = at2 := ⟨_, rfl⟩
      obtain ⟨er, her⟩ : ∃ er, erOf (lst q) = er := ⟨_, rfl⟩
      have HT1 := Lib.hid ht; have HO1 := Lib.hid hos; have HA1 := Lib.hid hat; have HE1 := Lib.hid her
      clear ht hos hat her p1 hd hd1 hd2 hnz hnz2 hne
      go_wp2_with fail
      refine HP1.out.mono ?_
      intro e w4 hpa
      obtain ⟨A4, cap, rfl, hr2, hc1, hc2, hb2⟩ := hpa.parts HT1.out HO1.out HA1.out HE1.out
      clear hpa
      have hbx := hb6.trans (hb2.mono hb6.size)
      have hbA : Below w4.heap.size w4 (w4.alloc (.cells #[.string t1, .slice A4 os.length cap] 26)) := (Below.refl _ _).alloc (Nat.le_refl _) _
      have HR2 := Lib.hid (hr2.out.below hbA)
      have hby := hbx.trans (hbA.mono hbx.size)
      have HP2 := Lib.hid (refparse_any q (w4.alloc (.cells #[.string t1, .slice A4 os.length cap] 26)) hqs)
      clear HP1 hr2 hbA
      go_wp2_with fail
      refine HP2.out.mono ?_
      intro e w5 hpa
      obtain ⟨A2, cap2, rfl, hr3, hc3, hc4, hb3⟩ := hpa.parts HT1.out HO1.out HA1.out HE1.out
      clear hpa
      have c0 := hb3.cell (p := ⟨w4.heap.size, 0, none⟩) (by simp)
      have c1 := hb3.cell (p := ⟨w4.heap.size, 1, none⟩) (by simp)
      simp at c0 c1
      have hs3 := hb3.size
      rw [World.size_alloc] at hs3
      have hbz := hby.trans (hb3.mono hby.size)
      have hbB : Below w5.heap.size w5 (w5.alloc (.cells #[.string t1, .slice A2 os.length cap2] 26)) := (Below.refl _ _).alloc (Nat.le_refl _) _
      have HR3 := Lib.hid (hr3.out.below hbB)
      have HR2' := Lib.hid ((HR2.out.below (hb3.mono (by simp))).below (hbB.mono (by omega)))
      have hbf := hbz.trans (hbB.mono hbz.size)
      have HEQ := Lib.hid (eqprog_any t1 t1 A4 A2 os os cap cap2 w5.heap.size (w5.alloc (.cells #[.string t1, .slice A2 os.length cap2] 26)) (HR2'.out.more (by omega)) HR3.out (by simp) hc1 hc3 hc2 hc4 true (by simp))
      unfold progV at HEQ
      have n00 := World.new_ne w5 ⟨w4.heap.size, 0, none⟩ c0; have n01 := World.new_ne w5 ⟨w4.heap.size, 1, none⟩ c1
      have p0 := (hbB.cell (p := ⟨w4.heap.size, 0, none⟩) (show w4.heap.size < _ by omega)).trans c0; have p1 := (hbB.cell (p := ⟨w4.heap.size, 1, none⟩) (show w4.heap.size < _ by omega)).trans c1
      clear HP2 HR2 HR3 HR2' hr3 hbB hb3 hb2 hby hbz
      go_wp2_with (go_at_call 13; refine HEQ.out.mono ?_; rintro e w7 ⟨rfl, b7⟩)
      have hbg := hbf.trans (b7.mono hbf.size)
      go_ret
      exact ⟨rfl, hbg⟩
end Go.Proofs.YthidkkjhpdcenaaDoor

/- XUf -/
namespace Go.Proofs.YthidkkjhpdcenaaDoor
set_option maxRecDepth 100000
open Go.RowKit
set_option linter.unusedVariables false
attribute [local go_sem ↓] Go.wp_at_zero Go.wp_at_succ

/-! ### plain: the remarks -/
def deco (suf : List UInt8) : List UInt8 → List UInt8
  | [] => []
  | c :: r => (if c = 10 then suf ++ [c] else [c]) ++ deco suf r
theorem deco_append (suf : List UInt8) : ∀ a b : List UInt8, deco suf (a ++ b) = deco suf a ++ deco suf b
  | [], b => rfl
  | c :: a, b => by
    rw [List.cons_append, deco, deco, deco_append suf a b, List.append_assoc]
theorem deco_no10 (suf : List UInt8) : ∀ a : List UInt8, (∀ c ∈ a, c ≠ 10) → deco suf a = a
  | [], _ => rfl
  | c :: a, h => by
    rw [deco, if_neg (h c (by simp)), deco_no10 suf a (fun x hx => h x (by simp [hx]))]; rfl
theorem deco_nl (suf : List UInt8) : deco suf [10] = suf ++ [10] := by rw [deco, if_pos rfl, deco, List.append_nil]
theorem deco_ops (suf : List UInt8) : ∀ os : List O4, (∀ o ∈ os, okOp o = true) → deco suf (os.flatMap fun o => opLine o ++ ([] ++ [10])) = os.flatMap fun o => opLine o ++ (suf ++ [10])
  | [], _ => rfl
  | o :: os, h => by
    rw [List.flatMap_cons, List.flatMap_cons, deco_append, deco_append, deco_ops suf os (fun p hp => h p (by simp [hp])), deco_no10 suf (opLine o) (opLine_no10 (h o (by simp))), List.nil_append, deco_nl]
theorem deco_text (suf : List UInt8) (u : ByteArray) (y : List O4) (h : printB u y = true) : deco suf (textOf [] (lst u) y) = textOf suf (lst u) y := by
  obtain ⟨h1, h2, h3⟩ := (printB_iff _ _).1 h
  obtain ⟨f1, _, _, _⟩ := (fitsB_iff _ _).1 h1
  have hno := tit_no10 f1
  have e : ∀ s : List UInt8, textOf s (lst u) y = (titleP ++ (32 :: lst u)) ++ ((s ++ [10]) ++ y.flatMap fun o => opLine o ++ (s ++ [10])) := fun s => by unfold textOf; simp
  suffices h5 : deco suf (titleP ++ (32 :: lst u)) = titleP ++ (32 :: lst u) by
    rw [e suf, e [], deco_append, h5, deco_append, deco_ops suf y h3, List.nil_append, deco_nl]
  refine deco_no10 suf _ ?_
  intro c hm
  simp only [titleP, List.mem_append, List.mem_cons, List.mem_nil_iff, or_false] at hm
  rcases hm with (rfl | rfl | rfl | rfl | rfl) | rfl | hm
  all_goals first | decide | exact hno c hm
def headL (rem : List UInt8) : List UInt8 := 35 :: 32 :: (rem ++ [10, 32, 9, 10])
theorem marked_back (rem : List UInt8) (u : ByteArray) (y : List O4) (hr : ∀ c ∈ rem, c ≠ 10) (h : printB u y = true) : parseL (headL rem ++ deco (9 :: 32 :: 35 :: rem) (textOf [] (lst u) y)) = .ok (lst u) y := by
  rw [deco_text _ u y h]
  have e : headL rem ++ textOf (9 :: 32 :: 35 :: rem) (lst u) y = (35 :: 32 :: rem) ++ 10 :: ([32, 9] ++ 10 :: textOf (9 :: 32 :: 35 :: rem) (lst u) y) := by unfold headL; simp
  have b1 : bareL (35 :: 32 :: rem) = [] := by
    unfold bareL
    rw [show noHash (35 :: 32 :: rem) = [] from noHash_at (a := []) (fun c hc => by cases hc)]
    rfl
  have b2 : bareL [32, 9] = [] := by decide +kernel
  unfold parseL
  rw [e, pgo_line [] [] [] [] 1 (35 :: 32 :: rem) _ (by
    intro c hc
    simp only [List.mem_cons] at hc
    rcases hc with rfl | rfl | hc
    · decide
    · decide
    · exact hr c hc) (by rw [b1]; exact addL_nil [] []), pgo_line [] [] [] [] 2 [32, 9] _ (by decide) (by rw [b2]; exact addL_nil [] [])]
  exact pgo_text _ (lst u) y _ (remark_tail rem hr) (by rw [str_lst]; exact h)
theorem RO.stored {w : World} {B : Nat} {A : Option Addr} {os : List O4} (h : RO w B A os) {G : Nat} {s : ByteArray} {A' : Option Addr} {n c : Nat} (h0 : w.cell? ⟨G, 0, none⟩ = some (.string s)) (h1 : w.cell? ⟨G, 1, none⟩ = some (.slice A' n c)) (v0 v1 : Value) :
    RO ((w.setCell ⟨G, 0, none⟩ v0).setCell ⟨G, 1, none⟩ v1) B A os := fun hp => by
  obtain ⟨b, off, e, hlt, hc⟩ := h hp
  have key : ∀ (o : Nat) (x : Int), w.cell? ⟨b, o, none⟩ = some (.int .i64 x) → ((w.setCell ⟨G, 0, none⟩ v0).setCell ⟨G, 1, none⟩ v1).cell? ⟨b, o, none⟩ = some (.int .i64 x) := fun o x hx => by
    have n0 : (⟨G, 0, none⟩ : Addr) ≠ ⟨b, o, none⟩ := fun e => by rw [e, hx] at h0; cases h0
    have n1 : (⟨G, 1, none⟩ : Addr) ≠ ⟨b, o, none⟩ := fun e => by rw [e, hx] at h1; cases h1
    rw [World.cell?_setCell_other _ _ _ _ (by first | exact n1 | exact n1.symm), World.cell?_setCell_other _ _ _ _ (by first | exact n0 | exact n0.symm)]
    exact hx
  refine ⟨b, off, e, hlt, fun j hj => ?_⟩
  obtain ⟨g1, g2, g3, g4⟩ := hc j hj
  exact ⟨key _ _ g1, key _ _ g2, key _ _ g3, key _ _ g4⟩
/-- Parse of a text that has the program -/
theorem parse_yes (z u : ByteArray) (y : List O4) (n : Nat) (hn : y.length = n) (w : World) (hT : Tabs w) (hs : z.size ≤ 100000) (h : parseL (lst z) = .ok (lst u) y) :
    Calls Tryd.prog 11 #[.string z] w fun e w' => ∃ A cap, e = .returned (.tuple #[.agg #[.string u, .slice A n cap], .int .i64 0, .int .i64 0]) ∧ Hid (RO w' w'.heap.size A y) ∧ n ≤ cap ∧ cap ≤ maxLen ∧ Below w.heap.size w w' := by
  subst hn
  refine (parse_any z w hT hs).mono ?_
  intro e w' hp
  unfold Parsed at hp
  rw [h] at hp
  obtain ⟨A, cap, rfl, hr, h1, h2, hb⟩ := hp
  exact ⟨A, cap, by unfold progV; rw [str_lst], hr, h1, h2, hb⟩
theorem printB_of {u : ByteArray} {y : List O4} (h : str (printL u y) ≠ ⟨#[]⟩) : printB u y = true := by
  cases hb : printB u y with
  | true => rfl
  | false => exact absurd (printL_no hb) h

set_option maxHeartbeats 4000000 in
theorem back_law (t : ByteArray) (A : Option Addr) (x : List O4) (c : Nat) (l : ByteArray) (w : World) (hT : Tabs w) (h1 : RO w w.heap.size A x) (k1 : x.length ≤ c) (m1 : c ≤ maxLen) :
    Calls Tryd.prog 4 #[progV t A x.length c, .string l] w fun e w' => e = .returned (.bool true) ∧ Below w.heap.size w w' := by
  have HTT := Lib.hid hT; clear hT
  have H1 := Lib.hid h1; clear h1
  unfold progV
  have b0 : Below w.heap.size w (w.alloc (.cells #[.string t, .slice A x.length c] 26)) := (Below.refl _ _).alloc (Nat.le_refl _) _
  have h70 : Hid ((70 : Int) = ((70 : Nat) : Int)) := by unfold Hid; omega
  have C1 := fun W => lcut_named t A x c 70 70 h70 W (by omega) (by omega) k1 m1
  have HC1 := Lib.hid C1; clear C1
  have HC2 := Lib.hid (fun W => lawcut_n l 20 20 rfl W (by omega))
  have HT0 := Lib.hid (HTT.out.next b0)
  go_enter Tryd.func4, Tryd.ntmps4
  go_wp2_with fail
  refine (begun6_any _ HT0.out).mono ?_
  rintro e w1 ⟨rfl, hb1⟩
  obtain ⟨hc0, hc1, hf0, hf1⟩ := two_cells hb1 (by simp)
  have hb2 := b0.trans (hb1.mono (by simp))
  have hs1 := hb1.size
  rw [World.size_alloc] at hs1
  clear hb1 b0 HT0
  go_wp2_with fail
  refine (HC1.out _).mono ?_
  rintro e w2 ⟨u, y, hu, hy, rfl, hb3⟩
  have d0 := (hb3.cell (p := ⟨w.heap.size, 0, none⟩) (show w.heap.size < _ by omega)).trans hc0
  have d1 := (hb3.cell (p := ⟨w.heap.size, 1, none⟩) (show w.heap.size < _ by omega)).trans hc1
  have e0 := (hb3.frozen (p := ⟨w.heap.size, 0, none⟩) (show w.heap.size < _ by omega)).trans hf0
  have e1 := (hb3.frozen (p := ⟨w.heap.size, 1, none⟩) (show w.heap.size < _ by omega)).trans hf1
  have hb4 := hb2.trans (hb3.mono hb2.size)
  have hs2 := Nat.le_trans hs1 hb3.size
  clear hc0 hc1 hf0 hf1 hb2 hb3
  go_wp2_with fail
  refine (HC2.out _).mono ?_
  rintro e w2 ⟨rem, rfl, rfl, hrem⟩
  obtain ⟨s0, s1, sb, sz⟩ := stored2 (u := .string u) (v := .slice A y.length c) d0 d1 w.heap.size (Nat.le_refl _)
  have hbW := hb4.trans sb
  obtain ⟨ny, hny⟩ : ∃ ny, y.length = ny := ⟨_, rfl⟩
  have hyl : ny ≤ c := by rw [← hny, hy.out, List.length_take]; omega
  have hy70 : ny ≤ 70 := by rw [← hny, hy.out, List.length_take]; omega
  have hut : u.size ≤ 40 := by rw [hu.out]; exact cutT_size _
  obtain ⟨W2, hW2⟩ : ∃ W2, W2 = (w2.setCell ⟨w.heap.size, 0, none⟩ (.string u)).setCell ⟨w.heap.size, 1, none⟩ (.slice A y.length c) := ⟨_, rfl⟩
  rw [← hW2] at s0 s1 sb sz hbW
  have R0 := Lib.hid (show RO W2 w.heap.size A y by have r0 := (H1.out.below hbW).take 70; rw [← hy.out] at r0; exact r0)
  have hsW : w.heap.size + 1 ≤ W2.heap.size := by omega
  obtain ⟨z, hz⟩ : ∃ z, str (printL u y) = z := ⟨_, rfl⟩
  have hzs : z.size ≤ 3000 := by rw [← hz, str_size]; have := printL_len u y; omega
  have HNY := Lib.hid hny
  have hpa : ∀ W, Below W2.heap.size W2 W → Calls Tryd.prog 15 #[.agg #[.string u, .slice A ny c]] W fun e w' => e = .returned (.string z) ∧ Below W.heap.size W w' := fun W hW => by
    rw [← hz]
    have := print_any u A y c w.heap.size W (HTT.out.next (hbW.trans (hW.mono hbW.size))) (R0.out.below (hW.mono (by omega))) (by have := hW.size; omega) (by rw [hny]; exact hyl) m1 (by omega)
    unfold progV at this
    rw [hny] at this
    exact this
  have hpr : ∀ W, Below W2.heap.size W2 W → Calls Tryd.prog 16 #[.agg #[.string u, .slice A ny c]] W fun e w' => e = .returned (.string z) ∧ Below W.heap.size W w' := fun W hW => by
    rw [← hz]
    have := refprint_any u A y c w.heap.size W (R0.out.below (hW.mono (by omega))) (by have := hW.size; omega) (by rw [hny]; exact hyl) m1 (by omega)
    unfold progV at this
    rw [hny] at this
    exact this
  have HPA := Lib.hid hpa; have HPR := Lib.hid hpr
  rw [hny] at hW2 s1
  have S0 := Lib.hid s0; have S1 := Lib.hid s1; have HZ := Lib.hid hz
  clear s0 s1 sb sz HC1 HC2 hb4 H1 hz hu hy hpa hpr hny
  go_upto_region 5 with fail
  rw [HNY.out, ← hW2]
  have HW2 := Lib.hid hW2; clear hW2 d0 d1 e0 e1
  have s0 := S0.out; have s1 := S1.out
  go_wp2_with fail
  refine (HPA.out _ (Below.refl _ _)).mono ?_
  rintro e w3 ⟨rfl, hb5⟩
  have p0 := (hb5.cell (p := ⟨w.heap.size, 0, none⟩) (show w.heap.size < _ by omega)).trans S0.out
  have p1 := (hb5.cell (p := ⟨w.heap.size, 1, none⟩) (show w.heap.size < _ by omega)).trans S1.out
  go_wp2_with fail
  refine (HPR.out _ hb5).mono ?_
  rintro e w4 ⟨rfl, hb7⟩
  have hb8 := hb5.trans (hb7.mono hb5.size)
  replace p0 := (hb8.cell (p := ⟨w.heap.size, 0, none⟩) (show w.heap.size < _ by omega)).trans S0.out
  replace p1 := (hb8.cell (p := ⟨w.heap.size, 1, none⟩) (show w.heap.size < _ by omega)).trans S1.out
  have hb9 := hbW.trans (hb8.mono (by omega))
  have R4 := Lib.hid (R0.out.below (hb8.mono (by omega)))
  have hs4 : w.heap.size + 1 ≤ w4.heap.size := Nat.le_trans hsW hb8.size
  clear s0 s1 S0 S1 HPA HPR hb5 hb7 hb8 hbW R0 HW2 hsW
  have hzz : (z.toList != z.toList) = false := by simp
  by_cases hze : z = ⟨#[]⟩
  · subst hze
    go_wp2
    go_ret
    exact ⟨rfl, hb9⟩
  have hne := str_isEmpty' hze
  have HPB := Lib.hid (printB_of (u := u) (y := y) (by rw [HZ.out]; exact hze))
  have HZL := Lib.hid (show lst z = textOf [] (lst u) y by rw [← HZ.out, lst_str]; unfold printL; rw [if_pos HPB.out])
  have HPY := Lib.hid (parse_yes z u y ny HNY.out w4 (HTT.out.next hb9) (by omega) (by have := print_back HPB.out; rwa [← lst_str (printL u y), HZ.out] at this))
  clear hze
  go_wp2_with fail
  refine HPY.out.mono ?_
  rintro e w5 ⟨A5, c5, rfl, r5, hc5, hm5, hb5⟩
  obtain ⟨W6, hW6⟩ : ∃ W6, W6 = w5.alloc (.cells #[.string u, .slice A5 ny c5] 26) := ⟨_, rfl⟩
  have bA := (Below.refl w5.heap.size w5).alloc (Nat.le_refl _) (.cells #[.string u, .slice A5 ny c5] 26)
  rw [← hW6] at bA
  have b6 := hb9.trans ((hb5.mono hb9.size).trans (bA.mono (Nat.le_trans hb9.size hb5.size)))
  have b46 := hb5.trans (bA.mono hb5.size)
  have q0 : W6.cell? ⟨w5.heap.size, 0, none⟩ = some (.string u) := by rw [hW6]; simp
  have q1 : W6.cell? ⟨w5.heap.size, 1, none⟩ = some (.slice A5 ny c5) := by rw [hW6]; simp
  replace p0 := (b46.cell (p := ⟨w.heap.size, 0, none⟩) (show w.heap.size < _ by omega)).trans p0
  replace p1 := (b46.cell (p := ⟨w.heap.size, 1, none⟩) (show w.heap.size < _ by omega)).trans p1
  have hs6 : W6.heap.size = w5.heap.size + 1 := by rw [hW6]; simp
  have fz : W6.frozen? ⟨w5.heap.size, 0, none⟩ = false ∧ W6.frozen? ⟨w5.heap.size, 1, none⟩ = false := by
    have := two_cells (w := w5) (u := .string u) (v := .slice A5 ny c5) (T := 26) (B := w5.heap.size + 1) (by rw [← hW6]; exact Below.refl _ _) (by omega)
    exact ⟨this.2.2.1, this.2.2.2⟩
  obtain ⟨fz0, fz1⟩ := fz
  have hs5 : w.heap.size + 1 ≤ w5.heap.size := Nat.le_trans hs4 hb5.size
  have HE1 := Lib.hid (eqprog_any u u A A5 y y c c5 W6.heap.size W6 ((R4.out.below (b46.mono (by omega))).more (by omega)) (r5.out.below bA |>.more (by omega)) (Nat.le_refl _) (by rw [HNY.out]; exact hyl) (by rw [HNY.out]; exact hc5) m1 hm5 true (by simp))
  unfold progV at HE1
  rw [HNY.out] at HE1
  have R6 := Lib.hid (R4.out.below (b46.mono (by omega)))
  have HS6 := Lib.hid hs6
  clear hb5 bA hb9 b46 hs6 r5 R4 HPY
  go_upto_region 11 with fail
  rw [← hW6]
  have HW6 := Lib.hid hW6; clear hW6
  go_wp2_with fail
  refine HE1.out.mono ?_
  rintro e w7 ⟨rfl, hb7⟩
  have hg5 : w5.heap.size < W6.heap.size := by have := HS6.out; omega
  replace p0 := (hb7.cell (p := ⟨w.heap.size, 0, none⟩) (show w.heap.size < _ by omega)).trans p0
  replace p1 := (hb7.cell (p := ⟨w.heap.size, 1, none⟩) (show w.heap.size < _ by omega)).trans p1
  replace q0 := (hb7.cell (p := ⟨w5.heap.size, 0, none⟩) hg5).trans q0
  replace q1 := (hb7.cell (p := ⟨w5.heap.size, 1, none⟩) hg5).trans q1
  replace fz0 := (hb7.frozen (p := ⟨w5.heap.size, 0, none⟩) hg5).trans fz0
  replace fz1 := (hb7.frozen (p := ⟨w5.heap.size, 1, none⟩) hg5).trans fz1
  have b7 := b6.trans (hb7.mono b6.size)
  have R7 := Lib.hid (R6.out.below (hb7.mono (by omega)))
  have hg7 : w5.heap.size < w7.heap.size := Nat.lt_of_lt_of_le hg5 hb7.size
  clear hb7 R6 HE1 b6 hg5
  go_wp2_with fail
  go_loop [10] (fun iv => ∃ i : Nat, iv = .int .i64 i ∧ i ≤ rem.size ∧ Hid (∀ c ∈ (lst rem).take i, c ≠ 10)) (fun iv => rem.size - (intOf iv).toNat)
  case atStart => exact ⟨0, rfl, by omega, by unfold Hid; simp⟩
  case round =>
    obtain ⟨i, rfl, hi, HN⟩ := hrel
    by_cases hlt : i < rem.size
    · have hlt2 : (i : Int) < (rem.size : Int) := by omega
      by_cases hc10 : (rem[i]'hlt).toNat = 10
      · have hq10 : (((rem[i]'hlt).toNat : Int) == 10) = true := by rw [hc10]; rfl
        clear hc10
        go_wp2
        go_ret
        exact ⟨rfl, b7⟩
      · have hq10 : (((rem[i]'hlt).toNat : Int) == 10) = false := by rw [beq_eq_false_iff_ne]; omega
        have HN2 := Lib.hid (show ∀ c ∈ (lst rem).take (i + 1), c ≠ 10 from mem_take_more rem i 1 10 (by omega) HN.out (fun j hj => by
          obtain rfl : j = 0 := by omega
          rw [Nat.add_zero, get!_at rem i hlt]; exact hc10))
        clear hc10
        go_wp2
        go_round
        case rel => exact ⟨i + 1, by go_num, by omega, HN2⟩
        case measure => simp [intOf]; omega
    · obtain rfl : i = rem.size := by omega
      have HNO := Lib.hid (show ∀ c ∈ lst rem, c ≠ 10 by have := HN.out; rwa [List.take_of_length_le (by rw [lst_len]; exact Nat.le_refl _)] at this)
      clear HN
      go_wp2_with fail
      go_loop [11, 12] (fun sv iv => ∃ (i : Nat) (q : ByteArray), iv = .int .i64 i ∧ sv = .string q ∧ i ≤ z.size ∧ q.size ≤ rem.size + 6 + 24 * i ∧ Hid (lst q = headL (lst rem) ++ deco (9 :: 32 :: 35 :: lst rem) ((lst z).take i))) (fun _ iv => z.size - (intOf iv).toNat)
      case atStart =>
        refine ⟨0, _, rfl, rfl, by omega, ?_, ?_⟩
        · simp only [ByteArray.size_append]
          have e1 : (⟨#[35, 32]⟩ : ByteArray).size = 2 := rfl
          have e2 : (⟨#[10, 32, 9, 10]⟩ : ByteArray).size = 4 := rfl
          omega
        · unfold Hid
          rw [lst_append, lst_append, List.take_zero]
          have e1 : lst (⟨#[35, 32]⟩ : ByteArray) = [35, 32] := rfl
          have e2 : lst (⟨#[10, 32, 9, 10]⟩ : ByteArray) = [10, 32, 9, 10] := rfl
          rw [e1, e2]
          unfold headL deco
          simp
      case round =>
        obtain ⟨i, q, rfl, rfl, hi, hq, HQ⟩ := hrel
        by_cases hlt : i < z.size
        · have hlt2 : (i : Int) < (z.size : Int) := by omega
          have hle1 : (i : Int) ≤ (i : Int) + 1 := by omega
          have hle2 : (i : Int) + 1 ≤ (z.size : Int) := by omega
          have hxs : (z.extract i (i + 1)).size ≤ 1 := by rw [ByteArray.size_extract]; omega
          have hxl : lst (z.extract i (i + 1)) = [z[i]'hlt] := by
            rw [lst_extract, List.drop_take, lst_drop z i hlt, Nat.add_sub_cancel_left]; rfl
          have hdc : deco (9 :: 32 :: 35 :: lst rem) ((lst z).take (i + 1)) = deco (9 :: 32 :: 35 :: lst rem) ((lst z).take i) ++ (if z[i]'hlt = 10 then (9 :: 32 :: 35 :: lst rem) ++ [z[i]'hlt] else [z[i]'hlt]) := by
            rw [List.take_succ_eq_append_getElem (by rw [lst_len]; exact hlt), deco_append]
            have e9 : (lst z)[i]'(by rw [lst_len]; exact hlt) = z[i]'hlt := by
              have e := lst_drop z i hlt
              rw [List.drop_eq_getElem_cons (by rw [lst_len]; exact hlt)] at e
              exact (List.cons.inj e).1
            rw [e9]
            unfold deco
            rw [show deco (9 :: 32 :: 35 :: lst rem) [] = [] from rfl, List.append_nil]
          by_cases hc10 : (z[i]'hlt).toNat = 10
          · have hq10 : (((z[i]'hlt).toNat : Int) == 10) = true := by rw [hc10]; rfl
            rw [if_pos (UInt8.toNat_inj.1 hc10)] at hdc
            have HD := Lib.hid hdc; have HXL := Lib.hid hxl
            clear hc10 hdc hxl
            go_wp2
            go_round
            case rel =>
              refine ⟨i + 1, _, by go_num, rfl, by omega, ?_, ?_⟩
              · simp only [ByteArray.size_append]
                have e1 : (⟨#[9, 32, 35]⟩ : ByteArray).size = 3 := rfl
                omega
              · unfold Hid
                have e1 : lst (⟨#[9, 32, 35]⟩ : ByteArray) = [9, 32, 35] := rfl
                rw [lst_append, lst_append, lst_append, HQ.out, e1, HXL.out, HD.out]
                simp
            case measure => simp [intOf]; omega
          · have hq10 : (((z[i]'hlt).toNat : Int) == 10) = false := by rw [beq_eq_false_iff_ne]; omega
            rw [if_neg (fun e => hc10 (congrArg UInt8.toNat e))] at hdc
            have HD := Lib.hid hdc; have HXL := Lib.hid hxl
            clear hc10 hdc hxl
            go_wp2
            go_round
            case rel =>
              refine ⟨i + 1, _, by go_num, rfl, by omega, ?_, ?_⟩
              · simp only [ByteArray.size_append]
                omega
              · unfold Hid
                rw [lst_append, HQ.out, HXL.out, HD.out]
                simp
            case measure => simp [intOf]; omega
        · obtain rfl : i = z.size := by omega
          have HPQ := Lib.hid (parse_yes q u y ny HNY.out w7 (HTT.out.next b7) (by omega) (by
            have e := HQ.out
            rw [List.take_of_length_le (by rw [lst_len]; exact Nat.le_refl _), HZL.out] at e
            rw [e]
            exact marked_back (lst rem) u y HNO.out HPB.out))
          clear HQ
          go_wp2_with fail
          refine HPQ.out.mono ?_
          rintro e w8 ⟨A8, c8, rfl, r8, hc8, hm8, hb8⟩
          replace p0 := (hb8.cell (p := ⟨w.heap.size, 0, none⟩) (show w.heap.size < _ by omega)).trans p0
          replace p1 := (hb8.cell (p := ⟨w.heap.size, 1, none⟩) (show w.heap.size < _ by omega)).trans p1
          replace q0 := (hb8.cell (p := ⟨w5.heap.size, 0, none⟩) hg7).trans q0
          replace q1 := (hb8.cell (p := ⟨w5.heap.size, 1, none⟩) hg7).trans q1
          replace fz0 := (hb8.frozen (p := ⟨w5.heap.size, 0, none⟩) hg7).trans fz0
          replace fz1 := (hb8.frozen (p := ⟨w5.heap.size, 1, none⟩) hg7).trans fz1
          have b8 := b7.trans (hb8.mono b7.size)
          obtain ⟨s0, s1, sb, sz⟩ := stored2 (u := .string u) (v := .slice A8 ny c8) q0 q1 w5.heap.size (Nat.le_refl _)
          obtain ⟨W9, hW9⟩ : ∃ W9, W9 = (w8.setCell ⟨w5.heap.size, 0, none⟩ (.string u)).setCell ⟨w5.heap.size, 1, none⟩ (.slice A8 ny c8) := ⟨_, rfl⟩
          have R8 := Lib.hid (r8.out.stored q0 q1 (.string u) (.slice A8 ny c8))
          rw [← hW9] at s0 s1 sb sz R8
          have R9 := Lib.hid ((R7.out.below (hb8.mono (by omega))).below (sb.mono (by omega)))
          have g0 := (sb.cell (p := ⟨w.heap.size, 0, none⟩) (show w.heap.size < _ by omega)).trans p0
          have g1 := (sb.cell (p := ⟨w.heap.size, 1, none⟩) (show w.heap.size < _ by omega)).trans p1
          have b9 := b8.trans (sb.mono (by omega))
          have HE2 := Lib.hid (eqprog_any u u A A8 y y c c8 W9.heap.size W9 (R9.out.more (by have := b9.size; omega)) (R8.out.more (by rw [sz]; exact Nat.le_refl _)) (Nat.le_refl _) (by rw [HNY.out]; exact hyl) (by rw [HNY.out]; exact hc8) m1 hm8 true (by simp))
          unfold progV at HE2
          rw [HNY.out] at HE2
          clear r8 R8 R9 R7 sb sz hb8 HPQ b7 b8
          go_upto_region 26 with fail
          rw [← hW9]
          have HW9 := Lib.hid hW9; clear hW9 p0 p1 q0 q1 fz0 fz1
          go_wp2_with fail
          refine HE2.out.mono ?_
          rintro e w10 ⟨rfl, hb10⟩
          have bf := b9.trans (hb10.mono b9.size)
          go_wp2
          go_ret
          exact ⟨rfl, bf⟩
end Go.Proofs.YthidkkjhpdcenaaDoor

/- XFAsmBack -/
namespace Go.Proofs.YthidkkjhpdcenaaDoor.lawAsmBack
open Go.ChangeShapes Go.WideShapes Go.ChangeAt Go.RowKit
open Go.ChangeMaps (open_string shut_string)
set_option linter.unusedVariables false

set_option maxRecDepth 100000 in
theorem lifted (os : Os) (started : os.Started) (H : Type) (enc : TypeId × Value → H) :
    ReturnsInHanded {} Tryd.checked os 4 .any (fun w args => (Rows.asmBackSpec.pre enc Tryd.prog Tryd.f4 [] false w args ∧ laidMetH Tryd.prog asmLaid w) ∧ sizedMet enc Tryd.prog Tryd.f4 (OpenSpec.ofChange Rows.asmBackSpec) false w args)
      (Rows.asmBackSpec.post enc Tryd.prog Tryd.f4 false true false false) := by
  refine returnsInHanded_of_change_and (C := Tryd.checked) (X := fun w _ => laidMetH Tryd.prog asmLaid w) (fun _ _ _ hh h => h.of_heap hh) kitOwn started (by kernel_rfl) Tryd.func4
    (ChangeSpec.witness_shaped (enc := enc) (C := Tryd.checked) (os := os) (X := fun w _ => laidMetH Tryd.prog asmLaid w) false (World.laidAll Tryd.prog os asmLaid) #[.agg #[.string ⟨#[]⟩, .slice none 0 0], .string ⟨#[]⟩] 8 (World.laidAll_os _ _ _) (World.shaped_of_ZipB (by kernel_rfl) (by kernel_rfl)) (by kernel_rfl) (by kernel_rfl) (by kernel_rfl) (by rw [MakeChecks.laidMetH_plain _ _ _ (by kernel_rfl)]; exact laidMet_laidAll _ (by kernel_rfl) (by kernel_rfl))) ?_
  intro W base args ds gs before hval0 hW _ _ hL _
  have hval : ∀ (j : Nat) t v, Tryd.f4.params[j]? = some t → args[j]? = some v → Value.okWide Tryd.prog W .any base t v := hval0
  have hW' := hW
  obtain ⟨p, q, hA0, hV, hpq, hfz, hnd⟩ := hW
  have hA : DataW.TrodAll enc Tryd.prog W 0 (fun _ => true) true Tryd.f4.params.toList args.toList ds p := hA0
  rw [Tryd.params4] at hA hval
  obtain ⟨v0, vs0, d0, ds0, p0, q0, hargs, rfl, rfl, h0, r_0⟩ := trodAll_cons hA
  obtain ⟨v1, vs1, d1, ds1, p1, q1, rfl, rfl, rfl, h1, r_1⟩ := trodAll_cons r_0
  obtain ⟨rfl, rfl, rfl⟩ := trodAll_nil r_1
  obtain rfl : args = #[v0, v1] := by cases args; simp_all
  obtain ⟨rfl, rfl⟩ := trodVars_none hV
  obtain ⟨t0, A0, l0, cap0, rfl, r0, c0, m0, z0, s0⟩ := open_prog (hval 0 26 v0 rfl rfl) h0
  obtain ⟨a1, rfl, rfl, rfl, w1⟩ := open_string Tryd.underlying9 (hval 1 9 v1 rfl rfl) h1
  have hT := tabs_met hL
  refine (back_law t0 A0 l0 cap0 a1 W hT r0 c0 m0).mono fun e W' ⟨he, bel⟩ => ?_
  subst he
  exact ⟨_, rfl, law_post hW' rfl (by kernel_rfl) (by kernel_rfl) rfl bel⟩

theorem over : Rows.asmBackRow.holds Tryd.pinned (OpenSpec.ofChange Rows.asmBackSpec) :=
  OpenClaim.holds_of_wide 4 Tryd.f4 rfl rfl rfl rfl rfl rfl rfl ⟨rfl, rfl, rfl, rfl, rfl⟩ rfl rfl rfl rfl rfl (by kernel_rfl) Tryd.func4 (by kernel_rfl)
    (of_decide_eq_true (by kernel_rfl)) (by unfold Func.isWrapper; first | (rw [if_pos (by decide +kernel)]; kernel_rfl) | (rw [if_neg (by decide +kernel)]; exact ⟨rfl, rfl⟩))
    (fun os started H enc _ => lifted os started H enc)

/-- THE STATEMENT. -/
theorem proved : Rows.AsmBackCardSaid :=
  Claim7.holds_tied_plain_at .later [] [.data, .data, .data, .data, .data, .pinned] true (true, "1bb640c40527068aa36876e14cc58c7fc31d04e6f4e8ded18eba43044d75571b") false
    over (fun _ h => by cases h) (by kernel_rfl) (fun _ h => by cases h) asmBack_row_tie rfl ⟨rfl, rfl⟩ (by kernel_rfl) rfl
    (fun f fn hf hfn => by
      obtain rfl : f = 4 := Option.some.inj ((show Tryd.prog.funcNamed "quintain/quintainlaw6.AsmBack" = some 4 by kernel_rfl).symm.trans hf) |>.symm
      obtain rfl : fn = Tryd.f4 := (Option.some.inj (Tryd.func4.symm.trans hfn)).symm
      exact ⟨by kernel_rfl, fun j t ht => by
        rw [Tryd.params4] at ht
        have hm : t ∈ [26, 9] := by simpa using Array.mem_of_getElem? ht
        have hall : ([26, 9].all fun u => !Tryd.prog.wantsStandIn u) = true := by kernel_rfl
        exact (show Tryd.prog.wantsStandIn t = false by simpa using List.all_eq_true.1 hall t hm)⟩)
    (by kernel_rfl)
#print axioms proved
end Go.Proofs.YthidkkjhpdcenaaDoor.lawAsmBack
