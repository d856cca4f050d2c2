/- WHAT THE ROWS LIST GIVES THE TABLES. -/
import Derived.Test.YthidkkjhpdcenaaDoorRows
import Derived.Test.YthidkkjhpdcenaaDoorSa
import Derived.MakeChecks
import Derived.OpenShut
namespace Go.Proofs.YthidkkjhpdcenaaDoor
set_option maxRecDepth 100000
open Go.RowKit Go.ChangeShapes
set_option linter.unusedVariables false

def asmLaid : List (String × DataW Unit) := [("math/bits.deBruijn32tab", Rows.laid_math_bits_deBruijn32tab), ("math/bits.deBruijn64tab", Rows.laid_math_bits_deBruijn64tab), ("internal/strconv.uint64pow10", Rows.laid_internal_strconv_uint64pow10), ("unicode/utf8.acceptRanges", Rows.laid_unicode_utf8_acceptRanges), ("quintain/asm.kinds", Rows.laid_quintain_asm_kinds), ("unicode/utf8.first", Rows.laid_unicode_utf8_first)]
theorem gKinds : Tryd.prog.globalNamed "quintain/asm.kinds" = some 0 := by kernel_rfl
def strOf : DataW Unit → List UInt8
  | .agg [.lit (.string s), _] => s
  | _ => []
def intOfD : DataW Unit → Int
  | .agg [_, .lit (.int _ n)] => n
  | _ => 0
def kindsD : List (DataW Unit) := match (Rows.laid_quintain_asm_kinds : DataW Unit) with
  | .agg xs => xs
  | _ => []
theorem kindsD_is : (Rows.laid_quintain_asm_kinds : DataW Unit) = .agg kindsD := rfl
theorem kindsD_at (k : Nat) (h : k < 16) : kindsD[k]? = some (.agg [.lit (.string (nameL k)), .lit (.int .i64 (takesL k : Int))]) := by
  rcases (by omega : k = 0 ∨ k = 1 ∨ k = 2 ∨ k = 3 ∨ k = 4 ∨ k = 5 ∨ k = 6 ∨ k = 7 ∨ k = 8 ∨ k = 9 ∨ k = 10 ∨ k = 11 ∨ k = 12 ∨ k = 13 ∨ k = 14 ∨ k = 15) with rfl | rfl | rfl | rfl | rfl | rfl | rfl | rfl | rfl | rfl | rfl | rfl | rfl | rfl | rfl | rfl <;> rfl
theorem tabs_met {W : World} (h : laidMetH Tryd.prog asmLaid W) : Tabs W := by
  rw [MakeChecks.laidMetH_plain _ _ _ (by kernel_rfl)] at h
  obtain ⟨ps, hl, _, _⟩ := h
  obtain ⟨g1, t1, cs1, f1, p1, q1, _, _, _, _, hl1, _⟩ := hl
  obtain ⟨g2, t2, cs2, f2, p2, q2, _, _, _, _, hl2, _⟩ := hl1
  obtain ⟨g3, t3, cs3, f3, p3, q3, hg3, ht3, hv3, hd3, hl3, _⟩ := hl2
  obtain ⟨g4, t4, cs4, f4, p4, q4, _, _, _, _, hl4, _⟩ := hl3
  obtain ⟨g5, t5, cs5, f5, p5, q5, hg5, ht5, hv5, hd5, _, _⟩ := hl4
  obtain rfl := Option.some.inj (gPow.symm.trans hg3)
  obtain rfl := Option.some.inj ((show (Tryd.prog.globals[3]?).map (·.type) = some 108 by kernel_rfl).symm.trans ht3)
  obtain rfl := Option.some.inj (gKinds.symm.trans hg5)
  obtain rfl := Option.some.inj ((show (Tryd.prog.globals[0]?).map (·.type) = some 72 by kernel_rfl).symm.trans ht5)
  have hP : TabP W := by
    unfold TabP Lib.TabIs
    rw [hv3, ← Lib.cells_of_tab Tryd.underlying108 Tryd.underlying89 (by kernel_rfl) (by kernel_rfl) (show _ = some (Lib.tabData .u64 Lib.pow10Tab, p3) from hd3)]
  have hK : TabK W := by
    obtain ⟨xs, m, _, ex, _, hlen, hel⟩ := DataW.trod_array Tryd.underlying72 hd5
    have e3 : xs.map (·.1) = kindsD := by
      have := (Prod.mk.inj ex).1
      rw [kindsD_is] at this
      exact (DataW.agg.inj this).symm
    have c2 : Tryd.prog.cellsOf 71 = 2 := by kernel_rfl
    have cs1' : Tryd.prog.cellsOf 9 = 1 := by kernel_rfl
    have ci1' : Tryd.prog.cellsOf 3 = 1 := by kernel_rfl
    intro k hk
    have hE := hel k hk
    rw [c2] at hE
    have hx : ∃ x, xs[k]? = some x := ⟨xs[k], List.getElem?_eq_getElem (by omega)⟩
    obtain ⟨x, hx⟩ := hx
    have hx1 : x.1 = .agg [.lit (.string (nameL k)), .lit (.int .i64 (takesL k : Int))] := by
      have e4 : (xs.map (·.1))[k]? = kindsD[k]? := by rw [e3]
      rw [List.getElem?_map, hx, kindsD_at k hk] at e4
      exact Option.some.inj e4
    rw [hx] at hE
    obtain ⟨y0, y1, n, hy, _, hs0, hs1⟩ := trod_struct2 Tryd.underlying71 hE
    rw [hy] at hx1
    have hx2 := DataW.agg.inj hx1
    injection hx2 with ha hb
    injection hb with hb _
    obtain ⟨s, es, ey0, _⟩ := DataW.trod_string Tryd.underlying9 hs0
    obtain ⟨z, ez, ey1, _⟩ := DataW.trod_int Tryd.underlying3 hs1
    rw [ey0] at ha
    rw [ey1] at hb
    have hs : s = str (nameL k) := by
      have : s.data.toList = nameL k := by injection ha with ha; injection ha
      rw [← this]
      rfl
    have hz : z = (takesL k : Int) := by injection hb with hb; injection hb
    subst hs hz
    have d0 : cs5.toList[2 * k]? = some (.string (str (nameL k))) := by
      have h0 := congrArg (·[0]?) es
      simp [List.getElem?_drop, cs1'] at h0
      rw [Nat.mul_comm]; simpa using h0
    have d1 : cs5.toList[2 * k + 1]? = some (.int .i64 (takesL k : Int)) := by
      have h0 := congrArg (·[0]?) ez
      simp [List.getElem?_drop, ci1'] at h0
      rw [Nat.mul_comm 2 k]; simpa using h0
    rw [World.var?_cell gKinds hv5, World.var?_cell gKinds hv5]
    exact ⟨by simpa using d0, by simpa using d1⟩
  have hsz : ∀ (nm : String) (g : Nat) cs, Tryd.prog.globalNamed nm = some g → W.var? Tryd.prog nm = some cs → g < W.heap.size := by
    intro nm g cs hg hv
    unfold World.var? at hv
    rw [hg] at hv
    simp only [Option.bind_some] at hv
    by_cases hlt : g < W.heap.size
    · exact hlt
    · rw [Array.getElem?_eq_none (by omega)] at hv
      cases hv
  exact ⟨hK, hP, hsz _ _ _ gKinds hv5, hsz _ _ _ gPow hv3⟩
end Go.Proofs.YthidkkjhpdcenaaDoor
