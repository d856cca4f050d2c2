/- MERGED of XUt XNx XUg XFAsmNames -/
import Derived.Test.YthidkkjhpdcenaaDoorRows
import Derived.Test.YthidkkjhpdcenaaDoorSa
import Derived.MakeChecks
import Derived.OpenShut
import Derived.Test.YthidkkjhpdcenaaDoorRj
import Derived.Test.YthidkkjhpdcenaaDoorUa
import Derived.Test.YthidkkjhpdcenaaDoorPc
import Derived.BigQuiet
import Derived.Deep.DeepCutAuto
import Derived.Test.YthidkkjhpdcenaaDoorCards
import Derived.Test.YthidkkjhpdcenaaDoorTie
import Derived.SevenTiedAt
import Derived.Lay
import Derived.LaidMore
import Derived.Test.YthidkkjhpdcenaaDoorKb
/- XUt -/
namespace Go.Proofs.YthidkkjhpdcenaaDoor
set_option maxRecDepth 100000
open Go.RowKit Go.ChangeShapes
set_option linter.unusedVariables false

def asmLaid : List (String × DataW Unit) := [("math/bits.deBruijn32tab", Rows.laid_math_bits_deBruijn32tab), ("math/bits.deBruijn64tab", Rows.laid_math_bits_deBruijn64tab), ("internal/strconv.uint64pow10", Rows.laid_internal_strconv_uint64pow10), ("unicode/utf8.acceptRanges", Rows.laid_unicode_utf8_acceptRanges), ("quintain/asm.kinds", Rows.laid_quintain_asm_kinds), ("unicode/utf8.first", Rows.laid_unicode_utf8_first)]
theorem gKinds : Tryd.prog.globalNamed "quintain/asm.kinds" = some 0 := by kernel_rfl
def strOf : DataW Unit → List UInt8
  | .agg [.lit (.string s), _] => s
  | _ => []
def intOfD : DataW Unit → Int
  | .agg [_, .lit (.int _ n)] => n
  | _ => 0
def kindsD : List (DataW Unit) := match (Rows.laid_quintain_asm_kinds : DataW Unit) with
  | .agg xs => xs
  | _ => []
theorem kindsD_is : (Rows.laid_quintain_asm_kinds : DataW Unit) = .agg kindsD := rfl
theorem kindsD_at (k : Nat) (h : k < 16) : kindsD[k]? = some (.agg [.lit (.string (nameL k)), .lit (.int .i64 (takesL k : Int))]) := by
  rcases (by omega : k = 0 ∨ k = 1 ∨ k = 2 ∨ k = 3 ∨ k = 4 ∨ k = 5 ∨ k = 6 ∨ k = 7 ∨ k = 8 ∨ k = 9 ∨ k = 10 ∨ k = 11 ∨ k = 12 ∨ k = 13 ∨ k = 14 ∨ k = 15) with rfl | rfl | rfl | rfl | rfl | rfl | rfl | rfl | rfl | rfl | rfl | rfl | rfl | rfl | rfl | rfl <;> rfl
theorem tabs_met {W : World} (h : laidMetH Tryd.prog asmLaid W) : Tabs W := by
  rw [MakeChecks.laidMetH_plain _ _ _ (by kernel_rfl)] at h
  obtain ⟨ps, hl, _, _⟩ := h
  obtain ⟨g1, t1, cs1, f1, p1, q1, _, _, _, _, hl1, _⟩ := hl
  obtain ⟨g2, t2, cs2, f2, p2, q2, _, _, _, _, hl2, _⟩ := hl1
  obtain ⟨g3, t3, cs3, f3, p3, q3, hg3, ht3, hv3, hd3, hl3, _⟩ := hl2
  obtain ⟨g4, t4, cs4, f4, p4, q4, _, _, _, _, hl4, _⟩ := hl3
  obtain ⟨g5, t5, cs5, f5, p5, q5, hg5, ht5, hv5, hd5, _, _⟩ := hl4
  obtain rfl := Option.some.inj (gPow.symm.trans hg3)
  obtain rfl := Option.some.inj ((show (Tryd.prog.globals[3]?).map (·.type) = some 108 by kernel_rfl).symm.trans ht3)
  obtain rfl := Option.some.inj (gKinds.symm.trans hg5)
  obtain rfl := Option.some.inj ((show (Tryd.prog.globals[0]?).map (·.type) = some 72 by kernel_rfl).symm.trans ht5)
  have hP : TabP W := by
    unfold TabP Lib.TabIs
    rw [hv3, ← Lib.cells_of_tab Tryd.underlying108 Tryd.underlying89 (by kernel_rfl) (by kernel_rfl) (show _ = some (Lib.tabData .u64 Lib.pow10Tab, p3) from hd3)]
  have hK : TabK W := by
    obtain ⟨xs, m, _, ex, _, hlen, hel⟩ := DataW.trod_array Tryd.underlying72 hd5
    have e3 : xs.map (·.1) = kindsD := by
      have := (Prod.mk.inj ex).1
      rw [kindsD_is] at this
      exact (DataW.agg.inj this).symm
    have c2 : Tryd.prog.cellsOf 71 = 2 := by kernel_rfl
    have cs1' : Tryd.prog.cellsOf 9 = 1 := by kernel_rfl
    have ci1' : Tryd.prog.cellsOf 3 = 1 := by kernel_rfl
    intro k hk
    have hE := hel k hk
    rw [c2] at hE
    have hx : ∃ x, xs[k]? = some x := ⟨xs[k], List.getElem?_eq_getElem (by omega)⟩
    obtain ⟨x, hx⟩ := hx
    have hx1 : x.1 = .agg [.lit (.string (nameL k)), .lit (.int .i64 (takesL k : Int))] := by
      have e4 : (xs.map (·.1))[k]? = kindsD[k]? := by rw [e3]
      rw [List.getElem?_map, hx, kindsD_at k hk] at e4
      exact Option.some.inj e4
    rw [hx] at hE
    obtain ⟨y0, y1, n, hy, _, hs0, hs1⟩ := trod_struct2 Tryd.underlying71 hE
    rw [hy] at hx1
    have hx2 := DataW.agg.inj hx1
    injection hx2 with ha hb
    injection hb with hb _
    obtain ⟨s, es, ey0, _⟩ := DataW.trod_string Tryd.underlying9 hs0
    obtain ⟨z, ez, ey1, _⟩ := DataW.trod_int Tryd.underlying3 hs1
    rw [ey0] at ha
    rw [ey1] at hb
    have hs : s = str (nameL k) := by
      have : s.data.toList = nameL k := by injection ha with ha; injection ha
      rw [← this]
      rfl
    have hz : z = (takesL k : Int) := by injection hb with hb; injection hb
    subst hs hz
    have d0 : cs5.toList[2 * k]? = some (.string (str (nameL k))) := by
      have h0 := congrArg (·[0]?) es
      simp [List.getElem?_drop, cs1'] at h0
      rw [Nat.mul_comm]; simpa using h0
    have d1 : cs5.toList[2 * k + 1]? = some (.int .i64 (takesL k : Int)) := by
      have h0 := congrArg (·[0]?) ez
      simp [List.getElem?_drop, ci1'] at h0
      rw [Nat.mul_comm 2 k]; simpa using h0
    rw [World.var?_cell gKinds hv5, World.var?_cell gKinds hv5]
    exact ⟨by simpa using d0, by simpa using d1⟩
  have hsz : ∀ (nm : String) (g : Nat) cs, Tryd.prog.globalNamed nm = some g → W.var? Tryd.prog nm = some cs → g < W.heap.size := by
    intro nm g cs hg hv
    unfold World.var? at hv
    rw [hg] at hv
    simp only [Option.bind_some] at hv
    by_cases hlt : g < W.heap.size
    · exact hlt
    · rw [Array.getElem?_eq_none (by omega)] at hv
      cases hv
  exact ⟨hK, hP, hsz _ _ _ gKinds hv5, hsz _ _ _ gPow hv3⟩
end Go.Proofs.YthidkkjhpdcenaaDoor

/- XNx -/
namespace Go.Proofs.YthidkkjhpdcenaaDoor
open Go.RowKit
set_option linter.unusedVariables false
theorem pow_step {M k : Nat} (h : M < 10 ^ k) (h0 : 0 < M) : ∃ k', k = k' + 1 ∧ Hid (M / 10 < 10 ^ k') := by
  cases k with
  | zero => simp at h; omega
  | succ k =>
    refine ⟨k, rfl, ?_⟩
    rw [Nat.pow_succ] at h
    unfold Hid
    omega
set_option maxRecDepth 100000 in
set_option maxHeartbeats 1000000 in
theorem decimal64_neg (n : Int) (w : World) (h0 : n < 0) (h1 : -9223372036854775808 ≤ n) :
    Calls Tryd.prog 18 #[.int .i64 n] w fun e w' => e = .returned (.string ⟨(Lib.itoa n).toArray⟩) ∧ Below w.heap.size w w' := by
  have hn0 : (n == 0) = false := by rw [beq_eq_false_iff_ne]; omega
  obtain ⟨N, hN⟩ : ∃ N : Nat, n = -(N : Int) := ⟨n.natAbs, by omega⟩
  have hit : Lib.itoa n = 45 :: Lib.decDigits N := by
    rw [Lib.itoa, if_pos h0]
    congr 1; congr 1; omega
  have HIT := Lib.hid hit; clear hit
  have HN := Lib.hid hN; clear hN
  go_enter Tryd.func18, Tryd.ntmps18
  go_wp2
  go_loopw [3, 4] (fun sv mv wr => ∃ (M k : Nat) (c : ByteArray), mv = .int .i64 (-(M : Int)) ∧ sv = .string c ∧ M ≤ 9223372036854775808 ∧ c.size + k ≤ 20 ∧ Hid (M < 10 ^ k) ∧ Hid (DecInv N M c) ∧ Below w.heap.size w wr) (fun _ mv _ => (intOf mv).natAbs)
  case atStart => exact ⟨N, 19, ⟨#[]⟩, by rw [HN.out], rfl, by have := HN.out; omega, by decide, by have := HN.out; show N < 10000000000000000000; omega, ⟨fun _ => by simp [lst], fun h => by have := HN.out; omega⟩, Below.refl _ _⟩
  case round =>
    obtain ⟨M, k, c, rfl, rfl, hM, hc, HK, HP, hb⟩ := hrel
    by_cases h : 0 < M
    · obtain ⟨k', hk', HK'⟩ := pow_step HK.out h
      have hm : (-(M : Int) != 0) = true := by simp; omega
      have hcv := conv1 wr
      have hB := (hb.alloc hb.size (.cells #[.int .u8 (48 + (M : Int) % 10)] 5))
      have hB0 := (hb.alloc hb.size (.cells #[.int .u8 (48 + -((M : Int) % 10))] 5))
      by_cases hd : M % 10 = 0
      · have HD := Lib.hid hd
        have hd1 : ¬ (0 : Int) < (M : Int) % 10 := by omega
        clear hd
        go_wp2
        go_roundw
        case rel =>
          refine ⟨M / 10, k', _, by go_num, rfl, by omega, ?_, HK', HP.out.step h _ (by have := HD.out; omega), by assumption⟩
          rw [size_cons]; omega
        case measure => simp [intOf]; omega
      · have hd1 : (0 : Int) < (M : Int) % 10 := by omega
        clear hd
        go_wp2
        go_roundw
        case rel =>
          refine ⟨M / 10, k', _, by go_num, rfl, by omega, ?_, HK', HP.out.step h _ (by omega), by assumption⟩
          rw [size_cons]; omega
        case measure => simp [intOf]; omega
    · obtain rfl : M = 0 := by omega
      have hm : (-((0 : Nat) : Int) != 0) = false := by decide
      go_wp2
      go_ret
      refine ⟨?_, hb⟩
      rw [HIT.out, HP.out.2 rfl]
      have e : lst ((⟨#[45]⟩ : ByteArray) ++ c) = 45 :: lst c := lst_cons 45 c
      rw [← e, ← of_lst]; rfl

set_option maxRecDepth 100000 in
set_option maxHeartbeats 1000000 in
theorem decimal64_pos (n : Int) (w : World) (h0 : 0 < n) (h1 : n ≤ 9223372036854775807) :
    Calls Tryd.prog 18 #[.int .i64 n] w fun e w' => e = .returned (.string ⟨(Lib.itoa n).toArray⟩) ∧ Below w.heap.size w w' := by
  have hn0 : (n == 0) = false := by rw [beq_eq_false_iff_ne]; omega
  obtain ⟨N, hN⟩ : ∃ N : Nat, n = (N : Int) := ⟨n.natAbs, by omega⟩
  have hit : Lib.itoa n = Lib.decDigits N := by
    rw [Lib.itoa, if_neg (by omega)]
    congr 1; omega
  have HIT := Lib.hid hit; clear hit
  have HN := Lib.hid hN; clear hN
  have hn1 := Lib.hid h1; clear h1
  go_enter Tryd.func18, Tryd.ntmps18
  go_wp2
  go_loopw [3, 4] (fun sv mv wr => ∃ (M k : Nat) (c : ByteArray), mv = .int .i64 ((M : Int)) ∧ sv = .string c ∧ M ≤ 9223372036854775807 ∧ c.size + k ≤ 20 ∧ Hid (M < 10 ^ k) ∧ Hid (DecInv N M c) ∧ Below w.heap.size w wr) (fun _ mv _ => (intOf mv).natAbs)
  case atStart => exact ⟨N, 19, ⟨#[]⟩, by rw [HN.out], rfl, by have := HN.out; have := hn1.out; omega, by decide, by have := HN.out; have := hn1.out; show N < 10000000000000000000; omega, ⟨fun _ => by simp [lst], fun h => by have := HN.out; omega⟩, Below.refl _ _⟩
  case round =>
    obtain ⟨M, k, c, rfl, rfl, hM, hc, HK, HP, hb⟩ := hrel
    by_cases h : 0 < M
    · obtain ⟨k', hk', HK'⟩ := pow_step HK.out h
      have hm : ((M : Int) != 0) = true := by simp; omega
      have hcv := conv1 wr
      have hB := (hb.alloc hb.size (.cells #[.int .u8 (48 + (M : Int) % 10)] 5))
      have hB0 := (hb.alloc hb.size (.cells #[.int .u8 (48 + -((M : Int) % 10))] 5))
      by_cases hd : M % 10 = 0
      · have HD := Lib.hid hd
        have hd1 : ¬ (0 : Int) < (M : Int) % 10 := by omega
        clear hd
        go_wp2
        go_roundw
        case rel =>
          refine ⟨M / 10, k', _, by go_num, rfl, by omega, ?_, HK', HP.out.step h _ (by have := HD.out; omega), by assumption⟩
          rw [size_cons]; omega
        case measure => simp [intOf]; omega
      · have hd1 : (0 : Int) < (M : Int) % 10 := by omega
        clear hd
        go_wp2
        go_roundw
        case rel =>
          refine ⟨M / 10, k', _, by go_num, rfl, by omega, ?_, HK', HP.out.step h _ (by omega), by assumption⟩
          rw [size_cons]; omega
        case measure => simp [intOf]; omega
    · obtain rfl : M = 0 := by omega
      have hm : (((0 : Nat) : Int) != 0) = false := by decide
      go_wp2
      go_ret
      refine ⟨?_, hb⟩
      rw [HIT.out, HP.out.2 rfl]
      rw [← of_lst]; rfl

theorem decimal64_any (n : Int) (w : World) (h1 : -9223372036854775808 ≤ n) (h2 : n ≤ 9223372036854775807) :
    Calls Tryd.prog 18 #[.int .i64 n] w fun e w' => e = .returned (.string ⟨(Lib.itoa n).toArray⟩) ∧ Below w.heap.size w w' := by
  by_cases h0 : n = 0
  · subst h0; exact decimal_0 w
  · by_cases hn : n < 0
    · exact decimal64_neg n w hn h1
    · exact decimal64_pos n w (by omega) (by omega)
theorem digs_len : ∀ (k N : Nat), N < 10 ^ (k + 1) → (Lib.decDigits N).length ≤ k + 1
  | 0, N, h => by
    rw [Lib.decDigits, dif_pos (by omega)]; simp
  | k + 1, N, h => by
    rw [Lib.decDigits]
    split
    · simp
    · rw [Nat.pow_succ] at h
      have := digs_len k (N / 10) (by omega)
      rw [List.length_append]
      simp only [List.length_cons, List.length_nil]
      omega
theorem itoa64_len (n : Int) (h1 : -9223372036854775808 ≤ n) (h2 : n ≤ 9223372036854775807) : (Lib.itoa n).length ≤ 20 := by
  rw [Lib.itoa]
  split
  · have := digs_len 18 n.natAbs (by show _ < 10000000000000000000; omega)
    rw [List.length_cons]; omega
  · have := digs_len 18 n.toNat (by show _ < 10000000000000000000; omega)
    omega
end Go.Proofs.YthidkkjhpdcenaaDoor

/- XUg -/
namespace Go.Proofs.YthidkkjhpdcenaaDoor
set_option maxRecDepth 100000
open Go.RowKit
set_option linter.unusedVariables false
attribute [local go_sem ↓] Go.wp_at_zero Go.wp_at_succ

/-! ### plain -/
def titT : List UInt8 := [116, 105, 116, 108, 101, 32, 116]
def nmLine (k : Nat) (l : List Int) : List UInt8 := joinW (nameL k) (l.map Lib.itoa)
theorem add_t : addL [] [] (bareL titT) = some ([116], []) := by kernel_rfl
theorem names_bad (k : Nat) (hk : k < 16) (l : List Int) (h : l.length ≠ takesL k ∨ ∃ x ∈ l, ¬ sml x) : parseL (titT ++ 10 :: nmLine k l) = .bad 2 := by
  have hs := map_solid l
  have hw := name_solid k hk
  unfold parseL
  rw [pgo_line [] [116] [] [] 1 titT _ (by decide) add_t]
  refine pgo_last_bad _ _ _ _ (fun c hc => (joinW_mem hw hs hc).2) ?_
  unfold nmLine
  rw [(joinW_clean _ _ hw hs).bare]
  unfold addL
  rw [if_neg (joinW_ne _ _ hw), if_neg (by decide), if_pos (show ([] : List O4).length < 64 by decide), wordsL_joinW _ _ hw hs, readW_name k hk]
  rcases h with h | h
  · rw [if_neg (by rw [List.length_map]; exact h)]; rfl
  · rw [numsL_far l h]
    split <;> rfl
theorem names_ok (k : Nat) (hk : k < 16) (l : List Int) (h1 : l.length = takesL k) (h2 : ∀ x ∈ l, sml x) : parseL (titT ++ 10 :: nmLine k l) = .ok [116] [opOf k l] := by
  have hs := map_solid l
  have hw := name_solid k hk
  unfold parseL
  rw [pgo_line [] [116] [] [] 1 titT _ (by decide) add_t]
  refine (pgo_last [116] [116] [] [opOf k l] 2 (joinW (nameL k) (l.map Lib.itoa)) (fun c hc => (joinW_mem hw hs hc).2) ?_).trans rfl
  rw [(joinW_clean _ _ hw hs).bare]
  unfold addL
  rw [if_neg (joinW_ne _ _ hw), if_neg (by decide), if_pos (show ([] : List O4).length < 64 by decide), wordsL_joinW _ _ hw hs, readW_name k hk, if_pos (by rw [List.length_map]; exact h1), numsL_itoa l h2]
  rfl
theorem parse_bad2 (z : ByteArray) (w : World) (hT : Tabs w) (hs : z.size ≤ 100000) (h : parseL (lst z) = .bad 2) :
    Calls Tryd.prog 11 #[.string z] w fun e w' => e = .returned (.tuple #[.agg #[.string ⟨#[]⟩, .slice none 0 0], .int .i64 2, .int .i64 1]) ∧ Below w.heap.size w w' := by
  refine (parse_any z w hT hs).mono ?_
  intro e w' hp
  unfold Parsed at hp
  rw [h] at hp
  exact hp
theorem parse_one (z : ByteArray) (o : O4) (w : World) (hT : Tabs w) (hs : z.size ≤ 100000) (h : parseL (lst z) = .ok [116] [o]) :
    Calls Tryd.prog 11 #[.string z] w fun e w' => ∃ b off cap, e = .returned (.tuple #[.agg #[.string (str [116]), .slice (some ⟨b, off, none⟩) 1 cap], .int .i64 0, .int .i64 0]) ∧ b < w'.heap.size ∧
      w'.cell? ⟨b, off, none⟩ = some (.int .i64 o.k) ∧ w'.cell? ⟨b, off + 1, none⟩ = some (.int .i64 o.a) ∧ w'.cell? ⟨b, off + 2, none⟩ = some (.int .i64 o.b) ∧ w'.cell? ⟨b, off + 3, none⟩ = some (.int .i64 o.c) ∧ Below w.heap.size w w' := by
  refine (parse_any z w hT hs).mono ?_
  intro e w' hp
  unfold Parsed at hp
  rw [h] at hp
  obtain ⟨A, cap, rfl, hr, h1, h2, hb⟩ := hp
  obtain ⟨b, off, rfl, hlt, hc⟩ := hr (by simp)
  obtain ⟨c0, c1, c2, c3⟩ := hc 0 (by simp)
  simp only [Nat.zero_mul, Nat.add_zero, List.getElem_cons_zero] at c0 c1 c2 c3
  exact ⟨b, off, cap, rfl, hlt, c0, c1, c2, c3, hb⟩
theorem nmLine_more (k j : Nat) (o : O4) (hj : j < 3) : nmLine k ((opArgs o).take (j + 1)) = nmLine k ((opArgs o).take j) ++ (32 :: Lib.itoa ((opArgs o)[j]'hj)) := by
  unfold nmLine
  rw [List.take_succ_eq_append_getElem (show j < (opArgs o).length from hj), List.map_append, List.map_cons, List.map_nil, joinW_snoc]
  rfl

theorem below_drewNq {B : Nat} {w w' : World} (h : Below B w w') : ∀ n, Below B w (w'.drewN n)
  | 0 => h
  | n + 1 => (below_drewNq h n).drew
theorem args_more (o : O4) (j : Nat) (hj : j < 3) : (opArgs o).take (j + 1) = (opArgs o).take j ++ [(opArgs o)[j]'hj] := by
  obtain rfl | rfl | rfl : j = 0 ∨ j = 1 ∨ j = 2 := by omega
  all_goals rfl
theorem got_at (k tk : Nat) (o : O4) (i : Nat) (hi : i < 3) : (opArgs (opOf k ((opArgs o).take tk)))[i]'hi = if i < tk then (opArgs o)[i]'hi else 0 := by
  have e : (opArgs (opOf k ((opArgs o).take tk)))[i]'hi = ((opArgs o).take tk).getD i 0 := by
    obtain rfl | rfl | rfl : i = 0 ∨ i = 1 ∨ i = 2 := by omega
    all_goals rfl
  rw [e, List.getD]
  by_cases h : i < tk
  · rw [if_pos h, List.getElem?_take_of_lt h, List.getElem?_eq_getElem (show i < (opArgs o).length from hi)]; rfl
  · rw [if_neg h, List.getElem?_take_eq_none (by omega)]; rfl
set_option maxHeartbeats 4000000 in
theorem names_less (kind a b c : Int) (k : Nat) (hk : kind.tmod 16 % 16 = (k : Int)) (hk16 : k < 16) (n : Int) (N : Nat) (hq : (takesL k : Int) - 1 = n) (hN : N = takesL k - 1) (w : World) (hT : Tabs w) (ha : in64 a) (hb : in64 b) (hc : in64 c) :
    Calls Tryd.prog 6 #[.int .i64 kind, .int .i64 a, .int .i64 b, .int .i64 c, .bool true] w fun e w' => e = .returned (.bool true) ∧ Below w.heap.size w w' := by
  have HTT := Lib.hid hT; clear hT
  have hk1 : (kind.tmod 16 + 16) % 16 = (k : Int) := by omega
  have hm1 : -16 < kind.tmod 16 := Int.lt_tmod_of_pos kind (by omega)
  have hm2 : kind.tmod 16 < 16 := Int.tmod_lt_of_pos kind (by omega)
  have hk2 : (k : Int) < 16 := by omega
  have HA64 : Hid (∀ j (hj : j < 3), in64 ((opArgs ⟨(k : Int), a, b, c⟩)[j]'hj)) := fun j hj => by
    obtain rfl | rfl | rfl : j = 0 ∨ j = 1 ∨ j = 2 := by omega
    · exact ha
    · exact hb
    · exact hc
  obtain ⟨tk, htk⟩ : ∃ tk, takesL k = tk := ⟨_, rfl⟩
  have ht3 : tk ≤ 3 := by rw [← htk]; exact takesL_le k
  have HNA := Lib.hid (fun W => name_any k hk16 W)
  have HTK := Lib.hid htk
  have hro := fun W : World => (takesRow W).cell hk16
  rw [htk] at hro
  have HRO := Lib.hid hro
  rw [htk] at hq hN
  have hN3 : N ≤ tk := by omega
  clear ha hb hc htk hro
  go_enter Tryd.func6, Tryd.ntmps6
  go_wp2_with fail
  refine (begun6_any _ HTT.out).mono ?_
  rintro e w1 ⟨rfl, hb1⟩
  have hrc := HRO.out w1
  obtain ⟨W1, hW1⟩ : ∃ W1, W1 = w1.alloc (.cells #[.int .i64 0, .int .i64 2, .int .i64 2, .int .i64 3, .int .i64 3, .int .i64 3, .int .i64 3, .int .i64 3, .int .i64 3, .int .i64 1, .int .i64 2, .int .i64 2, .int .i64 2, .int .i64 2, .int .i64 2, .int .i64 1] 3) := ⟨_, rfl⟩
  have bW1 := hb1.alloc hb1.size (.cells #[.int .i64 0, .int .i64 2, .int .i64 2, .int .i64 3, .int .i64 3, .int .i64 3, .int .i64 3, .int .i64 3, .int .i64 3, .int .i64 1, .int .i64 2, .int .i64 2, .int .i64 2, .int .i64 2, .int .i64 2, .int .i64 1] 3)
  rw [← hW1] at bW1
  clear hb1
  go_upto_region 6 with fail
  rw [← hW1]
  have HW1 := Lib.hid hW1; clear hW1 hrc
  obtain ⟨W2, hW2⟩ : ∃ W2, W2 = W1.alloc (.cells #[.int .i64 a, .int .i64 b, .int .i64 c] 3) := ⟨_, rfl⟩
  have bW2 := bW1.alloc bW1.size (.cells #[.int .i64 a, .int .i64 b, .int .i64 c] 3)
  rw [← hW2] at bW2
  have hra : W2.rowIs W1.heap.size 3 3 (argF ⟨(k : Int), a, b, c⟩) := by
    rw [hW2]
    refine World.rowIs_alloc W1 _ 3 (argF ⟨(k : Int), a, b, c⟩) (fun i hi => ?_)
    have hi : i < 3 := hi
    obtain rfl | rfl | rfl : i = 0 ∨ i = 1 ∨ i = 2 := by omega
    all_goals rfl
  have hz2 : W1.heap.size < W2.heap.size := by rw [hW2]; simp
  have HRA := Lib.hid hra
  clear hra bW1
  go_upto_region 8 with fail
  rw [← hW2]
  have HW2 := Lib.hid hW2; clear hW2
  go_wp2_with fail
  refine (HNA.out _).mono ?_
  rintro e w3 ⟨rfl, hb3⟩
  have b3 := bW2.trans (hb3.mono bW2.size)
  have HRA3 := Lib.hid (rowIs_below HRA.out hb3 hz2)
  have hz3 : W1.heap.size < w3.heap.size := Nat.lt_of_lt_of_le hz2 hb3.size
  have hnl : (str (nameL k)).size ≤ 4 := by rw [str_size]; exact name_len k
  obtain ⟨nm, hnm⟩ : ∃ nm, str (nameL k) = nm := ⟨_, rfl⟩
  have hnml : lst nm = nameL k := by rw [← hnm, lst_str]
  rw [hnm] at hnl ⊢
  have HNM := Lib.hid hnml
  clear hnm hnml bW2 hb3 HRA
  go_wp2_with fail
  go_loopw [15, 16, 17] (fun sv fv iv wr => ∃ (j : Nat) (z : ByteArray) (fb : Bool), iv = .int .i64 j ∧ sv = .string z ∧ fv = .bool fb ∧ j ≤ N ∧ z.size ≤ 4 + 21 * j ∧ Hid (lst z = nmLine k ((opArgs ⟨(k : Int), a, b, c⟩).take j)) ∧ Hid (fb = true ↔ ∀ x ∈ (opArgs ⟨(k : Int), a, b, c⟩).take j, sml x) ∧ Below w.heap.size w wr ∧ Below w3.heap.size w3 wr) (fun _ _ iv _ => N - (intOf iv).toNat)
  case atStart => exact ⟨0, nm, true, rfl, rfl, rfl, by omega, by omega, by unfold Hid nmLine joinW; rw [HNM.out]; simp, by unfold Hid; simp, b3, Below.refl _ _⟩
  case round =>
    obtain ⟨j, z, fb, rfl, rfl, rfl, hj, hz, HZ, HF, hb, hbr⟩ := hrel
    clear b3
    have hrow := rowIs_below HRA3.out hbr hz3
    by_cases hlt : j < N
    · have hjn : (j : Int) < n := by omega
      have hj3 : j < 3 := by omega
      have hjc : (j : Int) < 3 := by omega
      obtain ⟨x, hx⟩ : ∃ x, (opArgs ⟨(k : Int), a, b, c⟩)[j]'hj3 = x := ⟨_, rfl⟩
      have hcj : wr.cell? ⟨W1.heap.size, j, none⟩ = some (.int .i64 x) := by
        have := hrow.cell hj3
        rw [argF_at _ j hj3, hx] at this
        exact this
      have hx64 := HA64.out j hj3
      rw [hx] at hx64
      have HI := Lib.hid (fun W => decimal64_any x W hx64.1 hx64.2)
      obtain ⟨dz, hdz⟩ : ∃ dz, str (Lib.itoa x) = dz := ⟨_, rfl⟩
      have hdz2 : (⟨(Lib.itoa x).toArray⟩ : ByteArray) = dz := hdz
      rw [hdz2] at HI
      have hil : dz.size ≤ 20 := by rw [← hdz, str_size]; exact itoa64_len x hx64.1 hx64.2
      have HM := Lib.hid (show nmLine k ((opArgs ⟨(k : Int), a, b, c⟩).take (j + 1)) = nmLine k ((opArgs ⟨(k : Int), a, b, c⟩).take j) ++ (32 :: lst dz) by rw [nmLine_more k j _ hj3, hx, ← hdz, lst_str])
      have hfm : (∀ y ∈ (opArgs ⟨(k : Int), a, b, c⟩).take (j + 1), sml y) ↔ (∀ y ∈ (opArgs ⟨(k : Int), a, b, c⟩).take j, sml y) ∧ sml x := by
        rw [args_more _ j hj3, hx]
        simp only [List.mem_append, List.mem_singleton]
        constructor
        · intro h; exact ⟨fun y hy => h y (.inl hy), h x (.inr rfl)⟩
        · rintro ⟨h1, h2⟩ y (hy | rfl)
          · exact h1 y hy
          · exact h2
      have HFM := Lib.hid hfm
      have HCJ := Lib.hid hcj
      have hzr : W1.heap.size < wr.heap.size := Nat.lt_of_lt_of_le hz3 hbr.size
      clear hx hdz hdz2 hfm hrow hx64
      go_wp2_with fail
      refine (HI.out _).mono ?_
      rintro e w5 ⟨rfl, hb5⟩
      have cj := (hb5.cell (p := ⟨W1.heap.size, j, none⟩) hzr).trans HCJ.out
      have n1 := hb.trans (hb5.mono hb.size)
      have n2 := hbr.trans (hb5.mono hbr.size)
      clear hb5 hcj
      obtain ⟨fb2, hfb2⟩ : ∃ fb2 : Bool, fb2 = true ↔ fb = true ∧ sml x := by
        by_cases h : fb = true ∧ sml x
        · exact ⟨true, by simp [h]⟩
        · exact ⟨false, by simp only [Bool.false_eq_true, false_iff]; exact h⟩
      have HF2 : Hid (fb2 = true ↔ ∀ y ∈ (opArgs ⟨(k : Int), a, b, c⟩).take (j + 1), sml y) := by unfold Hid; rw [hfb2, HFM.out, HF.out]
      have hcase : (fb = false ∧ Hid (fb2 = false)) ∨ (fb = true ∧ x < -2147483648 ∧ Hid (fb2 = false)) ∨ (fb = true ∧ x ≥ -2147483648 ∧ ¬ x ≤ 2147483647 ∧ Hid (fb2 = false)) ∨ (fb = true ∧ x ≥ -2147483648 ∧ x ≤ 2147483647 ∧ Hid (fb2 = true)) := by
        unfold sml at hfb2
        cases fb with
        | false => exact .inl ⟨rfl, by unfold Hid; simpa using hfb2⟩
        | true =>
          by_cases h1 : x < -2147483648
          · exact .inr (.inl ⟨rfl, h1, by unfold Hid; cases fb2 with | false => rfl | true => exact absurd (hfb2.1 rfl).2.1 (by omega)⟩)
          · by_cases h2 : x ≤ 2147483647
            · exact .inr (.inr (.inr ⟨rfl, by omega, h2, hfb2.2 ⟨rfl, by omega, h2⟩⟩))
            · exact .inr (.inr (.inl ⟨rfl, by omega, h2, by unfold Hid; cases fb2 with | false => rfl | true => exact absurd (hfb2.1 rfl).2.2 h2⟩))
      clear hfb2 HF
      rcases hcase with ⟨rfl, he2⟩ | ⟨rfl, g1, he2⟩ | ⟨rfl, g1, g2, he2⟩ | ⟨rfl, g1, g2, he2⟩
      all_goals
        (try have g3 : ¬ x ≥ -2147483648 := by omega)
        go_wp2
        go_roundw
        case rel =>
          refine ⟨j + 1, _, fb2, by go_num, rfl, by first | (rw [he2.out]; done) | (rw [he2.out]; congr 1; simp; done) | (rw [he2.out]; congr 1; simp; omega), by omega, ?_, ?_, HF2, n1, n2⟩
          · simp only [ByteArray.size_append]
            have : (⟨#[32]⟩ : ByteArray).size = 1 := rfl
            omega
          · unfold Hid
            rw [lst_append, lst_append, HZ.out, HM.out]; rfl
        case measure => simp [intOf]; omega
    · obtain rfl : N = j := by omega
      have hjn : ¬ ((N : Nat) : Int) < n := by omega
      obtain ⟨z2, hz2e⟩ : ∃ z2, z2 = (⟨#[116, 105, 116, 108, 101, 32, 116, 10]⟩ : ByteArray) ++ z := ⟨_, rfl⟩
      have hz2s : z2.size ≤ 100000 := by
        rw [hz2e, ByteArray.size_append]
        have : (⟨#[116, 105, 116, 108, 101, 32, 116, 10]⟩ : ByteArray).size = 8 := rfl
        omega
      have HZ2 := Lib.hid (show lst z2 = titT ++ 10 :: nmLine k ((opArgs ⟨(k : Int), a, b, c⟩).take N) by
        rw [hz2e, lst_append, HZ.out]; rfl)
      have HZE := Lib.hid hz2e
      clear hz2e
      by_cases h0 : tk = 0
      · have hneg : n < 0 := by omega
        have HPO := Lib.hid (parse_one z2 _ wr (HTT.out.next hb) hz2s (by rw [HZ2.out]; exact names_ok k hk16 _ (by rw [HTK.out, List.length_take]; omega) (fun x hx => by rw [show N = 0 by omega, List.take_zero] at hx; cases hx)))
        rw [HZE.out] at HPO
        clear hrow h0
        go_wp2_with fail
        refine HPO.out.mono ?_
        rintro e w6 ⟨b6, off, cap, rfl, -, -, -, -, -, hb6⟩
        have bf := (hb.trans (hb6.mono hb.size)).alloc (hb.trans (hb6.mono hb.size)).size (.cells #[.string (str [116]), .slice (some ⟨b6, off, none⟩) 1 cap] 26)
        go_wp2
        go_ret
        exact ⟨rfl, bf⟩
      · have hneg : ¬ n < 0 := by omega
        have hge : n ≥ 0 := by omega
        have HPO := Lib.hid (parse_bad2 z2 wr (HTT.out.next hb) hz2s (by rw [HZ2.out]; exact names_bad k hk16 _ (.inl (by rw [HTK.out, List.length_take, opArgs_len]; omega))))
        rw [HZE.out] at HPO
        clear hrow h0
        go_wp2_with fail
        refine HPO.out.mono ?_
        rintro e w6 ⟨rfl, hb6⟩
        have bf := (hb.trans (hb6.mono hb.size)).alloc (hb.trans (hb6.mono hb.size)).size (.cells #[.string ⟨#[]⟩, .slice none 0 0] 26)
        go_wp2
        go_ret
        exact ⟨rfl, bf⟩
set_option maxHeartbeats 4000000 in
theorem names_full (kind a b c : Int) (k : Nat) (hk : kind.tmod 16 % 16 = (k : Int)) (hk16 : k < 16) (w : World) (hT : Tabs w) (ha : in64 a) (hb : in64 b) (hc : in64 c) :
    Calls Tryd.prog 6 #[.int .i64 kind, .int .i64 a, .int .i64 b, .int .i64 c, .bool false] w fun e w' => e = .returned (.bool true) ∧ Below w.heap.size w w' := by
  have HTT := Lib.hid hT; clear hT
  have hk1 : (kind.tmod 16 + 16) % 16 = (k : Int) := by omega
  have hm1 : -16 < kind.tmod 16 := Int.lt_tmod_of_pos kind (by omega)
  have hm2 : kind.tmod 16 < 16 := Int.tmod_lt_of_pos kind (by omega)
  have hk2 : (k : Int) < 16 := by omega
  have HA64 : Hid (∀ j (hj : j < 3), in64 ((opArgs ⟨(k : Int), a, b, c⟩)[j]'hj)) := fun j hj => by
    obtain rfl | rfl | rfl : j = 0 ∨ j = 1 ∨ j = 2 := by omega
    · exact ha
    · exact hb
    · exact hc
  obtain ⟨tk, htk⟩ : ∃ tk, takesL k = tk := ⟨_, rfl⟩
  have ht3 : tk ≤ 3 := by rw [← htk]; exact takesL_le k
  have HNA := Lib.hid (fun W => name_any k hk16 W)
  have HTK := Lib.hid htk
  have hro := fun W : World => (takesRow W).cell hk16
  rw [htk] at hro
  have HRO := Lib.hid hro
  clear ha hb hc htk hro
  go_enter Tryd.func6, Tryd.ntmps6
  go_wp2_with fail
  refine (begun6_any _ HTT.out).mono ?_
  rintro e w1 ⟨rfl, hb1⟩
  have hrc := HRO.out w1
  obtain ⟨W1, hW1⟩ : ∃ W1, W1 = w1.alloc (.cells #[.int .i64 0, .int .i64 2, .int .i64 2, .int .i64 3, .int .i64 3, .int .i64 3, .int .i64 3, .int .i64 3, .int .i64 3, .int .i64 1, .int .i64 2, .int .i64 2, .int .i64 2, .int .i64 2, .int .i64 2, .int .i64 1] 3) := ⟨_, rfl⟩
  have bW1 := hb1.alloc hb1.size (.cells #[.int .i64 0, .int .i64 2, .int .i64 2, .int .i64 3, .int .i64 3, .int .i64 3, .int .i64 3, .int .i64 3, .int .i64 3, .int .i64 1, .int .i64 2, .int .i64 2, .int .i64 2, .int .i64 2, .int .i64 2, .int .i64 1] 3)
  rw [← hW1] at bW1
  clear hb1
  go_upto_region 6 with fail
  rw [← hW1]
  have HW1 := Lib.hid hW1; clear hW1 hrc
  obtain ⟨W2, hW2⟩ : ∃ W2, W2 = W1.alloc (.cells #[.int .i64 a, .int .i64 b, .int .i64 c] 3) := ⟨_, rfl⟩
  have bW2 := bW1.alloc bW1.size (.cells #[.int .i64 a, .int .i64 b, .int .i64 c] 3)
  rw [← hW2] at bW2
  have hra : W2.rowIs W1.heap.size 3 3 (argF ⟨(k : Int), a, b, c⟩) := by
    rw [hW2]
    refine World.rowIs_alloc W1 _ 3 (argF ⟨(k : Int), a, b, c⟩) (fun i hi => ?_)
    have hi : i < 3 := hi
    obtain rfl | rfl | rfl : i = 0 ∨ i = 1 ∨ i = 2 := by omega
    all_goals rfl
  have hz2 : W1.heap.size < W2.heap.size := by rw [hW2]; simp
  have HRA := Lib.hid hra
  clear hra bW1
  go_upto_region 8 with fail
  rw [← hW2]
  have HW2 := Lib.hid hW2; clear hW2
  go_wp2_with fail
  refine (HNA.out _).mono ?_
  rintro e w3 ⟨rfl, hb3⟩
  have b3 := bW2.trans (hb3.mono bW2.size)
  have HRA3 := Lib.hid (rowIs_below HRA.out hb3 hz2)
  have hz3 : W1.heap.size < w3.heap.size := Nat.lt_of_lt_of_le hz2 hb3.size
  have hnl : (str (nameL k)).size ≤ 4 := by rw [str_size]; exact name_len k
  obtain ⟨nm, hnm⟩ : ∃ nm, str (nameL k) = nm := ⟨_, rfl⟩
  have hnml : lst nm = nameL k := by rw [← hnm, lst_str]
  rw [hnm] at hnl ⊢
  have HNM := Lib.hid hnml
  clear hnm hnml bW2 hb3 HRA
  go_wp2_with fail
  go_loopw [15, 16, 17] (fun sv fv iv wr => ∃ (j : Nat) (z : ByteArray) (fb : Bool), iv = .int .i64 j ∧ sv = .string z ∧ fv = .bool fb ∧ j ≤ tk ∧ z.size ≤ 4 + 21 * j ∧ Hid (lst z = nmLine k ((opArgs ⟨(k : Int), a, b, c⟩).take j)) ∧ Hid (fb = true ↔ ∀ x ∈ (opArgs ⟨(k : Int), a, b, c⟩).take j, sml x) ∧ Below w.heap.size w wr ∧ Below w3.heap.size w3 wr) (fun _ _ iv _ => tk - (intOf iv).toNat)
  case atStart => exact ⟨0, nm, true, rfl, rfl, rfl, by omega, by omega, by unfold Hid nmLine joinW; rw [HNM.out]; simp, by unfold Hid; simp, b3, Below.refl _ _⟩
  case round =>
    obtain ⟨j, z, fb, rfl, rfl, rfl, hj, hz, HZ, HF, hb, hbr⟩ := hrel
    clear b3
    have hrow := rowIs_below HRA3.out hbr hz3
    by_cases hlt : j < tk
    · have hjn : (j : Int) < (tk : Int) := by omega
      have hj3 : j < 3 := by omega
      have hjc : (j : Int) < 3 := by omega
      obtain ⟨x, hx⟩ : ∃ x, (opArgs ⟨(k : Int), a, b, c⟩)[j]'hj3 = x := ⟨_, rfl⟩
      have hcj : wr.cell? ⟨W1.heap.size, j, none⟩ = some (.int .i64 x) := by
        have := hrow.cell hj3
        rw [argF_at _ j hj3, hx] at this
        exact this
      have hx64 := HA64.out j hj3
      rw [hx] at hx64
      have HI := Lib.hid (fun W => decimal64_any x W hx64.1 hx64.2)
      obtain ⟨dz, hdz⟩ : ∃ dz, str (Lib.itoa x) = dz := ⟨_, rfl⟩
      have hdz2 : (⟨(Lib.itoa x).toArray⟩ : ByteArray) = dz := hdz
      rw [hdz2] at HI
      have hil : dz.size ≤ 20 := by rw [← hdz, str_size]; exact itoa64_len x hx64.1 hx64.2
      have HM := Lib.hid (show nmLine k ((opArgs ⟨(k : Int), a, b, c⟩).take (j + 1)) = nmLine k ((opArgs ⟨(k : Int), a, b, c⟩).take j) ++ (32 :: lst dz) by rw [nmLine_more k j _ hj3, hx, ← hdz, lst_str])
      have hfm : (∀ y ∈ (opArgs ⟨(k : Int), a, b, c⟩).take (j + 1), sml y) ↔ (∀ y ∈ (opArgs ⟨(k : Int), a, b, c⟩).take j, sml y) ∧ sml x := by
        rw [args_more _ j hj3, hx]
        simp only [List.mem_append, List.mem_singleton]
        constructor
        · intro h; exact ⟨fun y hy => h y (.inl hy), h x (.inr rfl)⟩
        · rintro ⟨h1, h2⟩ y (hy | rfl)
          · exact h1 y hy
          · exact h2
      have HFM := Lib.hid hfm
      have HCJ := Lib.hid hcj
      have hzr : W1.heap.size < wr.heap.size := Nat.lt_of_lt_of_le hz3 hbr.size
      clear hx hdz hdz2 hfm hrow hx64
      go_wp2_with fail
      refine (HI.out _).mono ?_
      rintro e w5 ⟨rfl, hb5⟩
      have cj := (hb5.cell (p := ⟨W1.heap.size, j, none⟩) hzr).trans HCJ.out
      have n1 := hb.trans (hb5.mono hb.size)
      have n2 := hbr.trans (hb5.mono hbr.size)
      clear hb5 hcj
      obtain ⟨fb2, hfb2⟩ : ∃ fb2 : Bool, fb2 = true ↔ fb = true ∧ sml x := by
        by_cases h : fb = true ∧ sml x
        · exact ⟨true, by simp [h]⟩
        · exact ⟨false, by simp only [Bool.false_eq_true, false_iff]; exact h⟩
      have HF2 : Hid (fb2 = true ↔ ∀ y ∈ (opArgs ⟨(k : Int), a, b, c⟩).take (j + 1), sml y) := by unfold Hid; rw [hfb2, HFM.out, HF.out]
      have hcase : (fb = false ∧ Hid (fb2 = false)) ∨ (fb = true ∧ x < -2147483648 ∧ Hid (fb2 = false)) ∨ (fb = true ∧ x ≥ -2147483648 ∧ ¬ x ≤ 2147483647 ∧ Hid (fb2 = false)) ∨ (fb = true ∧ x ≥ -2147483648 ∧ x ≤ 2147483647 ∧ Hid (fb2 = true)) := by
        unfold sml at hfb2
        cases fb with
        | false => exact .inl ⟨rfl, by unfold Hid; simpa using hfb2⟩
        | true =>
          by_cases h1 : x < -2147483648
          · exact .inr (.inl ⟨rfl, h1, by unfold Hid; cases fb2 with | false => rfl | true => exact absurd (hfb2.1 rfl).2.1 (by omega)⟩)
          · by_cases h2 : x ≤ 2147483647
            · exact .inr (.inr (.inr ⟨rfl, by omega, h2, hfb2.2 ⟨rfl, by omega, h2⟩⟩))
            · exact .inr (.inr (.inl ⟨rfl, by omega, h2, by unfold Hid; cases fb2 with | false => rfl | true => exact absurd (hfb2.1 rfl).2.2 h2⟩))
      clear hfb2 HF
      rcases hcase with ⟨rfl, he2⟩ | ⟨rfl, g1, he2⟩ | ⟨rfl, g1, g2, he2⟩ | ⟨rfl, g1, g2, he2⟩
      all_goals
        (try have g3 : ¬ x ≥ -2147483648 := by omega)
        go_wp2
        go_roundw
        case rel =>
          refine ⟨j + 1, _, fb2, by go_num, rfl, by first | (rw [he2.out]; done) | (rw [he2.out]; congr 1; simp; done) | (rw [he2.out]; congr 1; simp; omega), by omega, ?_, ?_, HF2, n1, n2⟩
          · simp only [ByteArray.size_append]
            have : (⟨#[32]⟩ : ByteArray).size = 1 := rfl
            omega
          · unfold Hid
            rw [lst_append, lst_append, HZ.out, HM.out]; rfl
        case measure => simp [intOf]; omega
    · obtain rfl : tk = j := by omega
      have hjn : ¬ ((tk : Nat) : Int) < (tk : Int) := by omega
      obtain ⟨z2, hz2e⟩ : ∃ z2, z2 = (⟨#[116, 105, 116, 108, 101, 32, 116, 10]⟩ : ByteArray) ++ z := ⟨_, rfl⟩
      have hz2s : z2.size ≤ 100000 := by
        rw [hz2e, ByteArray.size_append]
        have : (⟨#[116, 105, 116, 108, 101, 32, 116, 10]⟩ : ByteArray).size = 8 := rfl
        omega
      have HZ2 := Lib.hid (show lst z2 = titT ++ 10 :: nmLine k ((opArgs ⟨(k : Int), a, b, c⟩).take tk) by
        rw [hz2e, lst_append, HZ.out]; rfl)
      have HZE := Lib.hid hz2e
      clear hz2e
      have hneg : ¬ (tk : Int) < 0 := by omega
      have hge : (tk : Int) ≥ 0 := by omega
      have hlen : ((opArgs ⟨(k : Int), a, b, c⟩).take tk).length = takesL k := by rw [HTK.out, List.length_take, opArgs_len]; omega
      cases fb with
      | false =>
        have HPO := Lib.hid (parse_bad2 z2 wr (HTT.out.next hb) hz2s (by
          rw [HZ2.out]
          refine names_bad k hk16 _ (.inr ?_)
          by_cases h : ∃ x ∈ (opArgs ⟨(k : Int), a, b, c⟩).take tk, ¬ sml x
          · exact h
          · exfalso
            have := HF.out.2 (fun x hx => by by_cases e : sml x; exact e; exact absurd ⟨x, hx, e⟩ h)
            cases this))
        rw [HZE.out] at HPO
        clear hrow hlen HF
        go_wp2_with fail
        refine HPO.out.mono ?_
        rintro e w6 ⟨rfl, hb6⟩
        have bf := (hb.trans (hb6.mono hb.size)).alloc (hb.trans (hb6.mono hb.size)).size (.cells #[.string ⟨#[]⟩, .slice none 0 0] 26)
        go_wp2
        go_ret
        exact ⟨rfl, bf⟩
      | true =>
        have HPO := Lib.hid (parse_one z2 _ wr (HTT.out.next hb) hz2s (by rw [HZ2.out]; exact names_ok k hk16 _ hlen (HF.out.1 rfl)))
        obtain ⟨o2, ho2⟩ : ∃ o2, o2 = opOf k ((opArgs ⟨(k : Int), a, b, c⟩).take tk) := ⟨_, rfl⟩
        have hk3 : o2.k = (k : Int) := by rw [ho2]; rfl
        have HGA := Lib.hid (fun i hi => got_at k tk ⟨(k : Int), a, b, c⟩ i hi)
        rw [← ho2, hk3, HZE.out] at HPO
        rw [← ho2] at HGA
        have HO2 := Lib.hid ho2
        clear hlen HF ho2 hk3
        have HROW := Lib.hid hrow; clear hrow
        go_wp2_with fail
        refine HPO.out.mono ?_
        rintro e w6 ⟨b6, off, cap, rfl, hb6l, m0, m1, m2, m3, hb6⟩
        obtain ⟨W7, hW7⟩ : ∃ W7, W7 = w6.alloc (.cells #[.string (str [116]), .slice (some ⟨b6, off, none⟩) 1 cap] 26) := ⟨_, rfl⟩
        have b67 : Below w6.heap.size w6 W7 := by rw [hW7]; exact (Below.refl _ _).alloc (Nat.le_refl _) _
        have q1 : W7.cell? ⟨w6.heap.size, 1, none⟩ = some (.slice (some ⟨b6, off, none⟩) 1 cap) := by rw [hW7]; simp
        replace m0 := (b67.cell (p := ⟨b6, off, none⟩) hb6l).trans m0
        replace m1 := (b67.cell (p := ⟨b6, off + 1, none⟩) hb6l).trans m1
        replace m2 := (b67.cell (p := ⟨b6, off + 2, none⟩) hb6l).trans m2
        replace m3 := (b67.cell (p := ⟨b6, off + 3, none⟩) hb6l).trans m3
        have hzr : W1.heap.size < wr.heap.size := Nat.lt_of_lt_of_le hz3 hbr.size
        have HROW7 := Lib.hid (rowIs_below (rowIs_below HROW.out hb6 hzr) b67 (Nat.lt_of_lt_of_le hzr hb6.size))
        have b7 := hb.trans ((hb6.trans (b67.mono hb6.size)).mono hb.size)
        have hz7 : W1.heap.size < W7.heap.size := Nat.lt_of_lt_of_le (Nat.lt_of_lt_of_le hzr hb6.size) b67.size
        clear b67 hb6 hb hbr HPO
        go_upto_region 18 with fail
        rw [← hW7]
        have HW7 := Lib.hid hW7; clear hW7
        go_upto_region 22 with fail
        go_cut [21] (fun s21 wx => ∃ G, s21 = .slice (some ⟨G, 0, none⟩) 3 3 ∧ Hid (wx.rowIs G 3 3 (argF o2)) ∧ Below W7.heap.size W7 wx)
        case first =>
          have q1d : W7.drew.cell? ⟨w6.heap.size, 1, none⟩ = some (.slice (some ⟨b6, off, none⟩) 1 cap) := q1
          have m1d : W7.drew.cell? ⟨b6, off + 1, none⟩ = some (.int .i64 o2.a) := m1
          have m2d : W7.drew.cell? ⟨b6, off + 2, none⟩ = some (.int .i64 o2.b) := m2
          have m3d : W7.drew.cell? ⟨b6, off + 3, none⟩ = some (.int .i64 o2.c) := m3
          go_region
          all_goals
            go_wp2_with fail
            go_meet
            refine ⟨_, rfl, World.rowIs_alloc _ _ 3 (argF o2) (fun i hi => ?_), ((Below.refl _ _).drew).alloc (by simp) _⟩
            have hi : i < 3 := hi
            obtain rfl | rfl | rfl : i = 0 ∨ i = 1 ∨ i = 2 := by omega
            all_goals rfl
        case rest =>
          obtain ⟨G, rfl, hrg, hbx⟩ := hcut
          have RA := Lib.hid (rowIs_below HROW7.out hbx hz7)
          have bfin := b7.trans (hbx.mono b7.size)
          clear b7 q1 m0 m1 m2 m3 HROW7 hbx
          go_wp2_with fail
          go_loopw [22] (fun iv wr => ∃ i : Nat, iv = .int .i64 i ∧ i ≤ 3 ∧ Hid (wr.rowIs G 3 3 (argF o2)) ∧ Hid (wr.rowIs W1.heap.size 3 3 (argF ⟨(k : Int), a, b, c⟩)) ∧ Below w.heap.size w wr) (fun iv _ => 3 - (intOf iv).toNat)
          case atStart => exact ⟨0, rfl, by omega, hrg, RA, bfin⟩
          case round =>
            obtain ⟨i, rfl, hi, RG, RB, bw⟩ := hrel
            clear hrg RA bfin
            by_cases h3 : i < 3
            · have h3c : (i : Int) < 3 := by omega
              have bd := bw.drew
              have RG2 := Lib.hid (rowIs_below RG.out ((Below.refl wr.heap.size wr).drew) RG.out.lt)
              have RB2 := Lib.hid (rowIs_below RB.out ((Below.refl wr.heap.size wr).drew) RB.out.lt)
              have gi := RG.out.cell h3
              have ai := RB.out.cell h3
              rw [argF_at _ i h3, HGA.out i h3] at gi
              rw [argF_at _ i h3] at ai
              obtain ⟨x, hx⟩ : ∃ x, (opArgs ⟨(k : Int), a, b, c⟩)[i]'h3 = x := ⟨_, rfl⟩
              rw [hx] at gi ai
              clear hx
              by_cases hit : i < tk
              · rw [if_pos hit] at gi
                have hic : (i : Int) < (tk : Int) := by omega
                have hic2 : ¬ (i : Int) ≥ (tk : Int) := by omega
                have hn5 : ¬ tk ≤ i := by omega
                have hn6 : decide ((tk : Int) ≤ (i : Int)) = false := by rw [decide_eq_false_iff_not]; omega
                have hn7 : decide (tk ≤ i) = false := by rw [decide_eq_false_iff_not]; omega
                have gid : wr.drew.cell? ⟨G, i, none⟩ = some (.int .i64 x) := gi
                have aid : wr.drew.cell? ⟨W1.heap.size, i, none⟩ = some (.int .i64 x) := ai
                go_wp2_with fail
                go_quiet (fail)
                go_wp2
                go_roundw
                case rel => exact ⟨i + 1, by go_num, by omega, rowIs_below RG.out (below_drewNq (Below.refl _ _) _) RG.out.lt, rowIs_below RB.out (below_drewNq (Below.refl _ _) _) RB.out.lt, below_drewNq bw _⟩
                case measure => simp [intOf]; omega
              · rw [if_neg hit] at gi
                have hic : ¬ (i : Int) < (tk : Int) := by omega
                have hic2 : (i : Int) ≥ (tk : Int) := by omega
                have gid : wr.drew.cell? ⟨G, i, none⟩ = some (.int .i64 0) := gi
                have aid : wr.drew.cell? ⟨W1.heap.size, i, none⟩ = some (.int .i64 x) := ai
                go_wp2_with fail
                go_quiet (fail)
                go_wp2
                go_roundw
                case rel => exact ⟨i + 1, by go_num, by omega, rowIs_below RG.out (below_drewNq (Below.refl _ _) _) RG.out.lt, rowIs_below RB.out (below_drewNq (Below.refl _ _) _) RB.out.lt, below_drewNq bw _⟩
                case measure => simp [intOf]; omega
            · have h3c : ¬ (i : Int) < 3 := by omega
              go_wp2
              go_ret
              exact ⟨rfl, bw⟩
theorem names_law (kind a b c : Int) (less : Bool) (w : World) (hT : Tabs w) (ha : in64 a) (hb : in64 b) (hc : in64 c) :
    Calls Tryd.prog 6 #[.int .i64 kind, .int .i64 a, .int .i64 b, .int .i64 c, .bool less] w fun e w' => e = .returned (.bool true) ∧ Below w.heap.size w w' := by
  have hm1 : -16 < kind.tmod 16 := Int.lt_tmod_of_pos kind (by omega)
  have hm2 : kind.tmod 16 < 16 := Int.tmod_lt_of_pos kind (by omega)
  obtain ⟨k, hk⟩ : ∃ k : Nat, kind.tmod 16 % 16 = (k : Int) := ⟨(kind.tmod 16 % 16).toNat, by omega⟩
  cases less with
  | true => exact names_less kind a b c k hk (by omega) _ _ rfl rfl w hT ha hb hc
  | false => exact names_full kind a b c k hk (by omega) w hT ha hb hc
end Go.Proofs.YthidkkjhpdcenaaDoor

/- XFAsmNames -/
namespace Go.Proofs.YthidkkjhpdcenaaDoor.lawAsmNames
open Go.ChangeShapes Go.WideShapes Go.ChangeAt Go.RowKit
open Go.ChangeMaps (open_string shut_string)
set_option linter.unusedVariables false

set_option maxRecDepth 100000 in
theorem lifted (os : Os) (started : os.Started) (H : Type) (enc : TypeId × Value → H) :
    ReturnsInHanded {} Tryd.checked os 6 .any (fun w args => (Rows.asmNamesSpec.pre enc Tryd.prog Tryd.f6 [] false w args ∧ laidMetH Tryd.prog asmLaid w) ∧ sizedMet enc Tryd.prog Tryd.f6 (OpenSpec.ofChange Rows.asmNamesSpec) false w args)
      (Rows.asmNamesSpec.post enc Tryd.prog Tryd.f6 false true false false) := by
  refine returnsInHanded_of_change_and (C := Tryd.checked) (X := fun w _ => laidMetH Tryd.prog asmLaid w) (fun _ _ _ hh h => h.of_heap hh) kitOwn started (by kernel_rfl) Tryd.func6
    (ChangeSpec.witness_shaped (enc := enc) (C := Tryd.checked) (os := os) (X := fun w _ => laidMetH Tryd.prog asmLaid w) false (World.laidAll Tryd.prog os asmLaid) #[.int .i64 0, .int .i64 0, .int .i64 0, .int .i64 0, .bool false] 8 (World.laidAll_os _ _ _) (World.shaped_of_ZipB (by kernel_rfl) (by kernel_rfl)) (by kernel_rfl) (by kernel_rfl) (by kernel_rfl) (by rw [MakeChecks.laidMetH_plain _ _ _ (by kernel_rfl)]; exact laidMet_laidAll _ (by kernel_rfl) (by kernel_rfl))) ?_
  intro W base args ds gs before hval0 hW _ _ hL _
  have hval : ∀ (j : Nat) t v, Tryd.f6.params[j]? = some t → args[j]? = some v → Value.okWide Tryd.prog W .any base t v := hval0
  have hW' := hW
  obtain ⟨p, q, hA0, hV, hpq, hfz, hnd⟩ := hW
  have hA : DataW.TrodAll enc Tryd.prog W 0 (fun _ => true) true Tryd.f6.params.toList args.toList ds p := hA0
  rw [Tryd.params6] at hA hval
  obtain ⟨v0, vs0, d0, ds0, p0, q0, hargs, rfl, rfl, h0, r_0⟩ := trodAll_cons hA
  obtain ⟨v1, vs1, d1, ds1, p1, q1, rfl, rfl, rfl, h1, r_1⟩ := trodAll_cons r_0
  obtain ⟨v2, vs2, d2, ds2, p2, q2, rfl, rfl, rfl, h2, r_2⟩ := trodAll_cons r_1
  obtain ⟨v3, vs3, d3, ds3, p3, q3, rfl, rfl, rfl, h3, r_3⟩ := trodAll_cons r_2
  obtain ⟨v4, vs4, d4, ds4, p4, q4, rfl, rfl, rfl, h4, r_4⟩ := trodAll_cons r_3
  obtain ⟨rfl, rfl, rfl⟩ := trodAll_nil r_4
  obtain rfl : args = #[v0, v1, v2, v3, v4] := by cases args; simp_all
  obtain ⟨rfl, rfl⟩ := trodVars_none hV
  obtain ⟨a0, rfl, rfl, rfl, w0⟩ := open_int Tryd.underlying3 (hval 0 3 v0 rfl rfl) h0
  obtain ⟨a1, rfl, rfl, rfl, w1⟩ := open_int Tryd.underlying3 (hval 1 3 v1 rfl rfl) h1
  obtain ⟨a2, rfl, rfl, rfl, w2⟩ := open_int Tryd.underlying3 (hval 2 3 v2 rfl rfl) h2
  obtain ⟨a3, rfl, rfl, rfl, w3⟩ := open_int Tryd.underlying3 (hval 3 3 v3 rfl rfl) h3
  obtain ⟨a4, rfl, rfl, rfl⟩ := open_bool Tryd.underlying4 (hval 4 4 v4 rfl rfl) h4
  have hT := tabs_met hL
  refine (names_law a0 a1 a2 a3 a4 W hT (bounds_i64 w1) (bounds_i64 w2) (bounds_i64 w3)).mono fun e W' ⟨he, bel⟩ => ?_
  subst he
  exact ⟨_, rfl, law_post hW' rfl (by kernel_rfl) (by kernel_rfl) rfl bel⟩

theorem over : Rows.asmNamesRow.holds Tryd.pinned (OpenSpec.ofChange Rows.asmNamesSpec) :=
  OpenClaim.holds_of_wide 6 Tryd.f6 rfl rfl rfl rfl rfl rfl rfl ⟨rfl, rfl, rfl, rfl, rfl⟩ rfl rfl rfl rfl rfl (by kernel_rfl) Tryd.func6 (by kernel_rfl)
    (of_decide_eq_true (by kernel_rfl)) (by unfold Func.isWrapper; first | (rw [if_pos (by decide +kernel)]; kernel_rfl) | (rw [if_neg (by decide +kernel)]; exact ⟨rfl, rfl⟩))
    (fun os started H enc _ => lifted os started H enc)

/-- THE STATEMENT. -/
theorem proved : Rows.AsmNamesCardSaid :=
  Claim7.holds_tied_plain_at .later [] [.data, .data, .data, .data, .data, .pinned] true (true, "1bb640c40527068aa36876e14cc58c7fc31d04e6f4e8ded18eba43044d75571b") false
    over (fun _ h => by cases h) (by kernel_rfl) (fun _ h => by cases h) asmNames_row_tie rfl ⟨rfl, rfl⟩ (by kernel_rfl) rfl
    (fun f fn hf hfn => by
      obtain rfl : f = 6 := Option.some.inj ((show Tryd.prog.funcNamed "quintain/quintainlaw6.AsmNames" = some 6 by kernel_rfl).symm.trans hf) |>.symm
      obtain rfl : fn = Tryd.f6 := (Option.some.inj (Tryd.func6.symm.trans hfn)).symm
      exact ⟨by kernel_rfl, fun j t ht => by
        rw [Tryd.params6] at ht
        have hm : t ∈ [3, 3, 3, 3, 4] := by simpa using Array.mem_of_getElem? ht
        have hall : ([3, 3, 3, 3, 4].all fun u => !Tryd.prog.wantsStandIn u) = true := by kernel_rfl
        exact (show Tryd.prog.wantsStandIn t = false by simpa using List.all_eq_true.1 hall t hm)⟩)
    (by kernel_rfl)
#print axioms proved
end Go.Proofs.YthidkkjhpdcenaaDoor.lawAsmNames
