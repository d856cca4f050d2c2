/- THE LIBRARY's FUNCTIONS that asm calls, in this proof's words; the tables that stand in variables. -/
import Derived.Test.YthidkkjhpdcenaaDoorSp
import Derived.Test.YthidkkjhpdcenaaDoorAa
import Derived.Test.YthidkkjhpdcenaaDoorKb
namespace Go.Proofs.YthidkkjhpdcenaaDoor
set_option maxRecDepth 100000
open Go.RowKit
set_option linter.unusedVariables false

/-! ### tables -/
def TabK (w : World) : Prop := ∀ k, k < 16 → w.cell? ⟨0, 2 * k, none⟩ = some (.string (str (nameL k))) ∧ w.cell? ⟨0, 2 * k + 1, none⟩ = some (.int .i64 (takesL k : Int))
def TabP (w : World) : Prop := Lib.TabIs Tryd.prog w "internal/strconv.uint64pow10" .u64 Lib.pow10Tab
/-- asm's kinds and the library's powers of ten stand in their variables -/
def Tabs (w : World) : Prop := TabK w ∧ TabP w ∧ 0 < w.heap.size ∧ 3 < w.heap.size
theorem gPow : Tryd.prog.globalNamed "internal/strconv.uint64pow10" = some 3 := by kernel_rfl
theorem TabP.below {w w' : World} {B : Nat} (h : TabP w) (hb : Below B w w') (hB : 3 < B) : TabP w' := by
  unfold TabP Lib.TabIs World.var? at *
  rw [gPow] at h ⊢
  simp only [Option.bind_some] at h ⊢
  rw [hb.block _ hB]
  exact h
theorem Tabs.on {w w' : World} {B : Nat} (h : Tabs w) (hb : Below B w w') (h1 : 0 < B) (h2 : 3 < B) : Tabs w' := by
  obtain ⟨hk, hp, g1, g2⟩ := h
  have hs := hb.size
  refine ⟨fun k hk16 => ?_, hp.below hb h2, by omega, by omega⟩
  obtain ⟨c1, c2⟩ := hk k hk16
  exact ⟨(hb.cell (p := ⟨_, _, none⟩) h1).trans c1, (hb.cell (p := ⟨_, _, none⟩) h1).trans c2⟩
/-- behind a call -/
theorem Tabs.next {w w' : World} (h : Tabs w) (hb : Below w.heap.size w w') : Tabs w' := h.on hb h.2.2.1 h.2.2.2
/-- behind a call, seen from a world further back -/
theorem Tabs.from {w w1 w2 : World} (h : Tabs w) (h1 : Tabs w1) (hb : Below w.heap.size w1 w2) : Tabs w2 := h1.on hb h.2.2.1 h.2.2.2

/-! ### strings.Trim, TrimLeft, CutPrefix; strconv.Itoa -/
theorem blanks_are : (fun c : UInt8 => ([32, 9] : List UInt8).contains c) = blk := by
  funext c
  unfold blk
  simp only [List.contains, List.elem]
  cases (c == 32) <;> cases (c == 9) <;> rfl
theorem trimS_is (l : List UInt8) : Lib.trimS l [32, 9] = trimL (trimR l) := by
  unfold Lib.trimS Lib.trimLeftS Lib.trimRightS trimL trimR
  rw [blanks_are]
theorem trimLeftS_is (l : List UInt8) : Lib.trimLeftS l [32, 9] = trimL l := by
  unfold Lib.trimLeftS trimL
  rw [blanks_are]
theorem strtrim_any (s : ByteArray) (w : World) (hs : s.size ≤ maxLen) :
    Calls Tryd.prog 32 #[.string s, .string ⟨#[32, 9]⟩] w fun e w' => e = .returned (.string (str (trimL (trimR (lst s))))) ∧ Below w.heap.size w w' := by
  have hcon := Any.strings_Trim_laid Tryd.lays160 (by kernel_rfl) s ⟨#[32, 9]⟩ w (by unfold maxLen at hs; omega) (by decide) (ascii_of_all (by decide))
  have e : Lib.trimS s.data.toList (⟨#[32, 9]⟩ : ByteArray).data.toList = trimL (trimR (lst s)) := trimS_is (lst s)
  rw [e] at hcon
  exact hcon
theorem strtriml_any (s : ByteArray) (w : World) :
    Calls Tryd.prog 42 #[.string s, .string ⟨#[32, 9]⟩] w fun e w' => e = .returned (.string (str (trimL (lst s)))) ∧ Below w.heap.size w w' := by
  have hcon := Any.strings_TrimLeft_laid Tryd.lays161 (by kernel_rfl) s ⟨#[32, 9]⟩ w (by decide) (ascii_of_all (by decide))
  have e : Lib.trimLeftS s.data.toList (⟨#[32, 9]⟩ : ByteArray).data.toList = trimL (lst s) := trimLeftS_is (lst s)
  rw [e] at hcon
  exact hcon
theorem cutprefix_any (s : ByteArray) (w : World) :
    Calls Tryd.prog 41 #[.string s, .string ⟨#[116, 105, 116, 108, 101]⟩] w fun e w' => e = .returned (.tuple #[.string (str (if (lst s).take 5 = titleP then (lst s).drop 5 else lst s)), .bool (decide ((lst s).take 5 = titleP))]) ∧ w = w' := by
  have hcon := Any.strings_CutPrefix Tryd.lays103 s ⟨#[116, 105, 116, 108, 101]⟩ w
  have e1 : Lib.hasPrefix s.data.toList (⟨#[116, 105, 116, 108, 101]⟩ : ByteArray).data.toList = decide ((lst s).take 5 = titleP) := by
    show List.isPrefixOf titleP (lst s) = _
    rw [Bool.eq_iff_iff, List.isPrefixOf_iff_prefix, decide_eq_true_eq, List.prefix_iff_eq_take]
    exact eq_comm
  have e2 : Lib.trimPrefix s.data.toList (⟨#[116, 105, 116, 108, 101]⟩ : ByteArray).data.toList = if (lst s).take 5 = titleP then (lst s).drop 5 else lst s := by
    unfold Lib.trimPrefix
    rw [e1]
    by_cases h : (lst s).take 5 = titleP
    · rw [if_pos h, if_pos (by simpa using h)]; rfl
    · rw [if_neg h, if_neg (by simpa using h)]; rfl
  rw [e1, e2] at hcon
  exact hcon.mono fun e w' ⟨h1, h2⟩ => ⟨h1, h2.symm⟩
theorem below_grow (w : World) (k : Nat) (os : Array Obj) : Below w.heap.size w (Sort.grow (w.drewN k) os) :=
  ⟨rfl, rfl, rfl, by rw [Sort.size_grow]; exact Nat.le_add_right _ _, fun j hj => Sort.heap_grow_old (w.drewN k) os hj⟩
theorem itoa_any (n : Int) (w : World) (hT : TabP w) (h0 : -9223372036854775808 ≤ n) (h1 : n ≤ 9223372036854775807) :
    Calls Tryd.prog 39 #[.int .i64 n] w fun e w' => e = .returned (.string (str (Lib.itoa n))) ∧ Below w.heap.size w w' :=
  (Any.strconv_Itoa Tryd.lays171 n h0 h1 w hT).mono fun e w' ⟨he, k, os, hw⟩ => ⟨he, by rw [hw]; exact below_grow w k os⟩
end Go.Proofs.YthidkkjhpdcenaaDoor
