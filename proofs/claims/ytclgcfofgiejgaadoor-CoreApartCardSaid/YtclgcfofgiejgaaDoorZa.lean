/- EVENTS: plain values; the walks over package event. -/
import Derived.Test.YtclgcfofgiejgaaDoorKb
import Derived.WalkKit
import Derived.WalkSpells
import Derived.WalkLawsBesides
import Derived.WalkSmall
import Derived.Lib.Hide
import Derived.OwnWalk
import Derived.Laws.ResultCell
import Derived.Laws.Rows
import Derived.Laws.StructEq
import Derived.Recover
import Derived.Defers
namespace Go.Proofs.YtclgcfofgiejgaaDoor
set_option maxRecDepth 100000
open Go.RowKit
set_option linter.unusedVariables false
set_option linter.unusedSimpArgs false

def rawV (k p f : Int) : Value := .agg #[.int .i64 k, .int .i64 p, .int .i64 f]
def evN : Value := .agg #[.nilIface]
def evQ (p : Int) : Value := .agg #[.iface 122 (.agg #[.int .i64 p])]
def evL (p : Int) : Value := .agg #[.iface 123 (.agg #[.int .i64 p])]
def evA (p f : Int) : Value := .agg #[.iface 125 (.agg #[.int .i64 p, .int .i64 f])]

/-! ### closed facts -/
theorem eqN (w : World) : (binOp .eql 86 .nilIface .nilIface).run Tryd.prog w = .ok (.bool true) w := by kernel_rfl
theorem eqT (T : TypeId) (v : Value) (w : World) : (binOp .eql 86 (.iface T v) .nilIface).run Tryd.prog w = .ok (.bool false) w := by kernel_rfl
theorem rawQ (n : Nat) (v : Value) (w : World) : (method (n + 1) 122 v "quintain/event.raw").run Tryd.prog w = .ok (105, v) w := by kernel_rfl
theorem rawL (n : Nat) (v : Value) (w : World) : (method (n + 1) 123 v "quintain/event.raw").run Tryd.prog w = .ok (107, v) w := by kernel_rfl
theorem rawA (n : Nat) (v : Value) (w : World) : (method (n + 1) 125 v "quintain/event.raw").run Tryd.prog w = .ok (109, v) w := by kernel_rfl
theorem textQ (n : Nat) (v : Value) (w : World) : (method (n + 1) 122 v "quintain/event.text").run Tryd.prog w = .ok (106, v) w := by kernel_rfl
theorem textL (n : Nat) (v : Value) (w : World) : (method (n + 1) 123 v "quintain/event.text").run Tryd.prog w = .ok (108, v) w := by kernel_rfl
theorem textA (n : Nat) (v : Value) (w : World) : (method (n + 1) 125 v "quintain/event.text").run Tryd.prog w = .ok (110, v) w := by kernel_rfl
theorem asN (w : World) : (Instr.typeAssert .nilIface 86 125 true).run Tryd.prog w = .ok (.tuple #[.agg #[.int .i64 0, .int .i64 0], .bool false]) w := by kernel_rfl
theorem asQ (v : Value) (w : World) : (Instr.typeAssert (.iface 122 v) 86 125 true).run Tryd.prog w = .ok (.tuple #[.agg #[.int .i64 0, .int .i64 0], .bool false]) w := by kernel_rfl
theorem asL (v : Value) (w : World) : (Instr.typeAssert (.iface 123 v) 86 125 true).run Tryd.prog w = .ok (.tuple #[.agg #[.int .i64 0, .int .i64 0], .bool false]) w := by kernel_rfl
theorem asA (v : Value) (w : World) : (Instr.typeAssert (.iface 125 v) 86 125 true).run Tryd.prog w = .ok (.tuple #[v, .bool true]) w := by kernel_rfl
theorem muA (v : Value) (w : World) : (Instr.typeAssert (.iface 125 v) 86 125 false).run Tryd.prog w = .ok v w := by kernel_rfl

theorem fldA (a b : Value) (w : World) : (Instr.field 125 (.agg #[a, b]) 1).run Tryd.prog w = .ok b w := by kernel_rfl
theorem fldR0 (a b c : Int) (w : World) : (Instr.field 43 (.agg #[.int .i64 a, .int .i64 b, .int .i64 c]) 0).run Tryd.prog w = .ok (.int .i64 a) w := by kernel_rfl
theorem fldR1 (a b c : Int) (w : World) : (Instr.field 43 (.agg #[.int .i64 a, .int .i64 b, .int .i64 c]) 1).run Tryd.prog w = .ok (.int .i64 b) w := by kernel_rfl
/-- what a failed assertion tells of -/
noncomputable def taE (x y : Value) : Obj := .cells #[x, y, .pointer (some ⟨Tryd.prog.globals.size, 125, none⟩), .string ⟨#[]⟩] 144
noncomputable def hdl (t : Nat) : Value := .pointer (some ⟨Tryd.prog.globals.size, t, none⟩)
theorem muN (w : World) : (Instr.typeAssert .nilIface 86 125 false).run Tryd.prog w = .halt (.panic (.iface 15 (.pointer (some ⟨w.heap.size, 0, none⟩)))) (w.alloc (taE (hdl 86) (.pointer none))) := by kernel_rfl
theorem muQ (v : Value) (w : World) : (Instr.typeAssert (.iface 122 v) 86 125 false).run Tryd.prog w = .halt (.panic (.iface 15 (.pointer (some ⟨w.heap.size, 0, none⟩)))) (w.alloc (taE (hdl 86) (hdl 122))) := by kernel_rfl
theorem muL (v : Value) (w : World) : (Instr.typeAssert (.iface 123 v) 86 125 false).run Tryd.prog w = .halt (.panic (.iface 15 (.pointer (some ⟨w.heap.size, 0, none⟩)))) (w.alloc (taE (hdl 86) (hdl 123))) := by kernel_rfl

/-! ### Of -/
theorem of_quit (p : Int) (h0 : 0 ≤ p) (h7 : p ≤ 7) (w : World) :
    Calls Tryd.prog 63 #[rawV 1 p 0] w fun e w' => e = .returned (.tuple #[evQ p, .bool true]) ∧ Below w.heap.size w w' := by
  have d1 : decide (p < 0) = false := by simp; omega
  have d2 : decide (8 ≤ p) = false := by simp; omega
  have d3 : ¬ p < 0 := by omega
  have d4 : ¬ 8 ≤ p := by omega
  unfold rawV evQ
  go_enter Tryd.func63, Tryd.ntmps63
  go_wp2_with fail
  refine bodyPost_ret (by rw [results_cell_tmp rfl]; go_simp) rfl ⟨rfl, ((Below.refl _ _).alloc (Nat.le_refl _) _).alloc (by simp) _⟩
theorem of_late (p : Int) (h0 : 0 ≤ p) (h7 : p ≤ 7) (w : World) :
    Calls Tryd.prog 63 #[rawV 2 p 0] w fun e w' => e = .returned (.tuple #[evL p, .bool true]) ∧ Below w.heap.size w w' := by
  have d1 : decide (p < 0) = false := by simp; omega
  have d2 : decide (8 ≤ p) = false := by simp; omega
  have d3 : ¬ p < 0 := by omega
  have d4 : ¬ 8 ≤ p := by omega
  unfold rawV evL
  go_enter Tryd.func63, Tryd.ntmps63
  go_wp2_with fail
  refine bodyPost_ret (by rw [results_cell_tmp rfl]; go_simp) rfl ⟨rfl, ((Below.refl _ _).alloc (Nat.le_refl _) _).alloc (by simp) _⟩
theorem of_apart (p f : Int) (h0 : 0 ≤ p) (h7 : p ≤ 7) (f0 : 0 ≤ f) (f1 : f ≤ 1000) (w : World) :
    Calls Tryd.prog 63 #[rawV 3 p f] w fun e w' => e = .returned (.tuple #[evA p f, .bool true]) ∧ Below w.heap.size w w' := by
  have d1 : decide (p < 0) = false := by simp; omega
  have d2 : decide (8 ≤ p) = false := by simp; omega
  have d3 : ¬ p < 0 := by omega
  have d4 : ¬ 8 ≤ p := by omega
  have d5 : decide (0 ≤ f) = true := by simp; omega
  have d6 : decide (f ≤ 1000) = true := by simp; omega
  unfold rawV evA
  go_enter Tryd.func63, Tryd.ntmps63
  go_wp2_with fail
  refine bodyPost_ret (by rw [results_cell_tmp rfl]; go_simp) rfl ⟨rfl, ((Below.refl _ _).alloc (Nat.le_refl _) _).alloc (by simp) _⟩

/-! ### Frame -/
theorem results_c1 {fn : Func} {p : Tmp} {ty : TypeId} (h : fn.results = #[.cell p ty]) (tmps : Array Value) (P : Program) (w : World) :
    (results fn tmps).run P w = ((asAddr (tmps.getD p undef)).run P w).andThen fun a w₁ => ((loadVar ty a).run P w₁) := by
  simp only [results, h]
  simp [Sem.run_bind, Result.andThen]
  try rfl
theorem row3 {w : World} {X : Nat} {z0 z1 z2 : Value} {T : TypeId} (h : w.heap[X]? = some (.cells #[z0, z1, z2] T (0, 0))) :
    (w.cell? ⟨X, 0, none⟩ = some z0 ∧ w.cell? ⟨X, 1, none⟩ = some z1 ∧ w.cell? ⟨X, 2, none⟩ = some z2) ∧
    (w.frozen? ⟨X, 0, none⟩ = false ∧ w.frozen? ⟨X, 1, none⟩ = false ∧ w.frozen? ⟨X, 2, none⟩ = false) := by
  refine ⟨⟨?_, ?_, ?_⟩, ⟨?_, ?_, ?_⟩⟩ <;> simp [World.cell?, World.frozen?, h]
theorem sets3 {w : World} {X : Nat} {z0 z1 z2 : Value} {T : TypeId} (h : w.heap[X]? = some (.cells #[z0, z1, z2] T (0, 0))) (a b c : Value) :
    (((w.setCell ⟨X, 0, none⟩ a).setCell ⟨X, 1, none⟩ b).setCell ⟨X, 2, none⟩ c).heap[X]? = some (.cells #[a, b, c] T (0, 0)) := by
  simp [World.setCell, Array.getElem?_modify, h]
theorem infoRaw : (Tryd.prog.info? 43).map (·.size) = some 3 := by kernel_rfl
theorem infoEv : (Tryd.prog.info? 88).map (·.size) = some 1 := by kernel_rfl
theorem raw_none (w : World) :
    Calls Tryd.prog 47 #[evN] w fun e w' => e = .returned (rawV 0 0 0) ∧ Below w.heap.size w w' := by
  have he := eqN
  unfold evN rawV
  go_enter Tryd.func47, Tryd.ntmps47
  go_wp2_with fail
  exact bodyPost_ret (by rw [results_c1 rfl]; go_simp) rfl ⟨rfl, ((Below.refl _ _).alloc (Nat.le_refl _) _).alloc (by simp) _⟩
theorem raw_quit_own (p : Int) (w : World) :
    Calls Tryd.prog 105 #[.agg #[.int .i64 p]] w fun e w' => e = .returned (rawV 1 p 0) ∧ Below w.heap.size w w' := by
  unfold rawV
  go_enter Tryd.func105, Tryd.ntmps105
  go_wp2_with fail
  exact bodyPost_ret (by rw [results_c1 rfl]; go_simp) rfl ⟨rfl, ((Below.refl _ _).alloc (Nat.le_refl _) _).alloc (by simp) _⟩
theorem raw_quit (p : Int) (w : World) :
    Calls Tryd.prog 47 #[evQ p] w fun e w' => e = .returned (rawV 1 p 0) ∧ Below w.heap.size w w' := by
  have he := eqT
  have hm := rawQ
  have HO := Lib.hid (raw_quit_own p)
  unfold evQ
  unfold rawV at HO ⊢
  go_enter Tryd.func47, Tryd.ntmps47
  go_wp2_with (go_at_call 105; with_reducible refine (HO.out _).mono ?_; rintro e w1 ⟨rfl, B⟩; have hk := (B.block (w.heap.size + 1) (by simp)).trans (heap_alloc2_new w _ _); obtain ⟨⟨c0, c1, c2⟩, ⟨f0, f1, f2⟩⟩ := row3 hk)
  have hs := B.size
  simp only [World.size_alloc] at hs
  refine bodyPost_ret (results_cell_row rfl _ _ (w.heap.size + 1) _ _ _ _ rfl (sets3 hk _ _ _) Tryd.underlying43 rfl infoRaw) rfl ⟨rfl, ?_⟩
  exact ((((((Below.refl _ _).alloc (Nat.le_refl _) _).alloc (by simp) _).trans (B.mono (by simp; omega))).setCell (by simp) _).setCell (by simp) _).setCell (by simp) _
theorem raw_late_own (p : Int) (w : World) :
    Calls Tryd.prog 107 #[.agg #[.int .i64 p]] w fun e w' => e = .returned (rawV 2 p 0) ∧ Below w.heap.size w w' := by
  unfold rawV
  go_enter Tryd.func107, Tryd.ntmps107
  go_wp2_with fail
  exact bodyPost_ret (by rw [results_c1 rfl]; go_simp) rfl ⟨rfl, ((Below.refl _ _).alloc (Nat.le_refl _) _).alloc (by simp) _⟩
theorem raw_late (p : Int) (w : World) :
    Calls Tryd.prog 47 #[evL p] w fun e w' => e = .returned (rawV 2 p 0) ∧ Below w.heap.size w w' := by
  have he := eqT
  have hm := rawL
  have HO := Lib.hid (raw_late_own p)
  unfold evL
  unfold rawV at HO ⊢
  go_enter Tryd.func47, Tryd.ntmps47
  go_wp2_with (go_at_call 107; with_reducible refine (HO.out _).mono ?_; rintro e w1 ⟨rfl, B⟩; have hk := (B.block (w.heap.size + 1) (by simp)).trans (heap_alloc2_new w _ _); obtain ⟨⟨c0, c1, c2⟩, ⟨f0, f1, f2⟩⟩ := row3 hk)
  have hs := B.size
  simp only [World.size_alloc] at hs
  refine bodyPost_ret (results_cell_row rfl _ _ (w.heap.size + 1) _ _ _ _ rfl (sets3 hk _ _ _) Tryd.underlying43 rfl infoRaw) rfl ⟨rfl, ?_⟩
  exact ((((((Below.refl _ _).alloc (Nat.le_refl _) _).alloc (by simp) _).trans (B.mono (by simp; omega))).setCell (by simp) _).setCell (by simp) _).setCell (by simp) _
theorem raw_apart_own (p f : Int) (w : World) :
    Calls Tryd.prog 109 #[.agg #[.int .i64 p, .int .i64 f]] w fun e w' => e = .returned (rawV 3 p f) ∧ Below w.heap.size w w' := by
  unfold rawV
  go_enter Tryd.func109, Tryd.ntmps109
  go_wp2_with fail
  exact bodyPost_ret (by rw [results_c1 rfl]; go_simp) rfl ⟨rfl, ((Below.refl _ _).alloc (Nat.le_refl _) _).alloc (by simp) _⟩
theorem raw_apart (p f : Int) (w : World) :
    Calls Tryd.prog 47 #[evA p f] w fun e w' => e = .returned (rawV 3 p f) ∧ Below w.heap.size w w' := by
  have he := eqT
  have hm := rawA
  have HO := Lib.hid (raw_apart_own p f)
  unfold evA
  unfold rawV at HO ⊢
  go_enter Tryd.func47, Tryd.ntmps47
  go_wp2_with (go_at_call 109; with_reducible refine (HO.out _).mono ?_; rintro e w1 ⟨rfl, B⟩; have hk := (B.block (w.heap.size + 1) (by simp)).trans (heap_alloc2_new w _ _); obtain ⟨⟨c0, c1, c2⟩, ⟨f0, f1, f2⟩⟩ := row3 hk)
  have hs := B.size
  simp only [World.size_alloc] at hs
  refine bodyPost_ret (results_cell_row rfl _ _ (w.heap.size + 1) _ _ _ _ rfl (sets3 hk _ _ _) Tryd.underlying43 rfl infoRaw) rfl ⟨rfl, ?_⟩
  exact ((((((Below.refl _ _).alloc (Nat.le_refl _) _).alloc (by simp) _).trans (B.mono (by simp; omega))).setCell (by simp) _).setCell (by simp) _).setCell (by simp) _
end Go.Proofs.YtclgcfofgiejgaaDoor
