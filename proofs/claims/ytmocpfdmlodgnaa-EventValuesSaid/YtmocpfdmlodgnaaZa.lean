/- EVENTS: plain values; the walks over package event. -/
import Derived.Test.YtmocpfdmlodgnaaKb
import Derived.WalkKit
import Derived.WalkSpells
import Derived.WalkLawsBesides
import Derived.WalkSmall
import Derived.Lib.Hide
import Derived.OwnWalk
import Derived.Laws.ResultCell
import Derived.Laws.Rows
import Derived.Laws.StructEq
import Derived.Recover
import Derived.Defers
namespace Go.Proofs.Ytmocpfdmlodgnaa
set_option maxRecDepth 100000
open Go.RowKit
set_option linter.unusedVariables false
set_option linter.unusedSimpArgs false

def rawV (k p f : Int) : Value := .agg #[.int .i64 k, .int .i64 p, .int .i64 f]
def evN : Value := .agg #[.nilIface]
def evQ (p : Int) : Value := .agg #[.iface 44 (.agg #[.int .i64 p])]
def evL (p : Int) : Value := .agg #[.iface 45 (.agg #[.int .i64 p])]
def evA (p f : Int) : Value := .agg #[.iface 47 (.agg #[.int .i64 p, .int .i64 f])]

/-! ### closed facts -/
theorem eqN (w : World) : (binOp .eql 26 .nilIface .nilIface).run Try.prog w = .ok (.bool true) w := by kernel_rfl
theorem eqT (T : TypeId) (v : Value) (w : World) : (binOp .eql 26 (.iface T v) .nilIface).run Try.prog w = .ok (.bool false) w := by kernel_rfl
theorem rawQ (n : Nat) (v : Value) (w : World) : (method (n + 1) 44 v "quintain/event.raw").run Try.prog w = .ok (34, v) w := by kernel_rfl
theorem rawL (n : Nat) (v : Value) (w : World) : (method (n + 1) 45 v "quintain/event.raw").run Try.prog w = .ok (50, v) w := by kernel_rfl
theorem rawA (n : Nat) (v : Value) (w : World) : (method (n + 1) 47 v "quintain/event.raw").run Try.prog w = .ok (52, v) w := by kernel_rfl
theorem textQ (n : Nat) (v : Value) (w : World) : (method (n + 1) 44 v "quintain/event.text").run Try.prog w = .ok (35, v) w := by kernel_rfl
theorem textL (n : Nat) (v : Value) (w : World) : (method (n + 1) 45 v "quintain/event.text").run Try.prog w = .ok (51, v) w := by kernel_rfl
theorem textA (n : Nat) (v : Value) (w : World) : (method (n + 1) 47 v "quintain/event.text").run Try.prog w = .ok (53, v) w := by kernel_rfl
theorem asN (w : World) : (Instr.typeAssert .nilIface 26 47 true).run Try.prog w = .ok (.tuple #[.agg #[.int .i64 0, .int .i64 0], .bool false]) w := by kernel_rfl
theorem asQ (v : Value) (w : World) : (Instr.typeAssert (.iface 44 v) 26 47 true).run Try.prog w = .ok (.tuple #[.agg #[.int .i64 0, .int .i64 0], .bool false]) w := by kernel_rfl
theorem asL (v : Value) (w : World) : (Instr.typeAssert (.iface 45 v) 26 47 true).run Try.prog w = .ok (.tuple #[.agg #[.int .i64 0, .int .i64 0], .bool false]) w := by kernel_rfl
theorem asA (v : Value) (w : World) : (Instr.typeAssert (.iface 47 v) 26 47 true).run Try.prog w = .ok (.tuple #[v, .bool true]) w := by kernel_rfl
theorem muA (v : Value) (w : World) : (Instr.typeAssert (.iface 47 v) 26 47 false).run Try.prog w = .ok v w := by kernel_rfl

theorem fldA (a b : Value) (w : World) : (Instr.field 47 (.agg #[a, b]) 1).run Try.prog w = .ok b w := by kernel_rfl
theorem fldR0 (a b c : Int) (w : World) : (Instr.field 23 (.agg #[.int .i64 a, .int .i64 b, .int .i64 c]) 0).run Try.prog w = .ok (.int .i64 a) w := by kernel_rfl
theorem fldR1 (a b c : Int) (w : World) : (Instr.field 23 (.agg #[.int .i64 a, .int .i64 b, .int .i64 c]) 1).run Try.prog w = .ok (.int .i64 b) w := by kernel_rfl
/-- what a failed assertion tells of -/
noncomputable def taE (x y : Value) : Obj := .cells #[x, y, .pointer (some ⟨Try.prog.globals.size, 47, none⟩), .string ⟨#[]⟩] 53
noncomputable def hdl (t : Nat) : Value := .pointer (some ⟨Try.prog.globals.size, t, none⟩)
theorem muN (w : World) : (Instr.typeAssert .nilIface 26 47 false).run Try.prog w = .halt (.panic (.iface 15 (.pointer (some ⟨w.heap.size, 0, none⟩)))) (w.alloc (taE (hdl 26) (.pointer none))) := by kernel_rfl
theorem muQ (v : Value) (w : World) : (Instr.typeAssert (.iface 44 v) 26 47 false).run Try.prog w = .halt (.panic (.iface 15 (.pointer (some ⟨w.heap.size, 0, none⟩)))) (w.alloc (taE (hdl 26) (hdl 44))) := by kernel_rfl
theorem muL (v : Value) (w : World) : (Instr.typeAssert (.iface 45 v) 26 47 false).run Try.prog w = .halt (.panic (.iface 15 (.pointer (some ⟨w.heap.size, 0, none⟩)))) (w.alloc (taE (hdl 26) (hdl 45))) := by kernel_rfl

/-! ### Of -/
theorem of_quit (p : Int) (h0 : 0 ≤ p) (h7 : p ≤ 7) (w : World) :
    Calls Try.prog 8 #[rawV 1 p 0] w fun e w' => e = .returned (.tuple #[evQ p, .bool true]) ∧ Below w.heap.size w w' := by
  have d1 : decide (p < 0) = false := by simp; omega
  have d2 : decide (8 ≤ p) = false := by simp; omega
  have d3 : ¬ p < 0 := by omega
  have d4 : ¬ 8 ≤ p := by omega
  unfold rawV evQ
  go_enter Try.func8, Try.ntmps8
  go_wp2_with fail
  refine bodyPost_ret (by rw [results_cell_tmp rfl]; go_simp) rfl ⟨rfl, ((Below.refl _ _).alloc (Nat.le_refl _) _).alloc (by simp) _⟩
theorem of_late (p : Int) (h0 : 0 ≤ p) (h7 : p ≤ 7) (w : World) :
    Calls Try.prog 8 #[rawV 2 p 0] w fun e w' => e = .returned (.tuple #[evL p, .bool true]) ∧ Below w.heap.size w w' := by
  have d1 : decide (p < 0) = false := by simp; omega
  have d2 : decide (8 ≤ p) = false := by simp; omega
  have d3 : ¬ p < 0 := by omega
  have d4 : ¬ 8 ≤ p := by omega
  unfold rawV evL
  go_enter Try.func8, Try.ntmps8
  go_wp2_with fail
  refine bodyPost_ret (by rw [results_cell_tmp rfl]; go_simp) rfl ⟨rfl, ((Below.refl _ _).alloc (Nat.le_refl _) _).alloc (by simp) _⟩
theorem of_apart (p f : Int) (h0 : 0 ≤ p) (h7 : p ≤ 7) (f0 : 0 ≤ f) (f1 : f ≤ 1000) (w : World) :
    Calls Try.prog 8 #[rawV 3 p f] w fun e w' => e = .returned (.tuple #[evA p f, .bool true]) ∧ Below w.heap.size w w' := by
  have d1 : decide (p < 0) = false := by simp; omega
  have d2 : decide (8 ≤ p) = false := by simp; omega
  have d3 : ¬ p < 0 := by omega
  have d4 : ¬ 8 ≤ p := by omega
  have d5 : decide (0 ≤ f) = true := by simp; omega
  have d6 : decide (f ≤ 1000) = true := by simp; omega
  unfold rawV evA
  go_enter Try.func8, Try.ntmps8
  go_wp2_with fail
  refine bodyPost_ret (by rw [results_cell_tmp rfl]; go_simp) rfl ⟨rfl, ((Below.refl _ _).alloc (Nat.le_refl _) _).alloc (by simp) _⟩

/-! ### Frame -/
theorem frame_none (w : World) :
    Calls Try.prog 14 #[evN] w fun e w' => e = .returned (.tuple #[.int .i64 0, .bool false]) ∧ Below w.heap.size w w' := by
  have ha := asN
  unfold evN
  go_enter Try.func14, Try.ntmps14
  go_wp2_with fail
  go_ret2
  exact ⟨rfl, ((Below.refl _ _).alloc (Nat.le_refl _) _).alloc (by simp) _⟩
theorem frame_quit (p : Int) (w : World) :
    Calls Try.prog 14 #[evQ p] w fun e w' => e = .returned (.tuple #[.int .i64 0, .bool false]) ∧ Below w.heap.size w w' := by
  have ha := asQ
  unfold evQ
  go_enter Try.func14, Try.ntmps14
  go_wp2_with fail
  go_ret2
  exact ⟨rfl, ((Below.refl _ _).alloc (Nat.le_refl _) _).alloc (by simp) _⟩
theorem frame_late (p : Int) (w : World) :
    Calls Try.prog 14 #[evL p] w fun e w' => e = .returned (.tuple #[.int .i64 0, .bool false]) ∧ Below w.heap.size w w' := by
  have ha := asL
  unfold evL
  go_enter Try.func14, Try.ntmps14
  go_wp2_with fail
  go_ret2
  exact ⟨rfl, ((Below.refl _ _).alloc (Nat.le_refl _) _).alloc (by simp) _⟩
theorem frame_apart (p f : Int) (w : World) :
    Calls Try.prog 14 #[evA p f] w fun e w' => e = .returned (.tuple #[.int .i64 f, .bool true]) ∧ Below w.heap.size w w' := by
  have ha := asA
  unfold evA
  go_enter Try.func14, Try.ntmps14
  go_wp2_with fail
  go_ret2
  exact ⟨rfl, ((Below.refl _ _).alloc (Nat.le_refl _) _).alloc (by simp) _⟩
/-! ### MustFrame -/
theorem must_apart (p f : Int) (w : World) :
    Calls Try.prog 17 #[evA p f] w fun e w' => e = .returned (.int .i64 f) ∧ Below w.heap.size w w' := by
  have ha := muA
  have hf := fldA
  unfold evA
  go_enter Try.func17, Try.ntmps17
  go_wp2_with fail
  go_ret
  exact ⟨rfl, (Below.refl _ _).alloc (Nat.le_refl _) _⟩
theorem must_none (w : World) :
    Calls Try.prog 17 #[evN] w fun e w' => (∃ v, e = .panicked [{ v := .iface 15 v, recovered := false }]) ∧ Below w.heap.size w w' := by
  have ha := muN
  unfold evN
  go_enter Try.func17, Try.ntmps17
  go_wp2_with fail
  exact ⟨rfl, ⟨_, rfl⟩, ((Below.refl _ _).alloc (Nat.le_refl _) _).alloc (by simp) _⟩
theorem must_quit (p : Int) (w : World) :
    Calls Try.prog 17 #[evQ p] w fun e w' => (∃ v, e = .panicked [{ v := .iface 15 v, recovered := false }]) ∧ Below w.heap.size w w' := by
  have ha := muQ
  unfold evQ
  go_enter Try.func17, Try.ntmps17
  go_wp2_with fail
  exact ⟨rfl, ⟨_, rfl⟩, ((Below.refl _ _).alloc (Nat.le_refl _) _).alloc (by simp) _⟩
theorem must_late (p : Int) (w : World) :
    Calls Try.prog 17 #[evL p] w fun e w' => (∃ v, e = .panicked [{ v := .iface 15 v, recovered := false }]) ∧ Below w.heap.size w w' := by
  have ha := muL
  unfold evL
  go_enter Try.func17, Try.ntmps17
  go_wp2_with fail
  exact ⟨rfl, ⟨_, rfl⟩, ((Below.refl _ _).alloc (Nat.le_refl _) _).alloc (by simp) _⟩

/-! ### Raw, Player -/
theorem results_c1 {fn : Func} {p : Tmp} {ty : TypeId} (h : fn.results = #[.cell p ty]) (tmps : Array Value) (P : Program) (w : World) :
    (results fn tmps).run P w = ((asAddr (tmps.getD p undef)).run P w).andThen fun a w₁ => ((loadVar ty a).run P w₁) := by
  simp only [results, h]
  simp [Sem.run_bind, Result.andThen]
  try rfl
theorem row3 {w : World} {X : Nat} {z0 z1 z2 : Value} {T : TypeId} (h : w.heap[X]? = some (.cells #[z0, z1, z2] T (0, 0))) :
    (w.cell? ⟨X, 0, none⟩ = some z0 ∧ w.cell? ⟨X, 1, none⟩ = some z1 ∧ w.cell? ⟨X, 2, none⟩ = some z2) ∧
    (w.frozen? ⟨X, 0, none⟩ = false ∧ w.frozen? ⟨X, 1, none⟩ = false ∧ w.frozen? ⟨X, 2, none⟩ = false) := by
  refine ⟨⟨?_, ?_, ?_⟩, ⟨?_, ?_, ?_⟩⟩ <;> simp [World.cell?, World.frozen?, h]
theorem sets3 {w : World} {X : Nat} {z0 z1 z2 : Value} {T : TypeId} (h : w.heap[X]? = some (.cells #[z0, z1, z2] T (0, 0))) (a b c : Value) :
    (((w.setCell ⟨X, 0, none⟩ a).setCell ⟨X, 1, none⟩ b).setCell ⟨X, 2, none⟩ c).heap[X]? = some (.cells #[a, b, c] T (0, 0)) := by
  simp [World.setCell, Array.getElem?_modify, h]
theorem infoRaw : (Try.prog.info? 23).map (·.size) = some 3 := by kernel_rfl
theorem infoEv : (Try.prog.info? 28).map (·.size) = some 1 := by kernel_rfl
theorem raw_none (w : World) :
    Calls Try.prog 11 #[evN] w fun e w' => e = .returned (rawV 0 0 0) ∧ Below w.heap.size w w' := by
  have he := eqN
  unfold evN rawV
  go_enter Try.func11, Try.ntmps11
  go_wp2_with fail
  exact bodyPost_ret (by rw [results_c1 rfl]; go_simp) rfl ⟨rfl, ((Below.refl _ _).alloc (Nat.le_refl _) _).alloc (by simp) _⟩
theorem raw_quit_own (p : Int) (w : World) :
    Calls Try.prog 34 #[.agg #[.int .i64 p]] w fun e w' => e = .returned (rawV 1 p 0) ∧ Below w.heap.size w w' := by
  unfold rawV
  go_enter Try.func34, Try.ntmps34
  go_wp2_with fail
  exact bodyPost_ret (by rw [results_c1 rfl]; go_simp) rfl ⟨rfl, ((Below.refl _ _).alloc (Nat.le_refl _) _).alloc (by simp) _⟩
theorem raw_quit (p : Int) (w : World) :
    Calls Try.prog 11 #[evQ p] w fun e w' => e = .returned (rawV 1 p 0) ∧ Below w.heap.size w w' := by
  have he := eqT
  have hm := rawQ
  have HO := Lib.hid (raw_quit_own p)
  unfold evQ
  unfold rawV at HO ⊢
  go_enter Try.func11, Try.ntmps11
  go_wp2_with (go_at_call 34; with_reducible refine (HO.out _).mono ?_; rintro e w1 ⟨rfl, B⟩; have hk := (B.block (w.heap.size + 1) (by simp)).trans (heap_alloc2_new w _ _); obtain ⟨⟨c0, c1, c2⟩, ⟨f0, f1, f2⟩⟩ := row3 hk)
  have hs := B.size
  simp only [World.size_alloc] at hs
  refine bodyPost_ret (results_cell_row rfl _ _ (w.heap.size + 1) _ _ _ _ rfl (sets3 hk _ _ _) Try.underlying23 rfl infoRaw) rfl ⟨rfl, ?_⟩
  exact ((((((Below.refl _ _).alloc (Nat.le_refl _) _).alloc (by simp) _).trans (B.mono (by simp; omega))).setCell (by simp) _).setCell (by simp) _).setCell (by simp) _
theorem player_quit (p : Int) (w : World) :
    Calls Try.prog 12 #[evQ p] w fun e w' => e = .returned (.int .i64 p) ∧ Below w.heap.size w w' := by
  have hf := fldR1
  have HO := Lib.hid (raw_quit p)
  unfold evQ at HO ⊢
  unfold rawV at HO
  go_enter Try.func12, Try.ntmps12
  go_wp2_with (go_at_call 11; with_reducible refine (HO.out _).mono ?_; rintro e w1 ⟨rfl, B⟩)
  go_ret
  exact ⟨rfl, ((Below.refl _ _).alloc (Nat.le_refl _) _).trans (B.mono (by simp))⟩
theorem raw_late_own (p : Int) (w : World) :
    Calls Try.prog 50 #[.agg #[.int .i64 p]] w fun e w' => e = .returned (rawV 2 p 0) ∧ Below w.heap.size w w' := by
  unfold rawV
  go_enter Try.func50, Try.ntmps50
  go_wp2_with fail
  exact bodyPost_ret (by rw [results_c1 rfl]; go_simp) rfl ⟨rfl, ((Below.refl _ _).alloc (Nat.le_refl _) _).alloc (by simp) _⟩
theorem raw_late (p : Int) (w : World) :
    Calls Try.prog 11 #[evL p] w fun e w' => e = .returned (rawV 2 p 0) ∧ Below w.heap.size w w' := by
  have he := eqT
  have hm := rawL
  have HO := Lib.hid (raw_late_own p)
  unfold evL
  unfold rawV at HO ⊢
  go_enter Try.func11, Try.ntmps11
  go_wp2_with (go_at_call 50; with_reducible refine (HO.out _).mono ?_; rintro e w1 ⟨rfl, B⟩; have hk := (B.block (w.heap.size + 1) (by simp)).trans (heap_alloc2_new w _ _); obtain ⟨⟨c0, c1, c2⟩, ⟨f0, f1, f2⟩⟩ := row3 hk)
  have hs := B.size
  simp only [World.size_alloc] at hs
  refine bodyPost_ret (results_cell_row rfl _ _ (w.heap.size + 1) _ _ _ _ rfl (sets3 hk _ _ _) Try.underlying23 rfl infoRaw) rfl ⟨rfl, ?_⟩
  exact ((((((Below.refl _ _).alloc (Nat.le_refl _) _).alloc (by simp) _).trans (B.mono (by simp; omega))).setCell (by simp) _).setCell (by simp) _).setCell (by simp) _
theorem player_late (p : Int) (w : World) :
    Calls Try.prog 12 #[evL p] w fun e w' => e = .returned (.int .i64 p) ∧ Below w.heap.size w w' := by
  have hf := fldR1
  have HO := Lib.hid (raw_late p)
  unfold evL at HO ⊢
  unfold rawV at HO
  go_enter Try.func12, Try.ntmps12
  go_wp2_with (go_at_call 11; with_reducible refine (HO.out _).mono ?_; rintro e w1 ⟨rfl, B⟩)
  go_ret
  exact ⟨rfl, ((Below.refl _ _).alloc (Nat.le_refl _) _).trans (B.mono (by simp))⟩
theorem raw_apart_own (p f : Int) (w : World) :
    Calls Try.prog 52 #[.agg #[.int .i64 p, .int .i64 f]] w fun e w' => e = .returned (rawV 3 p f) ∧ Below w.heap.size w w' := by
  unfold rawV
  go_enter Try.func52, Try.ntmps52
  go_wp2_with fail
  exact bodyPost_ret (by rw [results_c1 rfl]; go_simp) rfl ⟨rfl, ((Below.refl _ _).alloc (Nat.le_refl _) _).alloc (by simp) _⟩
theorem raw_apart (p f : Int) (w : World) :
    Calls Try.prog 11 #[evA p f] w fun e w' => e = .returned (rawV 3 p f) ∧ Below w.heap.size w w' := by
  have he := eqT
  have hm := rawA
  have HO := Lib.hid (raw_apart_own p f)
  unfold evA
  unfold rawV at HO ⊢
  go_enter Try.func11, Try.ntmps11
  go_wp2_with (go_at_call 52; with_reducible refine (HO.out _).mono ?_; rintro e w1 ⟨rfl, B⟩; have hk := (B.block (w.heap.size + 1) (by simp)).trans (heap_alloc2_new w _ _); obtain ⟨⟨c0, c1, c2⟩, ⟨f0, f1, f2⟩⟩ := row3 hk)
  have hs := B.size
  simp only [World.size_alloc] at hs
  refine bodyPost_ret (results_cell_row rfl _ _ (w.heap.size + 1) _ _ _ _ rfl (sets3 hk _ _ _) Try.underlying23 rfl infoRaw) rfl ⟨rfl, ?_⟩
  exact ((((((Below.refl _ _).alloc (Nat.le_refl _) _).alloc (by simp) _).trans (B.mono (by simp; omega))).setCell (by simp) _).setCell (by simp) _).setCell (by simp) _
theorem player_apart (p f : Int) (w : World) :
    Calls Try.prog 12 #[evA p f] w fun e w' => e = .returned (.int .i64 p) ∧ Below w.heap.size w w' := by
  have hf := fldR1
  have HO := Lib.hid (raw_apart p f)
  unfold evA at HO ⊢
  unfold rawV at HO
  go_enter Try.func12, Try.ntmps12
  go_wp2_with (go_at_call 11; with_reducible refine (HO.out _).mono ?_; rintro e w1 ⟨rfl, B⟩)
  go_ret
  exact ⟨rfl, ((Below.refl _ _).alloc (Nat.le_refl _) _).trans (B.mono (by simp))⟩
theorem player_none (w : World) :
    Calls Try.prog 12 #[evN] w fun e w' => e = .returned (.int .i64 0) ∧ Below w.heap.size w w' := by
  have hf := fldR1
  have HO := Lib.hid raw_none
  unfold evN at HO ⊢
  unfold rawV at HO
  go_enter Try.func12, Try.ntmps12
  go_wp2_with (go_at_call 11; with_reducible refine (HO.out _).mono ?_; rintro e w1 ⟨rfl, B⟩)
  go_ret
  exact ⟨rfl, ((Below.refl _ _).alloc (Nat.le_refl _) _).trans (B.mono (by simp))⟩
end Go.Proofs.Ytmocpfdmlodgnaa
