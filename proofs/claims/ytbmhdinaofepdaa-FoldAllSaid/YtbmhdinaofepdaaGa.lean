/- MEMORY: arrays of numbers of 32 bits by value (games, pages), slices of such numbers. Of every seat that has state.State. -/
import Derived.Test.YtbmhdinaofepdaaKd
import Derived.Deep.MidRow
import Derived.Deep.WholeRow
import Derived.Laws.CopyOwn
import Derived.Laws.ResultCell
namespace Go.Proofs.Ytbmhdinaofepdaa
set_option maxRecDepth 100000
open Go.RowKit
set_option linter.unusedVariables false

def vi (x : Int) : Value := .int .i32 x
/-- an array's cells -/
def gC (g : List Int) : Array Value := (g.map vi).toArray
/-- block b holds the array g -/
def GA (w : World) (b : Nat) (t : TypeId) (g : List Int) : Prop := w.heap[b]? = some (.cells (gC g) t (0, 0))
theorem gC_size (g : List Int) : (gC g).size = g.length := by unfold gC; simp
theorem gC_get (g : List Int) (k : Nat) (hk : k < g.length) : (gC g)[k]? = some (.int .i32 g[k]) := by
  unfold gC; simp [hk, vi]
theorem gC_inj {a b : List Int} (h : gC a = gC b) : a = b := by
  unfold gC at h
  have h2 : a.map vi = b.map vi := by simpa using h
  exact List.map_inj_right (by intro x y e; unfold vi at e; injection e) |>.1 h2
theorem gC_one (g : List Int) : (gC g).all (·.oneCell') = true := by
  unfold gC
  exact all_oneCell_toArray (fun v hv => by obtain ⟨x, _, rfl⟩ := List.mem_map.1 hv; rfl)
theorem GA.cell {w : World} {b : Nat} {t : TypeId} {g : List Int} (h : GA w b t g) (k : Nat) (hk : k < g.length) : w.cell? ⟨b, k, none⟩ = some (.int .i32 g[k]) := by
  rw [cell_of_row w b k _ _ _ h, gC_get g k hk]
theorem GA.lt {w : World} {b : Nat} {t : TypeId} {g : List Int} (h : GA w b t g) : b < w.heap.size := (Array.getElem?_eq_some_iff.1 h).1
theorem GA.frozen {w : World} {b : Nat} {t : TypeId} {g : List Int} (h : GA w b t g) (k : Nat) : w.frozen? ⟨b, k, none⟩ = false := by
  unfold GA at h
  simp [World.frozen?, h]
theorem GA.new (w : World) (t : TypeId) (g : List Int) : GA (w.alloc (.cells (gC g) t)) w.heap.size t g := heap_alloc_last w _
theorem GA.new_at (w : World) (n : Nat) (t : TypeId) (g : List Int) (hn : w.heap.size = n) : GA (w.alloc (.cells (gC g) t)) n t g := hn ▸ GA.new w t g
theorem GA.alloc {w : World} {b : Nat} {t : TypeId} {g : List Int} (h : GA w b t g) (o : Obj) : GA (w.alloc o) b t g := (Below.heap_alloc w o b h.lt).trans h
theorem GA.below {w w' : World} {b B : Nat} {t : TypeId} {g : List Int} (h : GA w b t g) (hb : Below B w w') (hB : b < B) : GA w' b t g := (hb.block b hB).trans h
theorem GA.grown {w w' : World} {b : Nat} {row : Option Nat} {t : TypeId} {g : List Int} (h : GA w b t g) (hg : w.grownBy w' row) (hr : some b ≠ row) : GA w' b t g := (hg.block b h.lt hr).trans h
theorem GA.other {w : World} {b : Nat} {t : TypeId} {g : List Int} (h : GA w b t g) (a : Addr) (v : Value) (hne : b ≠ a.block) : GA (w.setCell a v) b t g := (Below.heap_setCell w a v b hne).trans h
theorem GA.drew {w : World} {b : Nat} {t : TypeId} {g : List Int} (h : GA w b t g) : GA w.drew b t g := h
theorem GA.set {w : World} {b : Nat} {t : TypeId} {g : List Int} (h : GA w b t g) (k : Nat) (x : Int) : GA (w.setCell ⟨b, k, none⟩ (.int .i32 x)) b t (g.set k x) := by
  unfold GA at *
  have hs : gC (g.set k x) = (gC g).setIfInBounds k (.int .i32 x) := by unfold gC; rw [List.map_set]; simp [vi]
  rw [hs]
  simp [World.setCell, Array.getElem?_modify, h]
theorem GA.range {w : World} {b : Nat} {t : TypeId} {g : List Int} (h : GA w b t g) : w.rangeAt b 0 (gC g).toList := fun j v hv => by
  rw [Nat.zero_add, cell_of_row w b j _ _ _ h]; simpa using hv
theorem load_g {P : Program} {w : World} {b : Nat} {t : TypeId} {g : List Int} (h : GA w b t g) {n : Nat} {e : TypeId} (hu : P.underlying t = some (.array n e)) (hi : (P.info? t).map (·.size) = some g.length) (ty : TypeId)
    (hu2 : P.underlying ty = some (.array n e)) (hi2 : (P.info? ty).map (·.size) = some g.length) :
    (Instr.loadAt ty (.pointer (some ⟨b, 0, none⟩))).run P w = .ok (.agg (gC g)) w := by
  have := run_loadAt_mid (P := P) w b 0 ty (gC g).toList _ h.range hu2 rfl (by rw [hi2]; simp [gC_size])
  simpa using this
theorem loadFrom_g {P : Program} {w : World} {b : Nat} {t : TypeId} {g : List Int} (h : GA w b t g) (n : Nat) (hn : g.length = n) :
    (loadCellsFrom ⟨b, 0, none⟩ 0 n #[]).run P w = .ok (gC g) w := by
  subst hn
  have := run_loadCells_list (P := P) w ⟨b, 0, none⟩ (gC g).toList (fun j v hv => by
    rw [Addr.add_lit]; exact h.range j v hv)
  rw [Array.length_toList, gC_size] at this
  simpa [loadCells] using this
theorem exec_load_g {P : Program} {S : World → Prop} {op : Oper} {a : Act} (ty : TypeId) (x : Operand) (ho : op.op = .load ty x)
    (b : Nat) (hx : a.eval x = .pointer (some ⟨b, 0, none⟩)) (t : TypeId) (g : List Int) (hS : ∀ w, S w → GA w b t g) {n : Nat} {e : TypeId} (hu : P.underlying ty = some (.array n e)) (hi : (P.info? ty).map (·.size) = some g.length) (w : World) (hw : S w) :
    (execOp a.eval op).run P w = .ok (.value (.agg (gC g))) w := by
  have := run_loadVar_mid (P := P) w b 0 ty (gC g).toList _ (hS w hw).range hu rfl (by rw [hi]; simp [gC_size])
  unfold execOp
  simp only [ho, hx, Instr.loadAt, Instr.sureAddr, Sem.run_bind, Sem.run_pure, Result.andThen_ok, this]
theorem yieldsIf_load_g {P : Program} {ops : Array Oper} {S : World → Prop} {op : Oper} {a : Act} (hw : Region.wanted op (yielded ops a.tmps) = true) (ty : TypeId) (x : Operand) (ho : op.op = .load ty x)
    (b : Nat) (hx : a.eval x = .pointer (some ⟨b, 0, none⟩)) (t : TypeId) (g : List Int) (hS : ∀ w, S w → GA w b t g) {n : Nat} {e : TypeId} (hu : P.underlying ty = some (.array n e)) (hi : (P.info? ty).map (·.size) = some g.length) :
    YieldsIf P ops S op (.agg (gC g)) a := by
  have := yieldsIf_load_mid (P := P) (S := S) hw ty x ho b 0 hx (gC g).toList _ (fun w h => (hS w h).range) hu rfl (by rw [hi]; simp [gC_size])
  simpa using this
theorem wpList_load_g {P : Program} {ops : Array Oper} {rest : List Oper} {op : Oper} {a : Act} {w : World} {Q : Exit → Act → World → Prop} (hgd : op.guard = none) (ty : TypeId) (x : Operand) (ho : op.op = .load ty x)
    (b : Nat) (hx : a.eval x = .pointer (some ⟨b, 0, none⟩)) (t : TypeId) (g : List Int) (h : GA w b t g) {n : Nat} {e : TypeId} (hu : P.underlying ty = some (.array n e)) (hi : (P.info? ty).map (·.size) = some g.length)
    (hk : wpList P ops Q rest (a.put op.dst (.agg (gC g))) w) : wpList P ops Q (op :: rest) a w := by
  refine wpList_load_mid hgd ty x ho b 0 hx (gC g).toList _ h.range hu rfl (by rw [hi]; simp [gC_size]) ?_
  simpa using hk
/-- what a store of a whole array leaves -/
theorem storeVar_g {P : Program} (w : World) (b : Nat) (ty t : TypeId) (g g' : List Int) (h : GA w b t g) (hl : g'.length = g.length) (hi : (P.info? ty).map (·.size) = some g'.length) :
    ∃ w', (storeVar ty ⟨b, 0, none⟩ (.agg (gC g'))).run P w = .ok () w' ∧ GA w' b t g' ∧ w'.heap.size = w.heap.size ∧ w.grownBy w' (some b) := by
  refine ⟨_, run_storeVar_row w b t ty (gC g) (gC g') h (by rw [hi, gC_size]) (by rw [gC_size, gC_size, hl]) (gC_one g'), setRow_heap w b _ _ t _ h, by simp [World.setRow], ⟨rfl, rfl, rfl, by simp [World.setRow], fun k hk hne => setRow_other w b k _ (fun e => hne (by rw [e]))⟩⟩
theorem wpList_store_g {P : Program} {ops : Array Oper} {rest : List Oper} {op : Oper} {a : Act} {w : World} {Q : Exit → Act → World → Prop} (hgd : op.guard = none) (ty : TypeId) (x y : Operand) (ho : op.op = .store ty x y)
    (b : Nat) (hx : a.eval x = .pointer (some ⟨b, 0, none⟩)) (t : TypeId) (g g' : List Int) (h : GA w b t g) (hy : a.eval y = .agg (gC g')) (hl : g'.length = g.length) (hi : (P.info? ty).map (·.size) = some g'.length)
    (hk : ∀ w', GA w' b t g' → w'.heap.size = w.heap.size → w.grownBy w' (some b) → wpList P ops Q rest (a.put op.dst undef) w') : wpList P ops Q (op :: rest) a w := by
  refine wpList_plain hgd fun K hK => ?_
  obtain ⟨w', hrun, h1, h2, h3⟩ := storeVar_g (P := P) w b ty t g g' h hl hi
  unfold Oper.wp execOp
  simp only [ho, hx, hy, Instr.storeAt, Instr.sureAddr, Sem.run_bind, Sem.run_pure, Result.andThen_ok, hrun]
  exact hK _ _ (hk w' h1 h2 h3)
theorem index_g {P : Program} (t : TypeId) (g : List Int) {n : Nat} {e : TypeId} {d : TypeDesc} (hu : P.underlying t = some (.array n e)) (hue : P.underlying e = some d) (hd : d.isRow = false) (hs : (P.info? e).map (·.size) = some 1) (k : Nat) (hk : k < g.length) (hn : g.length = n) (w : World) :
    (Instr.index t (.agg (gC g)) (.int .i64 (k : Int))).run P w = .ok (.int .i32 g[k]) w := by
  have hagg : (isAgg e).run P w = .ok false w := by
    unfold isAgg
    rw [Sem.run_bind, run_underlying hue w]
    cases d <;> simp_all
  have hsz : (sizeOf e).run P w = .ok 1 w := by
    cases hq : P.info? e with
    | none => simp [hq] at hs
    | some i =>
      have : i.size = 1 := by simpa [hq] using hs
      simp [sizeOf, typeInfo, hq, this]
  have hin : (0 : Int) ≤ (k : Int) ∧ (k : Int) < (n : Int) := by omega
  have hw : IntKind.i64.wrap (k : Int) = k ∨ True := .inr trivial
  simp [Instr.index, asIntOf, run_underlying hu, hn ▸ hk, hsz, part, hagg, gC_get g k hk]

theorem results_g {P : Program} {fn : Func} {p : Tmp} {ty : TypeId} (h : fn.results = #[.cell p ty]) {tmps : Array Value} {w : World} {b : Nat} {t : TypeId} {g : List Int} (hg : GA w b t g) (hp : tmps.getD p undef = .pointer (some ⟨b, 0, none⟩)) {n : Nat} {e : TypeId}
    (hu : P.underlying ty = some (.array n e)) (hi : (P.info? ty).map (·.size) = some g.length) : (results fn tmps).run P w = .ok (.agg (gC g)) w :=
  results_cell_row h tmps w b t (gC g) (0, 0) _ hp hg hu rfl (by rw [hi, gC_size])
theorem results_g2 {P : Program} {fn : Func} {p u : Tmp} {ty : TypeId} (h : fn.results = #[.cell p ty, .tmp u]) {tmps : Array Value} {w : World} {b : Nat} {t : TypeId} {g : List Int} (hg : GA w b t g) (hp : tmps.getD p undef = .pointer (some ⟨b, 0, none⟩)) {v : Value} (hv : tmps.getD u undef = v) {n : Nat} {e : TypeId}
    (hu : P.underlying ty = some (.array n e)) (hi : (P.info? ty).map (·.size) = some g.length) : (results fn tmps).run P w = .ok (.tuple #[.agg (gC g), v]) w := by
  rw [results_cell_tmp h, hp, hv]
  have := run_loadVar_row (P := P) w b t ty (gC g) (0, 0) _ hg hu rfl (by rw [hi, gC_size])
  simp only [asAddr, Sem.run_pure, Result.andThen_ok, this]

/-- A slice value at A reads as the numbers l, below block B. -/
def RG (w : World) (B : Nat) (A : Option Addr) (l : List Int) : Prop :=
  0 < l.length → ∃ b off, A = some ⟨b, off, none⟩ ∧ b < B ∧ ∀ j (h : j < l.length), w.cell? ⟨b, off + j, none⟩ = some (.int .i32 l[j])
theorem RG.below {w w' : World} {B : Nat} {A : Option Addr} {l : List Int} (h : RG w B A l) (hb : Below B w w') : RG w' B A l := fun h0 => by
  obtain ⟨b, off, e, hlt, hc⟩ := h h0
  exact ⟨b, off, e, hlt, fun j hj => (hb.cell (p := ⟨b, off + j, none⟩) hlt).trans (hc j hj)⟩
end Go.Proofs.Ytbmhdinaofepdaa
