/- MEMORY: arrays of numbers compared. Of every seat that has state.State. -/
import Derived.Test.YtbmhdinaofepdaaGa
import Derived.DeepKeys
import Derived.Laws.StructEq
namespace Go.Proofs.Ytbmhdinaofepdaa
open Go.RowKit
set_option linter.unusedVariables false

theorem part_g {P : Program} {e : TypeId} {d : TypeDesc} (hue : P.underlying e = some d) (hd : d.isRow = false) (g : List Int) (k : Nat) (hk : k < g.length) (w : World) : (part e (gC g) (k * 1)).run P w = .ok (.int .i32 g[k]) w := by
  have hagg : (isAgg e).run P w = .ok false w := by
    unfold isAgg
    rw [Sem.run_bind, run_underlying hue w]
    cases d <;> simp_all
  simp [part, hagg, gC_get g k hk]
theorem eqItems_g {P : Program} (dd : Nat) {e : TypeId} {k : IntKind} (hue : P.underlying e = some (.int k)) (g g' : List Int) (h : g.length = g'.length) (w : World) : ∀ is : List Nat, (∀ i ∈ is, i < g.length) →
    (Op.eqItems (dd + 1) e 1 (gC g) (gC g') is).run P w = .ok (is.all fun i => g[i]? == g'[i]?) w
  | [], _ => by simp [Op.eqItems]
  | i :: is, hi => by
    have h1 := hi i (by simp)
    have ih := eqItems_g dd hue g g' h w is (fun j hj => hi j (by simp [hj]))
    simp only [Op.eqItems, Sem.run_bind, part_g hue rfl g i h1 w, part_g hue rfl g' i (by omega) w, Result.andThen_ok, run_equalIn_int w dd e .i32 k g[i] _ hue]
    rw [List.all_cons, List.getElem?_eq_getElem h1, List.getElem?_eq_getElem (h ▸ h1 : i < g'.length)]
    cases hb : (g[i] == g'[i]) with
    | false => simp_all
    | true => simp_all
theorem all_same (g g' : List Int) (h : g.length = g'.length) : ((List.range g.length).all fun i => g[i]? == g'[i]?) = decide (g = g') := by
  rw [Bool.eq_iff_iff, List.all_eq_true, decide_eq_true_iff]
  constructor
  · intro hall
    apply List.ext_getElem? 
    intro i
    by_cases hi : i < g.length
    · simpa using hall i (by simpa using hi)
    · rw [List.getElem?_eq_none (by omega), List.getElem?_eq_none (by omega)]
  · rintro rfl i _
    simp
theorem equalIn_g {P : Program} (t : TypeId) {n : Nat} {e : TypeId} {k : IntKind} (hu : P.underlying t = some (.array n e)) (hue : P.underlying e = some (.int k)) (hs : (P.info? e).map (·.size) = some 1) (g g' : List Int) (h1 : g.length = n) (h2 : g'.length = n) (w : World) :
    (Op.equalIn 10000 t (.agg (gC g)) (.agg (gC g'))).run P w = .ok (decide (g = g')) w := by
  cases hq : P.info? e with
  | none => simp [hq] at hs
  | some i =>
    have hc : P.cellsOf e = 1 := by
      unfold Program.cellsOf
      have : i.size = 1 := by simpa [hq] using hs
      simp [hq, this]
    rw [run_equalIn_array w 9999 (gC g) (gC g') hu hq]
    have hsz : i.size = 1 := by simpa [hq] using hs
    first
      | rw [hc, eqItems_g 9998 hue g g' (by omega) w _ (fun j hj => by simp at hj; omega), ← h1, all_same g g' (by omega)]
      | rw [hsz, eqItems_g 9998 hue g g' (by omega) w _ (fun j hj => by simp at hj; omega), ← h1, all_same g g' (by omega)]
theorem eql_g {P : Program} (t : TypeId) {n : Nat} {e : TypeId} {k : IntKind} (hu : P.underlying t = some (.array n e)) (hue : P.underlying e = some (.int k)) (hs : (P.info? e).map (·.size) = some 1) (g g' : List Int) (h1 : g.length = n) (h2 : g'.length = n) (w : World) :
    (binOp .eql t (.agg (gC g)) (.agg (gC g'))).run P w = .ok (.bool (decide (g = g'))) w := by
  rw [run_eql_struct, equalIn_g t hu hue hs g g' h1 h2 w]; rfl
theorem wp_load_g {P : Program} {op : Oper} {a : Act} {w : World} {K : Act → World → Prop} {Q : Exit → Act → World → Prop} (ty : TypeId) (x : Operand) (ho : op.op = .load ty x)
    (b : Nat) (hx : a.eval x = .pointer (some ⟨b, 0, none⟩)) (t : TypeId) (g : List Int) (h : GA w b t g) {n : Nat} {e : TypeId} (hu : P.underlying ty = some (.array n e)) (hi : (P.info? ty).map (·.size) = some g.length)
    (hk : K (a.put op.dst (.agg (gC g))) w) : op.wp P a w K Q := by
  refine wp_load_mid ty x ho b 0 hx (gC g).toList _ h.range hu rfl (by rw [hi]; simp [gC_size]) ?_
  simpa using hk
theorem wp_store_g {P : Program} {op : Oper} {a : Act} {w : World} {K : Act → World → Prop} {Q : Exit → Act → World → Prop} (ty : TypeId) (x y : Operand) (ho : op.op = .store ty x y)
    (b : Nat) (hx : a.eval x = .pointer (some ⟨b, 0, none⟩)) (t : TypeId) (g g' : List Int) (h : GA w b t g) (hy : a.eval y = .agg (gC g')) (hl : g'.length = g.length) (hi : (P.info? ty).map (·.size) = some g'.length)
    (hk : ∀ w', GA w' b t g' → w'.heap.size = w.heap.size → w.grownBy w' (some b) → K (a.put op.dst undef) w') : op.wp P a w K Q := by
  obtain ⟨w', hrun, h1, h2, h3⟩ := storeVar_g (P := P) w b ty t g g' h hl hi
  unfold Oper.wp execOp
  simp only [ho, hx, hy, Instr.storeAt, Instr.sureAddr, Sem.run_bind, Sem.run_pure, Result.andThen_ok, hrun]
  exact hk w' h1 h2 h3
theorem RG.more {w : World} {B B' : Nat} {A : Option Addr} {l : List Int} (h : RG w B A l) (hB : B ≤ B') : RG w B' A l := fun h0 => by
  obtain ⟨b, off, e, hlt, hc⟩ := h h0
  exact ⟨b, off, e, by omega, hc⟩
end Go.Proofs.Ytbmhdinaofepdaa
