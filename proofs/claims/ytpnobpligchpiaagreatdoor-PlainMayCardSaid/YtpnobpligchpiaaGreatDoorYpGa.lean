/- texts of YpGa -/
import Derived.Deep.MidRow
import Derived.Deep.RegionLaw
import Derived.Deep.WholeRow
import Derived.DeepKeys
import Derived.Laws.CopyOwn
import Derived.Laws.ResultCell
import Derived.Laws.StructEq
import Derived.Test.YtpnobpligchpiaaGreatDoorYpC
import Derived.Test.YtpnobpligchpiaaGreatDoorYpD
import Derived.Test.YtpnobpligchpiaaGreatDoorYpK
namespace Go.Proofs.YtpnobpligchpiaaGreatDoor
set_option maxRecDepth 100000
open Go.RowKit
set_option linter.unusedVariables false
def vi (x : Int) : Value := .int .i32 x
def gC (g : List Int) : Array Value := (g.map vi).toArray
def GA (w : World) (b : Nat) (t : TypeId) (g : List Int) : Prop := w.heap[b]? = some (.cells (gC g) t (0, 0))
theorem gC_size (g : List Int) : (gC g).size = g.length := by unfold gC; simp
theorem gC_get (g : List Int) (k : Nat) (hk : k < g.length) : (gC g)[k]? = some (.int .i32 g[k]) := by
 unfold gC; simp [hk, vi]
theorem gC_one (g : List Int) : (gC g).all (·.oneCell') = true := by
 unfold gC
 exact all_oneCell_toArray (fun v hv => by obtain ⟨x, _, rfl⟩ := List.mem_map.1 hv; rfl)
theorem GA.cell {w : World} {b : Nat} {t : TypeId} {g : List Int} (h : GA w b t g) (k : Nat) (hk : k < g.length) : w.cell? ⟨b, k, none⟩ = some (.int .i32 g[k]) := by
 rw [cell_of_row w b k _ _ _ h, gC_get g k hk]
theorem GA.lt {w : World} {b : Nat} {t : TypeId} {g : List Int} (h : GA w b t g) : b < w.heap.size := (Array.getElem?_eq_some_iff.1 h).1
theorem GA.frozen {w : World} {b : Nat} {t : TypeId} {g : List Int} (h : GA w b t g) (k : Nat) : w.frozen? ⟨b, k, none⟩ = false := by
 unfold GA at h
 simp [World.frozen?, h]
theorem GA.new (w : World) (t : TypeId) (g : List Int) : GA (w.alloc (.cells (gC g) t)) w.heap.size t g := heap_alloc_last w _
theorem GA.alloc {w : World} {b : Nat} {t : TypeId} {g : List Int} (h : GA w b t g) (o : Obj) : GA (w.alloc o) b t g := (Below.heap_alloc w o b h.lt).trans h
theorem GA.below {w w' : World} {b B : Nat} {t : TypeId} {g : List Int} (h : GA w b t g) (hb : Below B w w') (hB : b < B) : GA w' b t g := (hb.block b hB).trans h
theorem GA.grown {w w' : World} {b : Nat} {row : Option Nat} {t : TypeId} {g : List Int} (h : GA w b t g) (hg : w.grownBy w' row) (hr : some b ≠ row) : GA w' b t g := (hg.block b h.lt hr).trans h
theorem GA.other {w : World} {b : Nat} {t : TypeId} {g : List Int} (h : GA w b t g) (a : Addr) (v : Value) (hne : b ≠ a.block) : GA (w.setCell a v) b t g := (Below.heap_setCell w a v b hne).trans h
theorem GA.drew {w : World} {b : Nat} {t : TypeId} {g : List Int} (h : GA w b t g) : GA w.drew b t g := h
theorem GA.set {w : World} {b : Nat} {t : TypeId} {g : List Int} (h : GA w b t g) (k : Nat) (x : Int) : GA (w.setCell ⟨b, k, none⟩ (.int .i32 x)) b t (g.set k x) := by
 unfold GA at *
 have hs : gC (g.set k x) = (gC g).setIfInBounds k (.int .i32 x) := by unfold gC; rw [List.map_set]; simp [vi]
 rw [hs]
 simp [World.setCell, Array.getElem?_modify, h]
theorem GA.range {w : World} {b : Nat} {t : TypeId} {g : List Int} (h : GA w b t g) : w.rangeAt b 0 (gC g).toList := fun j v hv => by
 rw [Nat.zero_add, cell_of_row w b j _ _ _ h]; simpa using hv
theorem wpList_load_g {P : Program} {ops : Array Oper} {rest : List Oper} {op : Oper} {a : Act} {w : World} {Q : Exit → Act → World → Prop} (hgd : op.guard = none) (ty : TypeId) (x : Operand) (ho : op.op = .load ty x)
 (b : Nat) (hx : a.eval x = .pointer (some ⟨b, 0, none⟩)) (t : TypeId) (g : List Int) (h : GA w b t g) {n : Nat} {e : TypeId} (hu : P.underlying ty = some (.array n e)) (hi : (P.info? ty).map (·.size) = some g.length)
 (hk : wpList P ops Q rest (a.put op.dst (.agg (gC g))) w) : wpList P ops Q (op :: rest) a w := by
 refine wpList_load_mid hgd ty x ho b 0 hx (gC g).toList _ h.range hu rfl (by rw [hi]; simp [gC_size]) ?_
 simpa using hk
theorem storeVar_g {P : Program} (w : World) (b : Nat) (ty t : TypeId) (g g' : List Int) (h : GA w b t g) (hl : g'.length = g.length) (hi : (P.info? ty).map (·.size) = some g'.length) :
 ∃ w', (storeVar ty ⟨b, 0, none⟩ (.agg (gC g'))).run P w = .ok () w' ∧ GA w' b t g' ∧ w'.heap.size = w.heap.size ∧ w.grownBy w' (some b) := by
 refine ⟨_, run_storeVar_row w b t ty (gC g) (gC g') h (by rw [hi, gC_size]) (by rw [gC_size, gC_size, hl]) (gC_one g'), setRow_heap w b _ _ t _ h, by simp [World.setRow], ⟨rfl, rfl, rfl, by simp [World.setRow], fun k hk hne => setRow_other w b k _ (fun e => hne (by rw [e]))⟩⟩
theorem wpList_store_g {P : Program} {ops : Array Oper} {rest : List Oper} {op : Oper} {a : Act} {w : World} {Q : Exit → Act → World → Prop} (hgd : op.guard = none) (ty : TypeId) (x y : Operand) (ho : op.op = .store ty x y)
 (b : Nat) (hx : a.eval x = .pointer (some ⟨b, 0, none⟩)) (t : TypeId) (g g' : List Int) (h : GA w b t g) (hy : a.eval y = .agg (gC g')) (hl : g'.length = g.length) (hi : (P.info? ty).map (·.size) = some g'.length)
 (hk : ∀ w', GA w' b t g' → w'.heap.size = w.heap.size → w.grownBy w' (some b) → wpList P ops Q rest (a.put op.dst undef) w') : wpList P ops Q (op :: rest) a w := by
 refine wpList_plain hgd fun K hK => ?_
 obtain ⟨w', hrun, h1, h2, h3⟩ := storeVar_g (P := P) w b ty t g g' h hl hi
 unfold Oper.wp execOp
 simp only [ho, hx, hy, Instr.storeAt, Instr.sureAddr, Sem.run_bind, Sem.run_pure, Result.andThen_ok, hrun]
 exact hK _ _ (hk w' h1 h2 h3)
theorem index_g {P : Program} (t : TypeId) (g : List Int) {n : Nat} {e : TypeId} {d : TypeDesc} (hu : P.underlying t = some (.array n e)) (hue : P.underlying e = some d) (hd : d.isRow = false) (hs : (P.info? e).map (·.size) = some 1) (k : Nat) (hk : k < g.length) (hn : g.length = n) (w : World) :
 (Instr.index t (.agg (gC g)) (.int .i64 (k : Int))).run P w = .ok (.int .i32 g[k]) w := by
 have hagg : (isAgg e).run P w = .ok false w := by
  unfold isAgg
  rw [Sem.run_bind, run_underlying hue w]
  cases d <;> simp_all
 have hsz : (sizeOf e).run P w = .ok 1 w := by
  cases hq : P.info? e with
  | none => simp [hq] at hs
  | some i =>
    have : i.size = 1 := by simpa [hq] using hs
    simp [sizeOf, typeInfo, hq, this]
 have hin : (0 : Int) ≤ (k : Int) ∧ (k : Int) < (n : Int) := by omega
 have hw : IntKind.i64.wrap (k : Int) = k ∨ True := .inr trivial
 simp [Instr.index, asIntOf, run_underlying hu, hn ▸ hk, hsz, part, hagg, gC_get g k hk]
theorem results_g {P : Program} {fn : Func} {p : Tmp} {ty : TypeId} (h : fn.results = #[.cell p ty]) {tmps : Array Value} {w : World} {b : Nat} {t : TypeId} {g : List Int} (hg : GA w b t g) (hp : tmps.getD p undef = .pointer (some ⟨b, 0, none⟩)) {n : Nat} {e : TypeId}
 (hu : P.underlying ty = some (.array n e)) (hi : (P.info? ty).map (·.size) = some g.length) : (results fn tmps).run P w = .ok (.agg (gC g)) w :=
 results_cell_row h tmps w b t (gC g) (0, 0) _ hp hg hu rfl (by rw [hi, gC_size])
def zG (n : Nat) : List Int := List.replicate n 0
theorem zG_length (n : Nat) : (zG n).length = n := by unfold zG; simp
theorem infoState : (Tryz.prog.info? 152).map (·.size) = some 32 := by kernel_rfl
theorem zeroState (w : World) : (zeroValue 152).run Tryz.prog w = .ok (.agg (gC (zG 32))) w :=
 (zero_of_info (P := Tryz.prog) (t := 152) (v := .agg (gC (zG 32))) (n := 32) (by kernel_rfl)).1 w
theorem infoCell : (Tryz.prog.info? 21).map (·.size) = some 1 := by kernel_rfl
def gEnc (g : List Int) : List UInt8 := g.flatMap s4
theorem s4_length (a : Int) : (s4 a).length = 4 := rfl
theorem encG_length (g : List Int) : (gEnc g).length = 4 * g.length := by
 unfold gEnc
 induction g with
 | nil => rfl
 | cons x g ih => simp only [List.flatMap_cons, List.length_append, s4_length, ih, List.length_cons]; omega
theorem encG_step (g : List Int) (k : Nat) (h : k < g.length) : gEnc (g.take (k + 1)) = gEnc (g.take k) ++ s4 g[k] := by
 unfold gEnc
 rw [List.take_succ_eq_append_getElem h, List.flatMap_append]; simp
def Bd (g : List Int) : Prop := ∀ x ∈ g, -2147483648 ≤ x ∧ x ≤ 2147483647
set_option maxHeartbeats 1000000 in
theorem gencode_any (g : List Int) (w : World) (hg : g.length = 32) (hbd : Bd g) :
 Calls Tryz.prog 108 #[.agg (gC g)] w fun e w' => ∃ v, e = .returned v ∧ OB w' w.heap.size v (gEnc g) ∧ Below w.heap.size w w' := by
 obtain ⟨i0, hi0, hz0, hz1, hz2⟩ := info_parts byte_info
 have HBD := qh hbd; clear hbd
 have G0 : Hid (GA (w.alloc (.cells (gC g) 152)) w.heap.size 152 g) := qh (GA.new w 152 g)
 have B0 := qh ((bR w.heap.size w).alloc (nl _) (.cells (gC g) 152))
 go_enter Tryz.func108, Tryz.ntmps108
 go_wp2_with (first
  | (refine wpList_make_own _ rfl _ _ 33 rfl w.heap.size 5 i0 (.int .u8 0) 1 Tryz.underlying33 hi0 hz0 hz1 .i64 .i64 128 128 rfl rfl rfl (by rw [hz2]; omega) (by unfold maxLen; omega) (by simp) ?_; intro w1 O1 R1; have G1 := qh (G0.out.grown R1 (by simp)); have B1 := qh (B0.out.grown R1 (by simp) (by simp)); replace O1 : Hid (OB w1 w.heap.size _ []) := qh O1)
  | (with_reducible refine wpList_load_g rfl 152 (.tmp 1) rfl _ (by with_unfolding_all rfl) 152 g G1.out Tryz.underlying152 (by rw [hg]; exact infoState) ?_))
 go_loopw [3, 8] (fun v i wr => ∃ k : Nat, i = .int .i64 k ∧ k ≤ 32 ∧ Hid (OB wr w.heap.size v (gEnc (g.take k))) ∧ Hid (Below w.heap.size w wr)) (fun _ i _ => 32 - (intOf i).toNat)
 case atStart => exact ⟨0, rfl, by omega, by simpa [gEnc] using O1, B1⟩
 case round =>
  obtain ⟨k, rfl, hk, HO, HB⟩ := hrel
  by_cases h1 : k < 32
  · have h1c : (k : Int) < 32 := by omega
    have hix := index_g (P := Tryz.prog) 152 g Tryz.underlying152 Tryz.underlying21 rfl infoCell k (by omega) hg
    obtain ⟨x, hx⟩ : ∃ x, g[k] = x := ⟨_, rfl⟩
    rw [hx] at hix
    obtain ⟨x1, x2⟩ := HBD.out x (by rw [← hx]; exact List.getElem_mem _)
    have HS := qh (show gEnc (g.take (k + 1)) = gEnc (g.take k) ++ s4 x by rw [encG_step g k (by omega), hx])
    have HL := qh (show (gEnc (g.take k)).length = 4 * k by rw [encG_length, List.length_take]; omega)
    have HR := qh (s4_reads wr x)
    have HO2 := qh (HO.out.below ((bR wr.heap.size wr).alloc (nl _) (rowB (s4 x))) (nl _))
    have HB2 := qh (HB.out.alloc HB.out.size (rowB (s4 x)))
    have HP := qh (wput_any x wr x1 x2)
    clear hx
    go_wp2_with (first
     | (go_at_call 135; refine HP.out.mono ?_; rintro e w' ⟨rfl, rfl⟩)
     | (at_builtin; refine wpList_append_bytes rfl (.tmp 11) (.tmp 13) rfl w.heap.size _ _ (s4 x) rfl HO2.out _ _ 4 rfl HR.out (by rw [HL.out, s4_length]; omega) HB2.out.size ?_; intro v3 w3 O3 R3 E3; have HO3 := qh O3; have HB3 := qh (HB2.out.grown R3 HB2.out.size HO2.out.ge)))
    go_round
    case rel => exact ⟨k + 1, by go_num, by omega, by unfold Hid; rw [HS.out]; exact HO3.out, HB3⟩
    case measure => simp [intOf]; omega
  · obtain rfl : k = 32 := by omega
    have h1c : ¬ ((32 : Nat) : Int) < 32 := by omega
    have HF : Hid (OB wr w.heap.size u3 (gEnc g)) := by have := HO.out; rw [List.take_of_length_le (by omega)] at this; exact this
    clear HO
    go_wp2
    go_ret
    exact ⟨_, rfl, HF.out, HB.out⟩
theorem wp_store_g {P : Program} {op : Oper} {a : Act} {w : World} {K : Act → World → Prop} {Q : Exit → Act → World → Prop} (ty : TypeId) (x y : Operand) (ho : op.op = .store ty x y)
 (b : Nat) (hx : a.eval x = .pointer (some ⟨b, 0, none⟩)) (t : TypeId) (g g' : List Int) (h : GA w b t g) (hy : a.eval y = .agg (gC g')) (hl : g'.length = g.length) (hi : (P.info? ty).map (·.size) = some g'.length)
 (hk : ∀ w', GA w' b t g' → w'.heap.size = w.heap.size → w.grownBy w' (some b) → K (a.put op.dst undef) w') : op.wp P a w K Q := by
 obtain ⟨w', hrun, h1, h2, h3⟩ := storeVar_g (P := P) w b ty t g g' h hl hi
 unfold Oper.wp execOp
 simp only [ho, hx, hy, Instr.storeAt, Instr.sureAddr, Sem.run_bind, Sem.run_pure, Result.andThen_ok, hrun]
 exact hk w' h1 h2 h3
theorem OB.row {w : World} {base : Nat} {v : Value} {l : List UInt8} {n : Nat} (h : OB w base v l) (hn : l.length = n) (h0 : 0 < n) : ∃ b cap, v = .slice (some ⟨b, 0, none⟩) n cap ∧ base ≤ b ∧ b < w.heap.size ∧ n ≤ cap ∧ cap ≤ maxLen ∧ RB w w.heap.size (some ⟨b, 0, none⟩) l ∧ ∀ j (hj : j < l.length), w.cell? ⟨b, j, none⟩ = some (vb l[j]) := by
 subst hn
 obtain ⟨b, cap, rfl, h1, h2, h3⟩ := h.some_ h0
 have hr := h.cells
 obtain ⟨b', off, e, hlt, hc⟩ := hr h0
 have e := Option.some.inj e
 injection e with e1 e2 e3
 subst e1 e2
 exact ⟨b, cap, rfl, h1, hlt, h2, h3, hr, fun j hj => by have := hc j hj; rwa [Nat.zero_add] at this⟩
set_option maxHeartbeats 1000000 in
theorem gsum_any (g : List Int) (w : World) (hg : g.length = 32) (hbd : Bd g) (hT : TabW w) :
 Calls Tryz.prog 129 #[.agg (gC g)] w fun e w' => e = .returned (.int .u32 (tn (sumL (gEnc g)))) ∧ Below w.heap.size w w' := by
 obtain ⟨L, hL⟩ : ∃ L, L = gEnc g := ⟨_, rfl⟩
 have hL1 : L.length = 128 := by rw [hL, encG_length, hg]
 have KE := qh (fun w => gencode_any g w hg hbd)
 have G0 : Hid (GA (w.alloc (.cells (gC g) 152)) w.heap.size 152 g) := qh (GA.new w _ g)
 have B0 := qh ((bR w.heap.size w).alloc (nl _) (.cells (gC g) 152))
 rw [← hL]
 have HL := qh hL; have HL1 := qh hL1; have HT := qh hT
 clear hL hL1 hbd hT
 go_enter Tryz.func129, Tryz.ntmps129
 go_wp2_with (first
  | (with_reducible refine wpList_load_g rfl 152 (.tmp 1) rfl _ (by with_unfolding_all rfl) 152 g G0.out Tryz.underlying152 (by rw [hg]; exact infoState) ?_)
  | (go_at_call 108; refine (KE.out _).mono ?_; rintro e w2 ⟨v, rfl, O2, R2⟩
     rw [← HL.out] at O2
     obtain ⟨b, cap, rfl, hb1, hb2, hb3, hb4, hb5, hb6⟩ := OB.row O2 HL1.out (by omega)
     have B3 := qh (B0.out.trans (R2.mono (by simp)))
     have HS := qh (sum_any (some ⟨b, 0, none⟩) L cap _ w2 (HT.out.below B3.out HT.out.lt) hb5 (by have := HL1.out; unfold maxLen; omega))
     rw [HL1.out] at HS
     clear O2 hb6)
  | (go_at_call 150; refine HS.out.mono ?_; rintro e w3 ⟨rfl, rfl⟩))
 go_ret
 exact ⟨rfl, B3.out⟩
end Go.Proofs.YtpnobpligchpiaaGreatDoor
