/- texts of YpI -/
import Derived.Deep.Heap
import Derived.Deep.OwnRows
import Derived.Deep.RegionLaw
import Derived.Deep.RegionWith
import Derived.Great.BuildSlice
import Derived.Great.Ranges
import Derived.Laws.BytesString
import Derived.Laws.CopyRow
import Derived.Laws.IdiomCopy
import Derived.Lib.SliceRun
import Derived.Test.YtpnobpligchpiaaGreatDoorYpK
import Derived.WalkSmall
namespace Go.Proofs.YtpnobpligchpiaaGreatDoor
set_option maxRecDepth 100000
open Go.RowKit
set_option linter.unusedVariables false
set_option linter.unusedSimpArgs false
def lmF (n : Int) (l : List UInt8) (i : Nat) : Value := if i = 0 then .int .i64 n else vb ((l[i - 1]?).getD 0)
def LM (w : World) (b : Nat) (n : Int) (l : List UInt8) : Prop := w.rowIs b 209 1001 (lmF n l)
theorem LM.lt {w : World} {b : Nat} {n : Int} {l : List UInt8} (h : LM w b n l) : b < w.heap.size := World.rowIs.lt h
theorem LM.known {w : World} {b : Nat} {n : Int} {l : List UInt8} (h : LM w b n l) : w.cell? ⟨b, 0, none⟩ = some (.int .i64 n) := World.rowIs.cell h (i := 0) (by omega)
theorem LM.byte {w : World} {b : Nat} {n : Int} {l : List UInt8} (h : LM w b n l) (j : Nat) (hj : j < l.length) (h1 : l.length ≤ 1000) : w.cell? ⟨b, 1 + j, none⟩ = some (vb l[j]) := by
 have := World.rowIs.cell h (i := 1 + j) (by omega)
 rw [this]
 unfold lmF
 rw [if_neg (by omega), show 1 + j - 1 = j by omega, List.getElem?_eq_getElem hj]; rfl
theorem LM.frozen {w : World} {b : Nat} {n : Int} {l : List UInt8} (h : LM w b n l) (i : Nat) : w.frozen? ⟨b, i, none⟩ = false := World.rowIs.frozen h i
theorem LM.below {w w' : World} {b B : Nat} {n : Int} {l : List UInt8} (h : LM w b n l) (hb : Below B w w') (hB : b < B) : LM w' b n l := World.rowIs.of_block h (hb.block b hB)
theorem LM.then_ {w w' : World} {b : Nat} {n : Int} {l : List UInt8} (h : LM w b n l) (hb : Below w.heap.size w w') : LM w' b n l := h.below hb h.lt
theorem LM.grown {w w' : World} {b : Nat} {row : Option Nat} {n : Int} {l : List UInt8} (h : LM w b n l) (hg : w.grownBy w' row) (hr : some b ≠ row) : LM w' b n l := World.rowIs.of_block h (hg.block b h.lt hr)
theorem LM.alloc {w : World} {b : Nat} {n : Int} {l : List UInt8} (h : LM w b n l) (o : Obj) : LM (w.alloc o) b n l := World.rowIs.alloc h o
theorem LM.drew {w : World} {b : Nat} {n : Int} {l : List UInt8} (h : LM w b n l) : LM w.drew b n l := h
theorem LM.other {w : World} {b : Nat} {n : Int} {l : List UInt8} (h : LM w b n l) (a : Addr) (v : Value) (hne : b ≠ a.block) : LM (w.setCell a v) b n l := World.rowIs.setOther h hne v
theorem LM.setKnown {w : World} {b : Nat} {n : Int} {l : List UInt8} (h : LM w b n l) (m : Int) : LM (w.setCell ⟨b, 0, none⟩ (.int .i64 m)) b m l := by
 refine (World.rowIs.set h 0 (.int .i64 m)).congr (fun i _ => ?_)
 unfold lmF
 by_cases e : i = 0
 · rw [if_pos e, if_pos e]
 · rw [if_neg e, if_neg e, if_neg e]
theorem LM.reads {w : World} {b : Nat} {n : Int} {l : List UInt8} (h : LM w b n l) (h1 : l.length ≤ 1000) (f : Nat) (m : Nat) (B : Nat) (hB : b < B) : RB w B (some ⟨b, 1 + f, none⟩) ((l.drop f).take m) := fun h0 => by
 refine ⟨b, 1 + f, rfl, hB, fun j hj => ?_⟩
 have hj2 : f + j < l.length := by rw [List.length_take, List.length_drop] at hj; omega
 rw [Nat.add_assoc, h.byte (f + j) hj2 h1, List.getElem_take, List.getElem_drop]
theorem lmA_get (n : Int) (z : Nat) (hz : z ≤ 1000) (i : Nat) (hi : i < (Array.mk (.int .i64 n :: List.replicate 1000 (.int .u8 0)) : Array Value).size) : (Array.mk (.int .i64 n :: List.replicate 1000 (.int .u8 0)) : Array Value)[i]? = some (lmF n (List.replicate z 0) i) := by
 simp only [List.size_toArray, List.length_cons, List.length_replicate] at hi
 unfold lmF
 rw [List.getElem?_toArray]
 by_cases e : i = 0
 · subst e; rfl
 · obtain ⟨k, rfl⟩ : ∃ k, i = k + 1 := ⟨i - 1, by omega⟩
   rw [if_neg e, List.getElem?_cons_succ, List.getElem?_replicate, if_pos (by omega), Nat.add_sub_cancel, List.getElem?_replicate]
   by_cases e2 : k < z
   · rw [if_pos e2]; rfl
   · rw [if_neg e2]; rfl
theorem LM.new (w : World) (n : Int) (z : Nat) (hz : z ≤ 1000) : LM (w.alloc (.cells (Array.mk (.int .i64 n :: List.replicate 1000 (.int .u8 0))) 209)) w.heap.size n (List.replicate z 0) := by
 have h := World.rowIs_alloc w (Array.mk (.int .i64 n :: List.replicate 1000 (.int .u8 0))) 209 (lmF n (List.replicate z 0)) (lmA_get n z hz)
 have e : (Array.mk (.int .i64 n :: List.replicate 1000 (.int .u8 0)) : Array Value).size = 1001 := by simp
 rw [e] at h
 exact h
theorem wpList_build_line {ops : Array Oper} {rest : List Oper} {o : Oper} {a : Act} {w : World} {Q : Exit → Act → World → Prop} (hgd : o.guard = none) (x : Operand) (ho : o.op = .build 209 #[(0, x)])
 (n : Int) (hb : Tryz.prog.built 209 [(0, .int .i64 n)] = some (Array.mk (.int .i64 n :: List.replicate 1000 (.int .u8 0)))) (hx : a.eval x = .int .i64 n) (h : wpList Tryz.prog ops Q rest (a.put o.dst (.agg (Array.mk (.int .i64 n :: List.replicate 1000 (.int .u8 0))))) w) : wpList Tryz.prog ops Q (o :: rest) a w := by
 have he : (#[(0, x)].map fun (p : Nat × Operand) => (p.1, a.eval p.2)).toList = [(0, .int .i64 n)] := by simp [hx]
 refine wpList_build hgd 209 #[(0, x)] ho ?_ ?_
 · show (Tryz.prog.built 209 (#[(0, x)].map fun (p : Nat × Operand) => (p.1, a.eval p.2)).toList).isSome = true
   rw [he]
   exact (congrArg Option.isSome hb).trans rfl
 · show wpList Tryz.prog ops Q rest (a.put o.dst (.agg ((Tryz.prog.built 209 (#[(0, x)].map fun (p : Nat × Operand) => (p.1, a.eval p.2)).toList).getD #[]))) w
   rw [he, hb]; exact h
theorem wpList_box_line {ops : Array Oper} {rest : List Oper} {o : Oper} {a : Act} {w : World} {Q : Exit → Act → World → Prop} (hgd : o.guard = none) (x : Operand) (ho : o.op = .box 209 x)
 (c : Array Value) (hx : a.eval x = .agg c) (h : wpList Tryz.prog ops Q rest (a.put o.dst (pB w.heap.size)) (w.alloc (.cells c 209))) : wpList Tryz.prog ops Q (o :: rest) a w :=
 Go.Great.wpList_boxTo hgd 209 x ho _ rfl _ rfl c (by rw [hx]; rfl) h
theorem len_any (w : World) (b : Nat) (n : Int) (l : List UInt8) (h : LM w b n l) : Calls Tryz.prog 115 #[pB b] w fun e w' => e = .returned (.int .i64 n) ∧ w = w' := by
 have c0 := h.known
 go_enter Tryz.func115, Tryz.ntmps115
 go_wp2
 go_ret
 exact ⟨rfl, rfl⟩
theorem len_nil (w : World) : Calls Tryz.prog 115 #[.pointer none] w fun e w' => e = .returned (.int .i64 0) ∧ w = w' := by
 go_enter Tryz.func115, Tryz.ntmps115
 go_wp2
 go_ret
 exact ⟨rfl, rfl⟩
theorem rowIs_setCells (b : Nat) (t : TypeId) (n : Nat) : ∀ (vs : List Value) (o : Nat) (w : World) (f : Nat → Value), w.rowIs b t n f → (w.setCells b o vs).rowIs b t n (fun j => if j < o then f j else (vs[j - o]?).getD (f j))
 | [], o, w, f, h => h.congr (fun i _ => by by_cases e : i < o <;> simp [e])
 | v :: r, o, w, f, h => by
   refine (rowIs_setCells b t n r (o + 1) (w.setCell ⟨b, o, none⟩ v) _ (h.set o v)).congr (fun i _ => ?_)
   by_cases e : i < o
   · rw [if_pos e, if_pos (by omega), if_neg (by omega)]
   · rw [if_neg e]
     by_cases e2 : i = o
     · subst e2; simp
     · obtain ⟨q, rfl⟩ : ∃ q, i = o + 1 + q := ⟨i - o - 1, by omega⟩
       rw [if_neg (by omega), if_neg e2, show o + 1 + q - (o + 1) = q by omega, show o + 1 + q - o = q + 1 by omega, List.getElem?_cons_succ]
theorem grown_setCells (b : Nat) : ∀ (vs : List Value) (o : Nat) (w : World), w.grownBy (w.setCells b o vs) (some b)
 | [], _, w => ⟨rfl, rfl, rfl, nl _, fun _ _ _ => rfl⟩
 | v :: r, o, w => by
   have h := grown_setCells b r (o + 1) (w.setCell ⟨b, o, none⟩ v)
   exact ⟨h.os, h.tape, h.output, Nat.le_trans (Nat.le_of_eq (by simp [World.setCell])) h.size, fun k hk hne => (h.block k (by simpa [World.setCell] using hk) hne).trans (Deep.blk_setCell_other _ _ _ _ (fun e => hne (by rw [e])))⟩
theorem lmF_put (n : Int) (l y : List UInt8) (i : Nat) : (if i < 1 + l.length then lmF n l i else ((y.map vb)[i - (1 + l.length)]?).getD (lmF n l i)) = lmF n (l ++ y) i := by
 unfold lmF
 by_cases e0 : i = 0
 · subst e0; rw [if_pos (by omega), if_pos rfl, if_pos rfl]
 · obtain ⟨j, rfl⟩ : ∃ j, i = 1 + j := ⟨i - 1, by omega⟩
   rw [if_neg e0, if_neg e0, show 1 + j - 1 = j by omega, show 1 + j - (1 + l.length) = j - l.length by omega]
   by_cases e : j < l.length
   · rw [if_pos (by omega), List.getElem?_append_left e]
   · rw [if_neg (by omega), List.getElem?_append_right (by omega), List.getElem?_map, List.getElem?_eq_none (show l.length ≤ j by omega)]
     cases y[j - l.length]? <;> rfl
theorem run_copy_line (w : World) (b B : Nat) (n0 : Int) (l x : List UInt8) (h : LM w b n0 l) (hl : l.length ≤ 1000) (d A : Option Addr) (dc cap : Nat) (hd : l.length < 1000 → d = some ⟨b, 1 + l.length, none⟩) (hx : RB w B A x) (ty : TypeId)
 (k : Nat) (hk : k = 1000 - l.length) (n : Nat) (hn : n = min k x.length) :
 ∃ w', (Builtin.copy_ #[33, 33] ty #[.slice d k dc, .slice A x.length cap]).run Tryz.prog w = .ok (goInt n) w' ∧ LM w' b n0 (l ++ x.take n) ∧ w'.heap.size = w.heap.size ∧ w.grownBy w' (some b) := by
 have hs : (Tryz.prog.info? 5).map (·.size) = some 1 := by kernel_rfl
 by_cases h0 : n = 0
 · subst h0
   refine ⟨w, ?_, by simpa using h, rfl, ⟨rfl, rfl, rfl, nl _, fun _ _ _ => rfl⟩⟩
   exact run_copy_none w _ _ _ 5 d A k dc x.length cap Tryz.underlying33 hs (by show min x.length k = 0; omega)
 · obtain ⟨b2, off, rfl, hB, hc⟩ := hx (by omega)
   have hln : (x.take n).length = n := by rw [List.length_take]; omega
   have hr := run_copy_cells (P := Tryz.prog) w 33 33 ty 5 b (1 + l.length) k dc ⟨b2, off, none⟩ x.length cap ((x.take n).map vb) Tryz.underlying33 hs
    (by rw [List.length_map, hln]; show n = min x.length k; omega)
    (fun j v hv => by
      rw [List.getElem?_map] at hv
      by_cases hj : j < n
      · rw [List.getElem?_eq_getElem (by omega)] at hv
        rw [Addr.add_lit, hc j (by omega), ← hv]
        simp
      · rw [List.getElem?_eq_none (by omega)] at hv; cases hv)
    (fun j hj => by
      rw [List.length_map, hln] at hj
      rw [World.rowIs.cell h (i := 1 + l.length + j) (by omega)]; rfl)
    (fun j _ => h.frozen _)
    (fun v hv => by obtain ⟨q, _, rfl⟩ := List.mem_map.1 hv; rfl)
   rw [List.length_map, hln] at hr
   rw [hd (by omega)]
   refine ⟨_, hr, ?_, ?_, grown_setCells b _ _ w⟩
   · exact (rowIs_setCells b _ _ _ _ w _ h).congr (fun i _ => lmF_put n0 l (x.take n) i)
   · have : ∀ (vs : List Value) (o : Nat) (w : World), (w.setCells b o vs).heap.size = w.heap.size := by
      intro vs
      induction vs with
      | nil => intro o w; rfl
      | cons v r ih => intro o w; rw [World.setCells, ih]; simp [World.setCell]
     exact this _ _ _
theorem step_copy_line {ops : Array Oper} {op : Oper} {a : Act} {w : World} {K : Act → World → Prop} {Q : Exit → Act → World → Prop} {E : Prop} (hgd : op.guard = none) (ds s : Operand)
 (ho : op.op = .call { callee := .builtin .copy, args := #[ds, s], argTypes := #[33, 33] })
 (b B : Nat) (n0 : Int) (l x : List UInt8) (h : LM w b n0 l) (hl : l.length ≤ 1000) (d A : Option Addr) (dc cap m : Nat) (hd : l.length < 1000 → d = some ⟨b, 1 + l.length, none⟩) (hx : RB w B A x) (hm : x.length = m)
 (k : Nat) (hk : k = 1000 - l.length) (n : Nat) (hn : n = min k x.length) (hdv : a.eval ds = .slice d k dc) (hsv : a.eval s = .slice A m cap)
 (hK : ∀ w', LM w' b n0 (l ++ x.take n) → w'.heap.size = w.heap.size → w.grownBy w' (some b) → K (a.put op.dst (.int .i64 n)) w') :
 if Region.wanted op (yielded ops a.tmps) = true then Oper.wp Tryz.prog op a w K Q else E := by
 have hw : Region.wanted op (yielded ops a.tmps) = true := by simp [Region.wanted, hgd]
 rw [if_pos hw]
 subst hm
 obtain ⟨w', hrun, h1, h2, h3⟩ := run_copy_line w b B n0 l x h hl d A dc cap hd hx op.type k hk n hn
 unfold Oper.wp
 simp [execOp, ho, resolve, invoke, builtin, hdv, hsv, hrun, Result.andThen]
 exact hK w' h1 h2 h3
theorem info1 : (Tryz.prog.info? 5).map (·.size) = some 1 := by kernel_rfl
theorem arrLen : Tryz.prog.arrayLen 207 = 1000 := by kernel_rfl
theorem elem41 : Tryz.prog.elem 207 = 5 := by kernel_rfl
theorem under41 : Tryz.prog.underlying 207 = some (.array (Tryz.prog.arrayLen 207) (Tryz.prog.elem 207)) := by kernel_rfl
theorem size_u8 (W : World) : (sizeOf 5).run Tryz.prog W = .ok 1 W := by
 obtain ⟨i, hi, h1⟩ := Option.map_eq_some_iff.1 info1
 simp [sizeOf, typeInfo, hi, h1]
theorem slice_from (b L : Nat) (hL : L ≤ 1000) (W : World) : (Instr.sliceAt 207 (.pointer (some ⟨b, 1, none⟩)) (some (.int .i64 (L : Int))) none none).run Tryz.prog W = .ok (.slice (some ⟨b, if 1000 = L then 1 else 1 + L, none⟩) (1000 - L) (1000 - L)) W := by
 rw [run_sliceAt_array_l W 207 ⟨b, 1, none⟩ under41 .i64 L (by omega) (by rw [arrLen]; omega), arrLen, elem41, size_u8]
 simp only [Result.andThen_ok, slicedAt, Int.toNat_natCast]
 by_cases e : 1000 = L
 · rw [if_pos e, if_pos e]
 · rw [if_neg e, if_neg e, Addr.add_lit, Nat.mul_one]
theorem slice_both (b L H : Nat) (h : L ≤ H) (hL : H ≤ 1000) (W : World) : (Instr.sliceAt 207 (.pointer (some ⟨b, 1, none⟩)) (some (.int .i64 (L : Int))) (some (.int .i64 (H : Int))) none).run Tryz.prog W = .ok (.slice (some ⟨b, if 1000 = L then 1 else 1 + L, none⟩) (H - L) (1000 - L)) W := by
 rw [run_sliceAt_array_lh W 207 ⟨b, 1, none⟩ under41 .i64 .i64 L H (by omega) (by omega) (by rw [arrLen]; omega), arrLen, elem41, size_u8]
 simp only [Result.andThen_ok, slicedAt, Int.toNat_natCast]
 by_cases e : 1000 = L
 · rw [if_pos e, if_pos e]
 · rw [if_neg e, if_neg e, Addr.add_lit, Nat.mul_one]
theorem grown_store {w w' : World} {b : Nat} (h : w.grownBy w' (some b)) (i : Nat) (v : Value) : w.grownBy (w'.setCell ⟨b, i, none⟩ v) (some b) :=
 ⟨h.os, h.tape, h.output, by simpa [World.setCell] using h.size, fun k hk hne => (Deep.blk_setCell_other _ _ _ _ (fun e => hne (by rw [e]))).trans (h.block k hk hne)⟩
theorem put_more (w : World) (b : Nat) (n : Int) (l : List UInt8) (h : LM w b n l) (f : Int) (v : Value) (hf : n < f) : Calls Tryz.prog 118 #[pB b, .int .i64 f, v] w fun e w' => e = .returned (.tuple #[.int .i64 0, .int .i64 2]) ∧ w = w' := by
 have c0 := h.known
 clear h
 go_enter Tryz.func118, Tryz.ntmps118
 go_wp2
 go_ret2
 exact ⟨rfl, rfl⟩
set_option maxHeartbeats 1000000 in
theorem put_in (w : World) (b : Nat) (l x : List UInt8) (A : Option Addr) (cap B f p L X : Nat) (hL : l.length = L) (hX : x.length = X) (h : LM w b L l) (hl : L ≤ 1000) (hx : RB w B A x) (hc : X ≤ cap) (hm : cap ≤ maxLen) (hf : f ≤ L) (hp : min (L - f) X = p) (m : Nat) (hmm : X - p = m) (n : Nat) (hn : min (1000 - L) m = n) :
 Calls Tryz.prog 118 #[pB b, .int .i64 f, .slice A X cap] w fun e w' => e = .returned (.tuple #[.int .i64 n, .int .i64 (if n < m then 4 else 0)]) ∧
  LM w' b (L + n : Nat) (l ++ (x.drop p).take n) ∧ w.grownBy w' (some b) := by
 have c0 := h.known
 unfold maxLen at hm
 have HL := qh hL; have HX := qh hX; have H := qh h; have HR := qh hx
 have hp1 : min ((L : Int) - (f : Int)) (X : Int) = (p : Int) := by omega
 have hpX : (p : Int) ≤ (X : Int) := by omega
 have hN := qh hn; have hM := qh hmm; have hP := qh hp
 clear h hx hL hX hn hmm hp
 have c1 : w.drew.cell? ⟨b, 0, none⟩ = some (.int .i64 (L : Int)) := c0
 have hfl : Hid ((x.drop p).length = m) := by unfold Hid; rw [List.length_drop, HX.out]; exact hM.out
 obtain ⟨D, hD⟩ : ∃ D, D = (if 1000 = L then 1 else 1 + L) := ⟨_, rfl⟩
 have hsl := slice_from b L hl w.drew
 rw [← hD] at hsl
 have HD := qh hD; clear hD
 by_cases hcp : cap = p
 · subst hcp
   go_enter Tryz.func118, Tryz.ntmps118
   go_wp2_with fail
   go_region_law (refine step_copy_line (by rfl) (.tmp 41) (.tmp 42) (by rfl) b B L l (x.drop cap) (by exact H.out) (by have := HL.out; omega) (some ⟨b, D, none⟩) A (1000 - L) 0 0 (by intro h; rw [HD.out, HL.out]; have := HL.out; rw [if_neg (by omega)]) (by have := HX.out; have e : x.drop cap = [] := List.drop_eq_nil_of_le (by omega); rw [e]; exact RB.nil _ _ _) (by have := hfl.out; have := hM.out; omega) (1000 - L) (by have := HL.out; omega) n (by have := hfl.out; have := hN.out; have := hM.out; omega) (by rfl) (by rfl) ?_; intro w3 H3 S3 G3)
   all_goals
    have c3 := H3.known
    have f3 := H3.frozen 0
    have hLn : L + n ≤ 1000 := by have := hN.out; omega
    have hn0 : n = 0 := by have := hN.out; have := hM.out; have := hP.out; omega
    have hm0 : m = 0 := by have := hM.out; have := hP.out; omega
    subst hn0 hm0
    have HH := qh H3; have HG : Hid (w.grownBy w3 (some b)) := qh ⟨G3.os, G3.tape, G3.output, G3.size, G3.block⟩; clear H3 G3 c0 c1 hsl S3
    go_wp2_with fail
    go_ret2
    exact ⟨rfl, by simpa using HH.out.setKnown (L : Int), grown_store HG.out _ _⟩
 · go_enter Tryz.func118, Tryz.ntmps118
   go_wp2_with fail
   go_region_law (refine step_copy_line (by rfl) (.tmp 41) (.tmp 42) (by rfl) b B L l (x.drop p) (by exact H.out) (by have := HL.out; omega) (some ⟨b, D, none⟩) (A.map (·.add p)) (1000 - L) (cap - p) (X - p) (by intro h; rw [HD.out, HL.out]; have := HL.out; rw [if_neg (by omega)]) (by have := HR.out.cut p cap (by have := HX.out; have := hP.out; omega) (by have := HX.out; omega); rw [if_neg hcp] at this; exact this) (by rw [hM.out]; exact hfl.out) (1000 - L) (by have := HL.out; omega) n (by have := hfl.out; have := hN.out; have := hM.out; omega) (by rfl) (by rfl) ?_; intro w3 H3 S3 G3)
   all_goals
    have c3 := H3.known
    have f3 := H3.frozen 0
    have hLn : L + n ≤ 1000 := by have := hN.out; omega
    have hmo : X - p = m := hM.out
    have HH := qh H3; have HG : Hid (w.grownBy w3 (some b)) := qh ⟨G3.os, G3.tape, G3.output, G3.size, G3.block⟩; clear H3 G3 c0 c1 hsl S3
    by_cases hlt : n < m
    · go_wp2_with fail
      go_ret2
      exact ⟨by first | rfl | (rw [if_pos hlt]; rfl), HH.out.setKnown _, grown_store HG.out _ _⟩
    · have hd : decide ((n : Int) < (m : Int)) = false := by simp; omega
      go_wp2_with fail
      go_ret2
      exact ⟨by first | rfl | (rw [if_neg hlt]; rfl), HH.out.setKnown _, grown_store HG.out _ _⟩
theorem clone_b (w : World) (A : Addr) (n cap B : Nat) (x : List UInt8) (hx : RB w B (some A) x) (hn : x.length = n) (hB : B ≤ w.heap.size) (hl : n ≤ 1000) :
 Calls Tryz.prog 97 #[.slice (some A) n cap] w fun e w' => ∃ v, e = .returned v ∧ OB w' w.heap.size v x ∧ Below w.heap.size w w' := by
 subst hn
 have hn : ∀ (a : Addr) (n c : Nat) (W : World), (binOp .eql 33 (.slice (some a) n c) (.slice none 0 0)).run Tryz.prog W = .ok (.bool false) W := fun a n c W => Lib.run_eql_slice_nil W _ _ _ _ _ _ _ Tryz.underlying33
 have HW := qh (OB.empty w)
 have HR := qh (hx.below (((bR w.heap.size w).alloc (nl _) (.cells #[] 5)).mono hB))
 clear hx
 go_enter Tryz.func97, Tryz.ntmps97
 go_wp2_with (at_builtin; refine wpList_append_bytes rfl _ _ rfl w.heap.size _ [] x rfl HW.out B _ cap rfl HR.out (by simp; omega) (by simp) ?_; intro v' w2 hown2 hg2 _)
 go_ret
 have hge : ∀ k, (Value.slice (some ⟨w.heap.size, 0, none⟩) 0 0).ownBlock = some k → w.heap.size ≤ k := HW.out.ge
 exact ⟨_, rfl, by simpa using hown2, ((bR w.heap.size w).alloc (nl _) _).grown hg2 (by simp) hge⟩
theorem from_out (w : World) (b L : Nat) (l : List UInt8) (h : LM w b L l) (f n : Nat) (hf : L ≤ f ∨ n = 0) : Calls Tryz.prog 121 #[pB b, .int .i64 f, .int .i64 n] w fun e w' => e = .returned (.slice none 0 0) ∧ w = w' := by
 have HL := qh (len_any w b L l h)
 clear h
 by_cases h1 : L ≤ f
 · clear hf
   go_enter Tryz.func121, Tryz.ntmps121
   go_wp2_with (go_at_call 115; with_reducible refine (HL.out).mono ?_; rintro e w1 ⟨rfl, rfl⟩)
   go_ret
   exact ⟨rfl, rfl⟩
 · obtain rfl : n = 0 := by omega
   clear hf
   go_enter Tryz.func121, Tryz.ntmps121
   go_wp2_with (go_at_call 115; with_reducible refine (HL.out).mono ?_; rintro e w1 ⟨rfl, rfl⟩)
   go_ret
   exact ⟨rfl, rfl⟩
theorem from_in (w : World) (b L : Nat) (l : List UInt8) (h : LM w b L l) (hL : l.length = L) (hl : L ≤ 1000) (f n : Nat) (hf : f < L) (hn : 0 < n) (hn2 : n ≤ 1000) : Calls Tryz.prog 121 #[pB b, .int .i64 f, .int .i64 n] w fun e w' => ∃ v, e = .returned v ∧ OB w' w.heap.size v ((l.drop f).take n) ∧ Below w.heap.size w w' := by
 have HL := qh (len_any w b L l h)
 have c1 : w.drew.cell? ⟨b, 0, none⟩ = some (.int .i64 (L : Int)) := h.known
 obtain ⟨D, hD⟩ : ∃ D, D = (if 1000 = f then 1 else 1 + f) := ⟨_, rfl⟩
 have hsl := slice_both b f L (by omega) hl w.drew
 rw [← hD] at hsl
 have hD1 : D = 1 + f := by rw [hD, if_neg (by omega)]
 clear hD
 have hmn : min (n : Int) ((L - f : Nat) : Int) = ((min n (L - f) : Nat) : Int) := by omega
 obtain ⟨m, hm⟩ : ∃ m, min n (L - f) = m := ⟨_, rfl⟩
 rw [hm] at hmn
 have hm0 : m ≤ 1000 := by omega
 have HR : Hid (RB w.drew w.heap.size (some ⟨b, D, none⟩) ((l.drop f).take n)) := by rw [hD1]; exact h.reads (by omega) f n w.heap.size h.lt
 have HN : Hid (((l.drop f).take n).length = m) := by unfold Hid; rw [List.length_take, List.length_drop]; omega
 have hbn : m ≤ 1000 - f := by omega
 have hLf : f ≤ L := by omega
 have HC := qh (clone_b w.drew ⟨b, D, none⟩ m (1000 - f) w.heap.size _ HR.out HN.out (nl _) hm0)
 have HM := qh hm; have HH := qh hL
 clear h hm hL hD1
 go_enter Tryz.func121, Tryz.ntmps121
 go_wp2_with (go_at_call 115; with_reducible refine (HL.out).mono ?_; rintro e w1 ⟨rfl, rfl⟩)
 go_region
 all_goals
  go_wp2_with (go_at_call 97; with_reducible refine (HC.out).mono ?_; rintro e w1 ⟨v, rfl, ho, hb⟩)
  go_ret
  exact ⟨v, rfl, ho, hb.os, hb.tape, hb.output, hb.size, hb.block⟩
theorem from_any (w : World) (b L : Nat) (l : List UInt8) (h : LM w b L l) (hL : l.length = L) (hl : L ≤ 1000) (F N : Int) (f n : Nat) (hF : F = (f : Int)) (hN : N = (n : Int)) (hn2 : n ≤ 1000) : Calls Tryz.prog 121 #[pB b, .int .i64 F, .int .i64 N] w fun e w' => ∃ v, e = .returned v ∧ OB w' w.heap.size v ((l.drop f).take n) ∧ Below w.heap.size w w' := by
 subst hF hN
 by_cases h0 : f < L ∧ 0 < n
 · exact from_in w b L l h hL hl f n h0.1 h0.2 hn2
 · refine (from_out w b L l h f n (by omega)).mono ?_
   rintro e w' ⟨rfl, rfl⟩
   have e0 : (l.drop f).take n = [] := List.eq_nil_of_length_eq_zero (by rw [List.length_take, List.length_drop]; omega)
   exact ⟨_, rfl, by rw [e0]; exact OB.nil _ _, bR _ _⟩
theorem all_any (w : World) (b L : Nat) (l : List UInt8) (h : LM w b L l) (hL : l.length = L) (hl : L ≤ 1000) : Calls Tryz.prog 92 #[pB b] w fun e w' => ∃ v, e = .returned v ∧ OB w' w.heap.size v l ∧ Below w.heap.size w w' := by
 have HL := qh (len_any w b L l h)
 have HF := qh (from_any w b L l h hL hl 0 L 0 L rfl rfl hl)
 rw [List.drop_zero, List.take_of_length_le (by omega)] at HF
 clear h hL
 go_enter Tryz.func92, Tryz.ntmps92
 go_wp2_with (first
  | (go_at_call 115; with_reducible refine (HL.out).mono ?_; rintro e w1 ⟨rfl, rfl⟩)
  | (go_at_call 121; with_reducible refine (HF.out).mono ?_; rintro e w1 ⟨v, rfl, ho, hb⟩))
 go_ret
 exact ⟨v, rfl, ho, hb⟩
theorem rb_made (w : World) (y : UInt8) (t : TypeId) (B : Nat) (hB : w.heap.size < B) : RB (w.alloc (.cells #[.int .u8 y.toNat] t)) B (some ⟨w.heap.size, 0, none⟩) [y] := fun _ =>
 ⟨w.heap.size, 0, rfl, hB, fun j hj => by
   obtain rfl : j = 0 := by simp at hj; omega
   simp [go_sem, vb]⟩
theorem add_ok (w : World) (b L : Nat) (l : List UInt8) (h : LM w b L l) (hL : l.length = L) (hl : L < 1000) (y : UInt8) : Calls Tryz.prog 68 #[pB b, vb y] w fun e w' => e = .returned (.int .i64 0) ∧ LM w' b (L + 1 : Nat) (l ++ [y]) ∧ w.grownBy w' (some b) := by
 have HL := qh (len_any w b L l h)
 have hp := put_in (w.alloc (.cells #[.int .u8 y.toNat] 5)) b l [y] (some ⟨w.heap.size, 0, none⟩) 1 (w.heap.size + 1) L 0 L 1 hL rfl (h.alloc _) (by omega) (rb_made w y _ _ (by omega)) (nl _) (by unfold maxLen; omega) (nl _) (by omega) 1 rfl 1 (by omega)
 have HP : Hid (Calls Tryz.prog 118 #[pB b, .int .i64 L, .slice (some ⟨w.heap.size, 0, none⟩) 1 1] (w.alloc (.cells #[.int .u8 y.toNat] 5)) fun e w' => e = .returned (.tuple #[.int .i64 1, .int .i64 0]) ∧ LM w' b (L + 1 : Nat) (l ++ [y]) ∧ (w.alloc (.cells #[.int .u8 y.toNat] 5)).grownBy w' (some b)) :=
  hp.mono fun e w' ⟨he, hm, hg⟩ => ⟨he, by simpa using hm, hg⟩
 clear h hL hp hl
 unfold vb
 go_enter Tryz.func68, Tryz.ntmps68
 go_wp2_with (first
  | (go_at_call 115; with_reducible refine (HL.out).mono ?_; rintro e w1 ⟨rfl, rfl⟩)
  | (go_at_call 118; with_reducible refine (HP.out).mono ?_; rintro e w1 ⟨rfl, hm, hg⟩; have HM := qh hm; clear hm))
 go_ret
 exact ⟨rfl, HM.out, (World.grownBy_alloc w _ _).trans hg⟩
theorem RB.tail {w : World} {B : Nat} {A : Option Addr} {l : List UInt8} (h : RB w B A l) (k cap : Nat) (hk : k ≤ l.length) (hc : l.length ≤ cap) (hne : ¬ cap = k) : RB w B (A.map (·.add k)) (l.drop k) := by
 have := h.cut k cap hk hc
 rwa [if_neg hne] at this
end Go.Proofs.YtpnobpligchpiaaGreatDoor
