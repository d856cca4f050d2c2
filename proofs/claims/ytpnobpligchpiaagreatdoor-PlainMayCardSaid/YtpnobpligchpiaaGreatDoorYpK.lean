/- texts of YpK -/
import Derived.Below
import Derived.Carry
import Derived.ChangeOld
import Derived.Deep.DrawnRows
import Derived.Deep.OwnRows
import Derived.Deep.QuietTactic
import Derived.Deep.RegionHeld3
import Derived.Great.BuildSlice
import Derived.LaidLaws
import Derived.LaidMore
import Derived.Laws.AppendOwnNone
import Derived.Laws.BytesString
import Derived.Lib.Hide
import Derived.Lib.LaidTab
import Derived.Lib.Strings
import Derived.MakeChecks
import Derived.Maps.AppendAt
import Derived.Maps.Range
import Derived.OpenShut
import Derived.OwnWalk
import Derived.ProofKit
import Derived.RegionTactic
import Derived.ShutString
import Derived.SizedLaws
import Derived.Test.YtpnobpligchpiaaGreatDoorRows
import Derived.WalkKit
import Derived.WalkLawsBesides
import Derived.WalkSpells
namespace Go.Proofs.YtpnobpligchpiaaGreatDoor
set_option maxRecDepth 100000
open Go.RowKit
theorem qh {p : Prop} (h : p) : Go.RowKit.Hid p := Lib.hid h
theorem nl (n : Nat) : n ≤ n := Nat.le_refl n
theorem bR (n : Nat) (w : World) : Below n w w := Below.refl n w
theorem nB {α : Type} (l : List α) (i : Nat) (a : α) : l.toArray.setIfInBounds i a = (l.set i a).toArray := by simp
theorem nC {α : Type} (a : α) (l : List α) (b : α) : (a :: l).set 0 b = b :: l := rfl
theorem nD {α : Type} (a : α) (l : List α) (n : Nat) (b : α) : (a :: l).set (n + 1) b = a :: l.set n b := rfl
set_option linter.unusedVariables false
def vb (b : UInt8) : Value := .int .u8 (b.toNat : Int)
theorem cell_lt {w : World} {b off : Nat} {v : Value} (h : w.cell? ⟨b, off, none⟩ = some v) : b < w.heap.size := by
 rcases Nat.lt_or_ge b w.heap.size with hl | hl
 · exact hl
 · simp [World.cell?, Array.getElem?_eq_none hl] at h
def RB (w : World) (B : Nat) (A : Option Addr) (l : List UInt8) : Prop :=
 0 < l.length → ∃ b off, A = some ⟨b, off, none⟩ ∧ b < B ∧ ∀ j (h : j < l.length), w.cell? ⟨b, off + j, none⟩ = some (vb l[j])
theorem RB.nil (w : World) (B : Nat) (A : Option Addr) : RB w B A [] := fun h => absurd h (by simp)
theorem RB.below {w w' : World} {B : Nat} {A : Option Addr} {l : List UInt8} (h : RB w B A l) (hb : Below B w w') : RB w' B A l := fun h0 => by
 obtain ⟨b, off, e, hlt, hc⟩ := h h0
 exact ⟨b, off, e, hlt, fun j hj => (hb.cell (p := ⟨b, off + j, none⟩) hlt).trans (hc j hj)⟩
theorem RB.more {w : World} {B B' : Nat} {A : Option Addr} {l : List UInt8} (h : RB w B A l) (hB : B ≤ B') : RB w B' A l := fun h0 => by
 obtain ⟨b, off, e, hlt, hc⟩ := h h0
 exact ⟨b, off, e, by omega, hc⟩
theorem RB.take {w : World} {B : Nat} {A : Option Addr} {l : List UInt8} (h : RB w B A l) (k : Nat) : RB w B A (l.take k) := fun h0 => by
 rw [List.length_take] at h0
 obtain ⟨b, off, e, hlt, hc⟩ := h (by omega)
 exact ⟨b, off, e, hlt, fun j hj => by rw [List.length_take] at hj; rw [hc j (by omega), List.getElem_take]⟩
theorem RB.cut {w : World} {B : Nat} {A : Option Addr} {l : List UInt8} (h : RB w B A l) (k cap : Nat) (hk : k ≤ l.length) (hc : l.length ≤ cap) : RB w B (if cap = k then A else A.map (·.add k)) (l.drop k) := fun h0 => by
 rw [List.length_drop] at h0
 obtain ⟨b, off, rfl, hlt, hcell⟩ := h (by omega)
 rw [if_neg (by omega)]
 refine ⟨b, off + k, by simp [Addr.add_lit], hlt, fun j hj => ?_⟩
 rw [List.length_drop] at hj
 rw [Nat.add_assoc, hcell (k + j) (by omega), List.getElem_drop]
theorem byte_info : (Tryz.prog.info? 5).map (fun i => (i.zero, i.size, i.bytes)) = some (some (.int .u8 0), 1, 1) := by kernel_rfl
def OB (w : World) (base : Nat) (v : Value) (l : List UInt8) : Prop := w.ownsRow base 5 1 v l.length (l.map vb)
theorem OB.nil (w : World) (base : Nat) : OB w base (.slice none 0 0) [] := World.ownsRow_nil _ _ _ _
theorem OB.cells {w : World} {base : Nat} {l : List UInt8} {A : Option Addr} {n cap : Nat} (h : OB w base (.slice A n cap) l) : RB w w.heap.size A l := fun h0 => by
 obtain ⟨hl, hd⟩ := h
 rcases hd with ⟨_, he⟩ | ⟨g, cap', cur, hv, _, hh, _, _, _, ht⟩
 · omega
 · injection hv with hA hn hc
   refine ⟨g, 0, hA, ?_, fun j hj => ?_⟩
   · rcases Nat.lt_or_ge g w.heap.size with hlt | hge
     · exact hlt
     · rw [Array.getElem?_eq_none hge] at hh; cases hh
   · rw [Nat.zero_add, cell_of_row w g j cur _ _ hh]
     have e := congrArg (·[j]?) ht
     simp only [Nat.mul_one, List.getElem?_take, hj, if_true, List.getElem?_map, List.getElem?_eq_getElem hj, Option.map_some] at e
     simpa using e
theorem OB.form {w : World} {base : Nat} {v : Value} {l : List UInt8} (h : OB w base v l) (c : List UInt8) (hc : c = l) :
 ∃ A cap, v = .slice A c.length cap ∧ c.length ≤ cap ∧ cap ≤ maxLen ∧ RB w w.heap.size A c := by
 subst hc
 have h' := h
 obtain ⟨hl, hd⟩ := h
 rcases hd with ⟨rfl, hn⟩ | ⟨g, cap, cur, rfl, _, hh, h1, h2, h3, h4⟩
 · exact ⟨none, 0, by rw [hn], by omega, by unfold maxLen; omega, h'.cells⟩
 · exact ⟨some ⟨g, 0, none⟩, cap, rfl, h1, h2, h'.cells⟩
theorem run_append_bytes (w : World) (base : Nat) (ty : TypeId) (v : Value) (xs l : List UInt8) (hown : OB w base v xs)
 (B : Nat) (A : Option Addr) (c : Nat) (hr : RB w B A l) (hlen : xs.length + l.length ≤ 140737488355328) (hbase : base ≤ w.heap.size) :
 ∃ v' w', (Builtin.append_ #[33, 33] ty #[v, .slice A l.length c]).run Tryz.prog w = .ok v' w' ∧ OB w' base v' (xs ++ l) ∧ w.grownBy w' v.ownBlock ∧
   (v'.ownBlock = v.ownBlock ∨ v'.ownBlock = some w.heap.size) := by
 obtain ⟨i0, hi0, hz0, hz1, hz2⟩ := info_parts byte_info
 cases A with
 | none =>
   obtain rfl : l = [] := by
    rcases Nat.eq_zero_or_pos l.length with h0 | h0
    · exact List.eq_nil_of_length_eq_zero h0
    · obtain ⟨b, off, e, _⟩ := hr h0
      cases e
   refine ⟨v, w, ?_, by rw [List.append_nil]; exact hown, ⟨rfl, rfl, rfl, nl _, fun _ _ _ => rfl⟩, .inl rfl⟩
   rcases hown.2 with ⟨rfl, h0⟩ | ⟨g, cap, cur, rfl, _, _, hnc, _⟩
   · simp [Builtin.append_, run_underlying Tryz.underlying33, sizeOf, typeInfo, hi0, Builtin.lenOf, Builtin.firstCells]
   · simp [Builtin.append_, run_underlying Tryz.underlying33, sizeOf, typeInfo, hi0, Builtin.lenOf, Builtin.firstCells, hnc, storeCells]
 | some ad =>
   obtain ⟨v', w', hrun, h2, h3, _, h5⟩ := run_append_own_at (P := Tryz.prog) w base 33 ty 5 i0 (.int .u8 0) 1 1 Tryz.underlying33 hi0 hz0 hz1 hz2 rfl (by decide) v xs.length _ hown ad l.length c (l.map vb) (by simp)
    (fun j u hj => by
      rw [List.getElem?_map] at hj
      by_cases hjl : j < l.length
      · obtain ⟨b, off, e, _, hcell⟩ := hr (by omega)
        have e := Option.some.inj e
        subst e
        rw [List.getElem?_eq_getElem hjl] at hj
        simp only [Option.map_some, Option.some.injEq] at hj
        rw [Addr.add_lit, hcell j hjl, hj]
      · rw [List.getElem?_eq_none (by omega)] at hj; cases hj)
    (fun u hu => by
      obtain ⟨x, _, rfl⟩ := List.mem_map.1 hu
      rfl) (by unfold maxLen; omega) (by omega) hbase
   exact ⟨v', w', hrun, by unfold OB; rw [List.length_append, List.map_append]; exact h2, h3, h5⟩
theorem wpList_append_bytes {w : World} {ops : Array Oper} {rest : List Oper} {o : Oper} {a : Act} {Q : Exit → Act → World → Prop} (hgd : o.guard = none) (s x : Operand)
 (ho : o.op = .call { callee := .builtin .append, args := #[s, x], argTypes := #[33, 33] })
 (base : Nat) (v : Value) (xs l : List UInt8) (hs : a.eval s = v) (hown : OB w base v xs)
 (B : Nat) (A : Option Addr) (c : Nat) (hx : a.eval x = .slice A l.length c) (hr : RB w B A l) (hlen : xs.length + l.length ≤ 140737488355328) (hbase : base ≤ w.heap.size)
 (h : ∀ v' w', OB w' base v' (xs ++ l) → w.grownBy w' v.ownBlock → (v'.ownBlock = v.ownBlock ∨ v'.ownBlock = some w.heap.size) → wpList Tryz.prog ops Q rest (a.put o.dst v') w') : wpList Tryz.prog ops Q (o :: rest) a w := by
 refine wpList_plain hgd fun _ hK => ?_
 obtain ⟨v', w', hrun, h2, h3, h4⟩ := run_append_bytes w base o.type v xs l hown B A c hr hlen hbase
 unfold Oper.wp execOp
 simp only [ho, resolve, invoke, builtin, Sem.run_bind, Sem.run_pure, Result.andThen_ok, List.map_toArray, List.map_cons, List.map_nil, hs, hx, hrun]
 exact hK _ _ (h v' w' h2 h3 h4)
theorem OB.ge {w : World} {base : Nat} {v : Value} {l : List UInt8} (h : OB w base v l) : ∀ k, v.ownBlock = some k → base ≤ k := fun k hk => (World.ownsRow.lt h k hk).1
theorem same_left {P : Program} {f : FuncId} {args : Array Value} {w : World} {n : Nat} {v : Value}
 (h : Calls P f args (w.drewN n) fun e w' => e = .returned v ∧ w.drewN n = w') : Calls P f args (w.drewN n) fun e w'' => e = .returned v ∧ ∃ m, w'' = w.drewN m :=
 h.mono fun _ _ ⟨he, hm⟩ => ⟨he, n, hm.symm⟩
theorem below_drewN {B : Nat} {a w : World} (h : Below B a w) (n : Nat) : Below B a (w.drewN n) := ⟨h.os, h.tape, h.output, h.size, h.block⟩
theorem b8_xor (a b : UInt8) : bits .xor .u8 (a.toNat : Int) (b.toNat : Int) = ((a ^^^ b).toNat : Int) := by
 rw [u8_xor_nat _ _ a.toNat_lt b.toNat_lt, UInt8.toNat_xor]
theorem OB.set {w : World} {base g n c : Nat} {l : List UInt8} (h : OB w base (.slice (some ⟨g, 0, none⟩) n c) l) (hn : l.length = n) (k : Nat) (y : UInt8) :
 OB (w.setCell ⟨g, k, none⟩ (vb y)) base (.slice (some ⟨g, 0, none⟩) n c) (l.set k y) := by
 subst hn
 unfold OB at h ⊢
 rw [List.length_set, List.map_set]
 exact (World.ownsRow.stored (w := w) h k (vb y)).1
theorem OB.cell_at {w : World} {base g n c : Nat} {l : List UInt8} (h : OB w base (.slice (some ⟨g, 0, none⟩) n c) l) (hn : l.length = n) (k : Nat) (hk : k < l.length) : w.cell? ⟨g, k, none⟩ = some (vb l[k]) := by
 subst hn
 have e := World.ownsRow.cellAt (w := w) h k (by omega)
 rw [List.getElem?_map, List.getElem?_eq_getElem hk, Option.map_some] at e
 exact e
theorem OB.frozen_at {w : World} {base g n c : Nat} {l : List UInt8} (h : OB w base (.slice (some ⟨g, 0, none⟩) n c) l) (hn : l.length = n) (k : Nat) : w.frozen? ⟨g, k, none⟩ = false := by
 subst hn
 exact World.ownsRow.frozenAt (w := w) h k
theorem OB.drew {w : World} {base : Nat} {v : Value} {l : List UInt8} (h : OB w base v l) : OB w.drew base v l := World.ownsRow.drew h
theorem OB.some_ {w : World} {base : Nat} {v : Value} {l : List UInt8} (h : OB w base v l) (h0 : 0 < l.length) : ∃ g cap, v = .slice (some ⟨g, 0, none⟩) l.length cap ∧ base ≤ g ∧ l.length ≤ cap ∧ cap ≤ maxLen := by
 rcases h.2 with ⟨_, hn⟩ | ⟨g, cap, cur, rfl, hb, _, h1, h2, _⟩
 · omega
 · exact ⟨g, cap, rfl, hb, h1, h2⟩
theorem OB.block {w : World} {base g n c : Nat} {l : List UInt8} (h : OB w base (.slice (some ⟨g, 0, none⟩) n c) l) : base ≤ g := h.ge g rfl
open Go.ChangeShapes Go.WideShapes Go.ChangeAt Go.RowKit
open Go.ChangeMaps (open_string shut_string)
theorem kitOwn : ownKnob Tryz.prog.godebug = none := by kernel_rfl
theorem kitLaid : laidOutB Tryz.prog = true := by kernel_rfl
theorem kitCellsByte : Tryz.prog.cellsOf 5 = 1 := by kernel_rfl
section
variable {H : Type} {enc : TypeId × Value → H}
theorem trodAll_below {P : Program} (hl : laidOutB P = true) {W W' : World} (hb : Below W.heap.size W W') {ts : List TypeId} :
 ∀ {vs : List Value} {ds : List (DataW H)} {ps : List MemPlace}, (ts.all fun t => P.readableRec t && decide (t < P.types.size)) = true →
 DataW.TrodAll enc P W 0 (fun _ => true) true ts vs ds ps → (∀ x ∈ ps, x.block < W.heap.size) →
 DataW.TrodAll enc P W' 0 (fun b => decide (b < W.heap.size)) true ts vs ds ps := by
 induction ts with
 | nil =>
   intro vs ds ps _ h _
   obtain ⟨rfl, rfl, rfl⟩ := trodAll_nil h
   exact trodAll_mk0
 | cons t ts ih =>
   intro vs ds ps hr h hlt
   obtain ⟨v, vs', d, ds', p, q, rfl, rfl, rfl, h1, h2⟩ := trodAll_cons h
   rw [List.all_cons, Bool.and_eq_true, Bool.and_eq_true] at hr
   exact trodAll_cons_mk (Below.trod hl hr.1.1 (of_decide_eq_true hr.1.2) h1 hb (fun x hx => hlt x (List.mem_append_left _ hx)))
    (ih hr.2 h2 (fun x hx => hlt x (List.mem_append_right _ hx)))
theorem byte_back {n : Int} (h : (Lit.int .u8 n).wf = true) : ((UInt8.ofNat n.toNat).toNat : Int) = n := by
 have := bounds_u8 h
 rw [UInt8.toNat_ofNat']; omega
theorem open_bytes {W : World} {base : Nat} {v : Value} {d : DataW H} {p : List MemPlace} (hval : Value.okWide Tryz.prog W .any base 33 v) (h : DataW.Trod enc Tryz.prog W 0 (fun _ => true) true 33 v d p) :
 ∃ A l cap, v = .slice A (l : List UInt8).length cap ∧ RB W W.heap.size A l ∧ l.length ≤ cap ∧ cap ≤ maxLen := by
 obtain ⟨a1, len, cap, rfl⟩ := okWide_slice Tryz.underlying33 hval
 obtain ⟨fuel, hf⟩ := h
 rcases open_ints Tryz.underlying33 Tryz.underlying5 kitCellsByte hf with ⟨hcs, _⟩ | ⟨a, len', cap', zs, hcs, _, hl, hm, hz, _, hcell, hwz⟩
 · simp [Value.cells] at hcs
   obtain ⟨rfl, rfl, rfl⟩ := hcs
   exact ⟨none, [], 0, rfl, RB.nil _ _ _, by simp, by unfold maxLen; omega⟩
 · simp [Value.cells] at hcs
   obtain ⟨rfl, rfl, rfl⟩ := hcs
   simp only [if_true] at hz
   have hll : ((zs.take len).map fun n => UInt8.ofNat n.toNat).length = len := by simp; omega
   refine ⟨some a, (zs.take len).map fun n => UInt8.ofNat n.toNat, cap, by rw [hll], fun h0 => ?_, by omega, hm⟩
   rw [hll] at h0
   obtain ⟨b, off, spot⟩ := a
   have hspot : spot = none := by simpa [Addr.add] using World.cell?_spot (hcell 0 (by omega))
   subst hspot
   have hc0 := hcell 0 (by omega)
   rw [Addr.add_lit] at hc0
   refine ⟨b, off, rfl, cell_lt hc0, fun j hj => ?_⟩
   rw [hll] at hj
   have hc := hcell j (by omega)
   rw [Addr.add_lit] at hc
   rw [hc, List.getElem_map, List.getElem_take, vb, byte_back (hwz _ (List.getElem_mem _))]
   simp [List.getD, show j < zs.length by omega]
theorem law_post {fn : Func} {s : ChangeSpec} {W W' : World} {args : Array Value} {ds gs : List (DataW H)} {before : List MemPlace}
 (hW : DataW.Whole enc Tryz.prog fn.params.toList s.vars false W args.toList ds gs before) (hv : s.vars = [])
 (hts : (fn.params.toList.all fun t => Tryz.prog.readableRec t && decide (t < Tryz.prog.types.size)) = true) (hr : fn.resultTypes = #[4])
 (hs : s.fn H (ds ++ gs) = { results := [.lit (.bool true)], args := ds }) (hb : Below W.heap.size W W') :
 s.post enc Tryz.prog fn false true false false W args (.bool true) W' := by
 obtain ⟨p, q, hA, hV, hp, hf, hn⟩ := hW
 rw [hv] at hV
 obtain ⟨hg, hq⟩ := trodVars_none hV
 have hW' : DataW.Whole enc Tryz.prog fn.params.toList s.vars false W args.toList ds gs before := ⟨p, q, hA, by rw [hv]; exact hV, hp, hf, hn⟩
 refine ⟨ds, gs, before, [], p, [], hW', ?_, ?_, ?_, hb.frame _, fun h => by cases h⟩
 · rw [hr, hs]; exact trodAll_mk1 (shut_bool Tryz.underlying4 true)
 · rw [hs]; exact trodAll_below kitLaid hb hts hA (fun x hx => hW'.lt x (by rw [hp]; exact List.mem_append_left _ hx))
 · rw [hv, hs]; rfl
end
open Go.ChangeShapes Go.WideShapes Go.ChangeAt Go.RowKit
section
variable {H : Type} {enc : TypeId × Value → H}
end
def str (l : List UInt8) : ByteArray := ⟨l.toArray⟩
theorem str_toList (l : List UInt8) : (str l).toList = l := by rw [Lib.toList_data]; rfl
theorem str_size (l : List UInt8) : (str l).size = l.length := rfl
theorem nums_str (l : List UInt8) : strOfNums (l.map fun b => (b.toNat : Int)) = str l := by
 unfold strOfNums str
 rw [List.map_map]
 have e : ((fun n : Int => UInt8.ofNat n.toNat) ∘ fun b : UInt8 => (b.toNat : Int)) = id := by
  funext b; simp
 rw [e, List.map_id]
theorem conv_bytes (w : World) (b off cap : Nat) (l : List UInt8) (B : Nat) (hr : RB w B (some ⟨b, off, none⟩) l) (n : Nat) (hn : l.length = n) :
 (convert 33 9 (.slice (some ⟨b, off, none⟩) n cap)).run Tryz.prog w = .ok (.string (str l)) w := by
 rw [← nums_str]
 refine run_convert_bytes_arg w 33 5 Tryz.underlying33 Tryz.underlying5 b off n cap (l.map fun b => (b.toNat : Int)) (by simp [hn]) (fun i hi => ?_) 9 Tryz.underlying9
 obtain ⟨b', off', e, _, hc⟩ := hr (by omega)
 injection e with e
 injection e with e1 e2
 subst e1 e2
 rw [hc i (by omega)]
 simp [vb, List.getD, show i < l.length by omega]
theorem wp_append_bytes {w : World} {o : Oper} {a : Act} {K : Act → World → Prop} {Q : Exit → Act → World → Prop} (s x : Operand)
 (ho : o.op = .call { callee := .builtin .append, args := #[s, x], argTypes := #[33, 33] })
 (base : Nat) (v : Value) (xs l : List UInt8) (hs : a.eval s = v) (hown : OB w base v xs)
 (B : Nat) (A : Option Addr) (c : Nat) (hx : a.eval x = .slice A l.length c) (hr : RB w B A l) (hlen : xs.length + l.length ≤ 140737488355328) (hbase : base ≤ w.heap.size)
 (h : ∀ v' w', OB w' base v' (xs ++ l) → w.grownBy w' v.ownBlock → (v'.ownBlock = v.ownBlock ∨ v'.ownBlock = some w.heap.size) → K (a.put o.dst v') w') : o.wp Tryz.prog a w K Q := by
 obtain ⟨v', w', hrun, h2, h3, h4⟩ := run_append_bytes w base o.type v xs l hown B A c hr hlen hbase
 unfold Oper.wp execOp
 simp only [ho, resolve, invoke, builtin, Sem.run_bind, Sem.run_pure, Result.andThen_ok, List.map_toArray, List.map_cons, List.map_nil, hs, hx, hrun]
 exact h v' w' h2 h3 h4
theorem only_of_below {a w : World} (h : Below a.heap.size a w) (row : Option Nat) : a.grownBy w row := ⟨h.os, h.tape, h.output, h.size, fun i hi _ => h.block i hi⟩
theorem OB.below {w w' : World} {base B : Nat} {v : Value} {l : List UInt8} (h : OB w base v l) (hb : Below B w w') (hB : w.heap.size ≤ B) : OB w' base v l := by
 have hg : w.grownBy w' none := ⟨hb.os, hb.tape, hb.output, hb.size, fun i hi _ => hb.block i (by omega)⟩
 refine World.ownsRow.kept h hg ?_
 cases hv : v.ownBlock with
 | none => exact .inl rfl
 | some k => exact .inr (by simp)
theorem OB.less {w : World} {base b' : Nat} {v : Value} {l : List UInt8} (h : OB w base v l) (hb : b' ≤ base) : OB w b' v l := by
 refine ⟨h.1, ?_⟩
 rcases h.2 with h0 | ⟨g, cap, cur, hv, hg, h2⟩
 · exact .inl h0
 · exact .inr ⟨g, cap, cur, hv, by omega, h2⟩
def Low (v : Value) (n : Nat) : Prop := ∀ k, v.ownBlock = some k → k < n
theorem OB.low {w : World} {base : Nat} {v : Value} {l : List UInt8} (h : OB w base v l) : Low v w.heap.size := fun k hk => (World.ownsRow.lt h k hk).2
theorem OB.apart {w w' : World} {base n : Nat} {v u : Value} {l : List UInt8} (h : OB w base v l) (hn : n ≤ base) (hu : Low u n) (hg : w.grownBy w' u.ownBlock) : OB w' base v l := by
 refine World.ownsRow.kept h hg ?_
 cases hv : v.ownBlock with
 | none => exact .inl rfl
 | some k => exact .inr (fun e => by
    have h1 := h.ge k hv
    have h2 := hu k e.symm
    omega)
theorem Low.ne {v : Value} {n b : Nat} (h : Low v n) (hb : n ≤ b) : some b ≠ v.ownBlock := fun e => by have := h b e.symm; omega
set_option linter.unusedSimpArgs false
theorem conv_rb {w : World} {B : Nat} {A : Option Addr} {l : List UInt8} (h : RB w B A l) (n c : Nat) (hn : l.length = n) : (convert 33 9 (.slice A n c)).run Tryz.prog w = .ok (.string (str l)) w := by
 by_cases h0 : n = 0
 · subst h0
   obtain rfl := List.eq_nil_of_length_eq_zero hn
   rw [run_convert_bytes_string w _ _ 5 A 0 c Tryz.underlying33 Tryz.underlying5 Tryz.underlying9]
   cases A <;> simp [Conv.bytesToString, loadCells]
   all_goals rfl
 · obtain ⟨b, off, rfl, -, -⟩ := h (by omega)
   exact conv_bytes w b off c l B h n hn
theorem OB.form_n {w : World} {base : Nat} {v : Value} {l : List UInt8} (h : OB w base v l) (n : Nat) (hn : l.length = n) : ∃ A cap, v = .slice A n cap ∧ n ≤ cap ∧ cap ≤ maxLen ∧ RB w w.heap.size A l := by
 subst hn
 exact h.form _ rfl
theorem rb_cells (w : World) (x : List UInt8) (t : TypeId) (B : Nat) (hB : w.heap.size < B) : RB (w.alloc (.cells (x.map vb).toArray t)) B (some ⟨w.heap.size, 0, none⟩) x := fun _ =>
 ⟨w.heap.size, 0, rfl, hB, fun j hj => by simp [go_sem, hj]⟩
def madeB (k : Nat) : Obj := .cells (madeCells #[.int .u8 0] k) 5
theorem make_b (k : Nat) (hk : k ≤ 3000) (W : World) : (Instr.makeSlice 33 (.int .i64 (k : Int)) (.int .i64 (k : Int))).run Tryz.prog W = .ok (.slice (some ⟨W.heap.size, 0, none⟩) k k) (W.alloc (madeB k)) :=
 run_make_row' 33 5 (.int .u8 0) 1 Tryz.underlying33 byte_info rfl .i64 .i64 k (by omega) (by omega) W
theorem ob_made (W : World) (k : Nat) (hk : k ≤ 3000) : OB (W.alloc (madeB k)) W.heap.size (.slice (some ⟨W.heap.size, 0, none⟩) k k) (List.replicate k 0) := by
 have h := World.ownsRow_lit (e := 5) (size := 1) (base := W.heap.size) W (madeCells #[.int .u8 0] k) k (nl _) (by unfold maxLen; omega) (by rw [size_madeCells, Nat.mul_one])
 unfold OB
 rw [List.length_replicate, List.map_replicate]
 have e : (madeCells #[Value.int .u8 0] k).toList = List.replicate k (.int .u8 0) := toList_madeCells_one _ _
 rw [e] at h
 exact h
theorem wp_one {w : World} {o : Oper} {a : Act} {K : Act → World → Prop} {Q : Exit → Act → World → Prop} (x : Operand)
 (ho : o.op = .buildSlice 33 1 #[(0, x)]) (y : Int) (c : UInt8) (hx : a.eval x = .int .u8 y) (hc : (c.toNat : Int) = y)
 (h : ∀ w', OB w' w.heap.size (.slice (some ⟨w.heap.size, 0, none⟩) 1 1) [c] → Below w.heap.size w w' → w.heap.size < w'.heap.size → K (a.put o.dst (.slice (some ⟨w.heap.size, 0, none⟩) 1 1)) w') : o.wp Tryz.prog a w K Q := by
 obtain ⟨i0, hi0, hz0, hz1, hz2⟩ := info_parts byte_info
 refine wp_buildSlice 33 5 1 #[(0, x)] ho #[.int .u8 y] i0 (.int .u8 0) Tryz.underlying33 hi0 hz0 (by rw [hz1]; decide) (by rw [hz1]; decide) ?_ (h _ ?_ ((bR _ _).alloc (nl _) _) (by rw [World.size_alloc]; omega))
 · simp [hx, hz1, Instr.fill]
   exact ⟨⟨rfl, nl 1⟩, by kernel_rfl⟩
 · have h1 := World.ownsRow_lit (e := 5) (size := 1) (base := w.heap.size) w #[.int .u8 y] 1 (nl _) (by unfold maxLen; omega) rfl
   rw [← hc] at h1 ⊢
   exact h1
theorem not_row {b N : Nat} {v : Value} (h : ∀ k, v.ownBlock = some k → N ≤ k) (hb : b < N) : some b ≠ v.ownBlock := fun e => by have := h b e.symm; omega
abbrev pB (b : Nat) : Value := .pointer (some ⟨b, 0, none⟩)
theorem OB.empty (w : World) : OB (w.alloc (.cells #[] 5)) w.heap.size (.slice (some ⟨w.heap.size, 0, none⟩) 0 0) [] :=
 ⟨by simp, .inr ⟨w.heap.size, 0, _, rfl, nl _, heap_alloc_new w _, nl _, by unfold maxLen; omega, by rfl, by rfl⟩⟩
theorem ownsRow_same {w w' : World} {base : Nat} {e : TypeId} {size n : Nat} {v : Value} {xs : List Value} (h : w.ownsRow base e size v n xs) (hs : ∀ k, v.ownBlock = some k → w'.heap[k]? = w.heap[k]?) : w'.ownsRow base e size v n xs := by
 refine ⟨h.1, ?_⟩
 rcases h.2 with h0 | ⟨g, cap, cur, rfl, h1, h2, h3⟩
 · exact .inl h0
 · exact .inr ⟨g, cap, cur, rfl, h1, (hs g rfl).trans h2, h3⟩
theorem OB.same {w w' : World} {base : Nat} {v : Value} {l : List UInt8} (h : OB w base v l) (hs : ∀ k, v.ownBlock = some k → w'.heap[k]? = w.heap[k]?) : OB w' base v l := ownsRow_same h hs
theorem OB.lt {w : World} {base : Nat} {v : Value} {l : List UInt8} (h : OB w base v l) (k : Nat) (hk : v.ownBlock = some k) : base ≤ k ∧ k < w.heap.size := World.ownsRow.lt h k hk
theorem short_any (A : Option Addr) (l : List UInt8) (cap k : Nat) (w : World) (hk : k ≤ 1000) (hc : l.length ≤ cap) (hc2 : cap ≤ maxLen) :
 Calls Tryz.prog 26 #[.slice A l.length cap, .int .i64 k] w fun e w' => e = .returned (.slice A (l.take k).length cap) ∧ w = w' := by
 unfold maxLen at hc2
 rw [List.length_take]
 by_cases h : k < l.length
 · go_enter Tryz.func26, Tryz.ntmps26
   go_wp2
   go_ret
   exact ⟨by rw [Nat.min_eq_left (by omega)]; rfl, rfl⟩
 · go_enter Tryz.func26, Tryz.ntmps26
   go_wp2
   go_ret
   exact ⟨by rw [Nat.min_eq_right (by omega)]; rfl, rfl⟩
theorem short_n (A : Option Addr) (l : List UInt8) (n cap k : Nat) (w : World) (hn : l.length = n) (hk : k ≤ 1000) (hc : n ≤ cap) (hc2 : cap ≤ maxLen) (X : Nat) (hX : (l.take k).length = X) (K : Int) (hK : K = (k : Int)) :
 Calls Tryz.prog 26 #[.slice A n cap, .int .i64 K] w fun e w' => e = .returned (.slice A X cap) ∧ w = w' := by
 subst hn hX hK
 exact short_any A l cap k w hk hc hc2
variable {P : Program} {ops : Array Oper} {Q : Exit → Act → World → Prop} {md : Region.Mode} {S : World → Prop}
theorem held_take {i : Nat} {dst : Option Tmp} {op : Op} {ty : TypeId} {pos : String} {af : _} {gd : _} {v : Value} {fuel : Nat} {listed : Array Bool} {a : Act} {w : World} (hi : ops[i]? = some ⟨dst, op, ty, pos, af, gd⟩)
 (hs : Region.noSelect ops = true) (hf : Region.free md ops listed i = true) (hr : (Region.ready md ops listed).contains i = true)
 (hQ : ∀ c a w, Q (.panic c) (a.put dst v) w → Q (.panic c) a w) (hw : Region.wanted ⟨dst, op, ty, pos, af, gd⟩ (yielded ops a.tmps) = true) (hS : S w)
 (hy : ∀ w, S w → (execOp a.eval ⟨dst, op, ty, pos, af, gd⟩).run P w = .ok (.value v) w)
 (h : wpAnyH P md ops Q S fuel (listed.setIfInBounds i true) (a.put dst v) w) : wpAnyH P md ops Q S (fuel + 1) listed a w :=
 wpAnyH_take hi hs hf hr hQ (.inl ⟨hw, hy⟩) hS h
theorem held_off {i : Nat} {dst : Option Tmp} {op : Op} {ty : TypeId} {pos : String} {af : _} {gd : _} {fuel : Nat} {listed : Array Bool} {a : Act} {w : World} (hi : ops[i]? = some ⟨dst, op, ty, pos, af, gd⟩)
 (hs : Region.noSelect ops = true) (hf : Region.free md ops listed i = true) (hr : (Region.ready md ops listed).contains i = true)
 (hQ : ∀ c a w, Q (.panic c) (a.put dst undef) w → Q (.panic c) a w) (hw : Region.wanted ⟨dst, op, ty, pos, af, gd⟩ (yielded ops a.tmps) = false) (hS : S w)
 (h : wpAnyH P md ops Q S fuel (listed.setIfInBounds i true) (a.put dst undef) w) : wpAnyH P md ops Q S (fuel + 1) listed a w :=
 wpAnyH_take hi hs hf hr hQ (.inr ⟨hw, rfl⟩) hS h
theorem htk {P : Program} {md : Region.Mode} {ops : Array Oper} {Q : Exit → Act → World → Prop} {S : World → Prop} {i : Nat} {dst : Option Tmp} {op : Op} {ty : TypeId} {pos : String} {af : _} {gd : _} {v : Value} {fuel : Nat} {listed : Array Bool} {a : Act} {w : World} (hi : ops[i]? = some ⟨dst, op, ty, pos, af, gd⟩)
    (h3 : (Region.noSelect ops && (Region.free md ops listed i && (Region.ready md ops listed).contains i)) = true)
    (hQ : ∀ c a w, Q (.panic c) (a.put dst v) w → Q (.panic c) a w) (hw : Region.wanted ⟨dst, op, ty, pos, af, gd⟩ (yielded ops a.tmps) = true) (hS : S w)
    (hy : ∀ w, S w → (execOp a.eval ⟨dst, op, ty, pos, af, gd⟩).run P w = .ok (.value v) w)
    (h : wpAnyH P md ops Q S fuel (listed.setIfInBounds i true) (a.put dst v) w) : wpAnyH P md ops Q S (fuel + 1) listed a w :=
  held_take hi (Bool.and_eq_true _ _ ▸ h3).1 (Bool.and_eq_true _ _ ▸ (Bool.and_eq_true _ _ ▸ h3).2).1 (Bool.and_eq_true _ _ ▸ (Bool.and_eq_true _ _ ▸ h3).2).2 hQ hw hS hy h
theorem held_one {i : Nat} {dst : Option Tmp} {op : Op} {ty : TypeId} {pos : String} {af : _} {gd : _} {fuel : Nat} {listed : Array Bool} {a : Act} {w : World} (hi : ops[i]? = some ⟨dst, op, ty, pos, af, gd⟩)
 (hr : Region.ready md ops listed = [i]) (hw : Region.wanted ⟨dst, op, ty, pos, af, gd⟩ (yielded ops a.tmps) = true)
 (h : ∀ K' : Act → World → Prop, Shut (∀ a w, S w → (S w → wpAnyH P md ops Q S fuel (listed.setIfInBounds i true) a w) → K' a w) → Oper.wp P ⟨dst, op, ty, pos, af, gd⟩ a w K' Q) :
 wpAnyH P md ops Q S (fuel + 1) listed a w :=
 wpAnyH_ready hr (by simp) (AllReadyH.cons hi (fun K' hK => by rw [if_pos hw]; exact h K' hK) AllReadyH.nil)
theorem held_two {i j : Nat} {dst dst2 : Option Tmp} {op op2 : Op} {ty ty2 : TypeId} {pos pos2 : String} {af af2 : _} {gd gd2 : _} {fuel : Nat} {listed : Array Bool} {a : Act} {w : World} (hi : ops[i]? = some ⟨dst, op, ty, pos, af, gd⟩) (hj : ops[j]? = some ⟨dst2, op2, ty2, pos2, af2, gd2⟩)
 (hr : Region.ready md ops listed = [i, j]) (hw : Region.wanted ⟨dst, op, ty, pos, af, gd⟩ (yielded ops a.tmps) = true) (hw2 : Region.wanted ⟨dst2, op2, ty2, pos2, af2, gd2⟩ (yielded ops a.tmps) = true)
 (h : ∀ K' : Act → World → Prop, Shut (∀ a w, S w → (S w → wpAnyH P md ops Q S fuel (listed.setIfInBounds i true) a w) → K' a w) → Oper.wp P ⟨dst, op, ty, pos, af, gd⟩ a w K' Q)
 (h2 : ∀ K' : Act → World → Prop, Shut (∀ a w, S w → (S w → wpAnyH P md ops Q S fuel (listed.setIfInBounds j true) a w) → K' a w) → Oper.wp P ⟨dst2, op2, ty2, pos2, af2, gd2⟩ a w K' Q) :
 wpAnyH P md ops Q S (fuel + 1) listed a w :=
 wpAnyH_ready hr (by simp) (AllReadyH.cons hi (fun K' hK => by rw [if_pos hw]; exact h K' hK) (AllReadyH.cons hj (fun K' hK => by rw [if_pos hw2]; exact h2 K' hK) AllReadyH.nil))
abbrev Ent := Option Nat × Obj
structure BU (w0 w : World) (E : List Ent) : Prop where
 be : Below w0.heap.size w0 w
 get : ∀ (i k : Nat) (o : Obj), E[i]? = some (some k, o) → w0.heap.size ≤ k ∧ w.heap[k]? = some o
 inj : ∀ (i j k : Nat) (o o' : Obj), E[i]? = some (some k, o) → E[j]? = some (some k, o') → i = j
section
variable {w0 w w' : World} {E : List Ent}
theorem BU.nil (w : World) : BU w w [] := ⟨bR _ _, fun i k o h => by simp at h, fun i j k o o' h => by simp at h⟩
theorem BU.lt (h : BU w0 w E) {i k : Nat} {o : Obj} (hi : E[i]? = some (some k, o)) : k < w.heap.size := (Array.getElem?_eq_some_iff.1 (h.get i k o hi).2).1
theorem BU.cell (h : BU w0 w E) {i k : Nat} {cur : Array Value} {t : TypeId} {f : Nat × Nat} (hi : E[i]? = some (some k, .cells cur t f)) {j : Nat} {v : Value} (hj : cur[j]? = some v) : w.cell? ⟨k, j, none⟩ = some v := by
 rw [cell_of_row w k j _ _ _ (h.get i k _ hi).2, hj]
theorem BU.frozen (h : BU w0 w E) {i k : Nat} {cur : Array Value} {t : TypeId} (hi : E[i]? = some (some k, .cells cur t (0, 0))) (j : Nat) : w.frozen? ⟨k, j, none⟩ = false := frozen_of_row w k j _ _ (h.get i k _ hi).2
theorem BU.drew (h : BU w0 w E) : BU w0 w.drew E := ⟨h.be.drew, h.get, h.inj⟩
theorem BU.belows (h : BU w0 w E) (hb : Below w.heap.size w w') : BU w0 w' E :=
 ⟨h.be.trans (hb.mono h.be.size), fun i k o hi => ⟨(h.get i k o hi).1, (hb.block k (h.lt hi)).trans (h.get i k o hi).2⟩, h.inj⟩
theorem BU.push (h : BU w0 w E) (hb : Below w.heap.size w w') (k : Nat) (o : Obj) (hk : w.heap.size ≤ k) (ho : w'.heap[k]? = some o) : BU w0 w' (E ++ [(some k, o)]) := by
 have h2 := h.belows hb
 have hlt : ∀ i a c, E[i]? = some (some a, c) → a ≠ k := fun i a c hi e => by have := h.lt hi; omega
 refine ⟨h2.be, fun i a c hi => ?_, fun i j a c c' hi hj => ?_⟩
 · rw [List.getElem?_append] at hi
   split at hi
   · exact h2.get i a c hi
   · cases e : i - E.length with
     | zero =>
       rw [e] at hi
       have e2 := Option.some.inj hi
       injection e2 with e3 e4
       injection e3 with e3
       subst e3 e4
       exact ⟨Nat.le_trans h.be.size hk, ho⟩
     | succ n => rw [e] at hi; simp at hi
 · rw [List.getElem?_append] at hi hj
   split at hi
   · split at hj
     · exact h.inj i j a c c' hi hj
     · cases e : j - E.length with
       | zero =>
         rw [e] at hj
         have e2 := Option.some.inj hj
         injection e2 with e3 e4
         injection e3 with e3
         exact absurd e3.symm (hlt i a c hi)
       | succ n => rw [e] at hj; simp at hj
   · split at hj
     · cases e : i - E.length with
       | zero =>
         rw [e] at hi
         have e2 := Option.some.inj hi
         injection e2 with e3 e4
         injection e3 with e3
         exact absurd e3.symm (hlt j a c' hj)
       | succ n => rw [e] at hi; simp at hi
     · cases e : i - E.length with
       | zero =>
         cases e2 : j - E.length with
         | zero => omega
         | succ n => rw [e2] at hj; simp at hj
       | succ n => rw [e] at hi; simp at hi
theorem BU.put (h : BU w0 w E) (i : Nat) (r : Option Nat) (o : Obj) (hi : E[i]? = some (r, o)) (g : w.grownBy w' r) (k' : Nat) (o' : Obj) (hk : r = some k' ∨ w.heap.size ≤ k') (ho : w'.heap[k']? = some o') : BU w0 w' (E.set i (some k', o')) := by
 have hil : i < E.length := (List.getElem?_eq_some_iff.1 hi).1
 have hge : w0.heap.size ≤ k' := by
  rcases hk with e | e
  · subst e; exact (h.get i k' o hi).1
  · exact Nat.le_trans h.be.size e
 have hne : ∀ j a c, j ≠ i → E[j]? = some (some a, c) → some a ≠ r ∧ a ≠ k' := fun j a c hji hj => by
  have h1 : some a ≠ r := fun e => by subst e; exact hji (h.inj j i a c o hj hi)
  refine ⟨h1, fun e => ?_⟩
  rcases hk with e2 | e2
  · exact h1 (by rw [e2, e])
  · have := h.lt hj; omega
 refine ⟨h.be.grown g h.be.size (fun k e => by subst e; exact (h.get i k o hi).1), fun j a c hj => ?_, fun j m a c c' hj hm => ?_⟩
 · rw [List.getElem?_set] at hj
   by_cases e : i = j
   · rw [if_pos e, if_pos hil] at hj
     have e2 := Option.some.inj hj
     injection e2 with e3 e4
     injection e3 with e3
     subst e3 e4
     exact ⟨hge, ho⟩
   · rw [if_neg e] at hj
     have hq := hne j a c (fun x => e x.symm) hj
     exact ⟨(h.get j a c hj).1, (g.block a (h.lt hj) hq.1).trans (h.get j a c hj).2⟩
 · rw [List.getElem?_set] at hj hm
   by_cases e : i = j
   · by_cases e2 : i = m
     · omega
     · rw [if_pos e, if_pos hil] at hj
       rw [if_neg e2] at hm
       have e3 := Option.some.inj hj
       injection e3 with e3 e4
       injection e3 with e3
       exact absurd e3.symm (hne m a c' (fun x => e2 x.symm) hm).2
   · by_cases e2 : i = m
     · rw [if_neg e] at hj
       rw [if_pos e2, if_pos hil] at hm
       have e3 := Option.some.inj hm
       injection e3 with e3 e4
       injection e3 with e3
       exact absurd e3.symm (hne j a c (fun x => e x.symm) hj).2
     · rw [if_neg e] at hj
       rw [if_neg e2] at hm
       exact h.inj j m a c c' hj hm
theorem bu_grown (w : World) (k j : Nat) (v : Value) : w.grownBy (w.setCell ⟨k, j, none⟩ v) (some k) := ⟨rfl, rfl, rfl, by simp [World.setCell], fun i _ hne => Below.heap_setCell _ _ _ _ (fun e => hne (by rw [e]))⟩
theorem BU.store (h : BU w0 w E) (i k : Nat) (cur : Array Value) (t : TypeId) (hi : E[i]? = some (some k, .cells cur t (0, 0))) (j : Nat) (v : Value) : BU w0 (w.setCell ⟨k, j, none⟩ v) (E.set i (some k, .cells (cur.setIfInBounds j v) t (0, 0))) :=
 h.put i (some k) _ hi (bu_grown w k j v) k _ (.inl rfl) (heap_setCell_same w k j cur t v (h.get i k _ hi).2)
end
def RowE (t : TypeId) (size : Nat) (v : Value) (n : Nat) (xs : List Value) (o : Obj) : Prop :=
 xs.length = n * size ∧ ((v = .slice none 0 0 ∧ n = 0) ∨ ∃ b cap cur, v = .slice (some ⟨b, 0, none⟩) n cap ∧ o = .cells cur t (0, 0) ∧ n ≤ cap ∧ cap ≤ maxLen ∧ cur.size = cap * size ∧ cur.toList.take (n * size) = xs)
section
variable {w0 w w' : World} {E : List Ent} {t : TypeId} {size n : Nat} {v : Value} {xs : List Value} {o : Obj}
theorem RowE.nil (t : TypeId) (size : Nat) (o : Obj) : RowE t size (.slice none 0 0) 0 [] o := ⟨by simp, .inl ⟨rfl, rfl⟩⟩
theorem BU.owns (h : BU w0 w E) (R : RowE t size v n xs o) {i : Nat} (hi : E[i]? = some (v.ownBlock, o)) : w.ownsRow w0.heap.size t size v n xs := by
 refine ⟨R.1, ?_⟩
 rcases R.2 with h0 | ⟨b, cap, cur, rfl, rfl, h1, h2, h3, h4⟩
 · exact .inl h0
 · obtain ⟨g1, g2⟩ := h.get i b _ hi
   exact .inr ⟨b, cap, cur, rfl, g1, g2, h1, h2, h3, h4⟩
theorem owns_row {base : Nat} (h : w.ownsRow base t size v n xs) (k : Nat) (o : Obj) (hv : v.ownBlock = some k) (ho : w.heap[k]? = some o) : RowE t size v n xs o := by
 refine ⟨h.1, ?_⟩
 rcases h.2 with h0 | ⟨g, cap, cur, rfl, h1, h2, h3, h4, h5, h6⟩
 · exact .inl h0
 · have e : g = k := Option.some.inj hv
   subst e
   rw [h2] at ho
   exact .inr ⟨g, cap, cur, rfl, (Option.some.inj ho).symm, h3, h4, h5, h6⟩
theorem RowE.form (R : RowE t size v n xs o) (h0 : 0 < n) : ∃ b cap cur, v = .slice (some ⟨b, 0, none⟩) n cap ∧ o = .cells cur t (0, 0) ∧ n ≤ cap ∧ cap ≤ maxLen ∧ ∀ (j : Nat) (u : Value), xs[j]? = some u → cur[j]? = some u := by
 rcases R.2 with ⟨_, hn⟩ | ⟨b, cap, cur, rfl, rfl, h1, h2, h3, h4⟩
 · omega
 · refine ⟨b, cap, cur, rfl, rfl, h1, h2, fun j u hj => ?_⟩
   have hl : j < xs.length := (List.getElem?_eq_some_iff.1 hj).1
   have e : (cur.toList.take (n * size))[j]? = some u := by rw [h4]; exact hj
   have := R.1
   rw [List.getElem?_take_of_lt (by omega), Array.getElem?_toList] at e
   exact e
theorem RowE.val (R : RowE t size v n xs o) : ∃ A cap, v = .slice A n cap ∧ n ≤ cap ∧ cap ≤ maxLen := by
 rcases R.2 with ⟨rfl, rfl⟩ | ⟨b, cap, cur, rfl, rfl, h1, h2, _⟩
 · exact ⟨none, 0, rfl, nl _, by unfold maxLen; omega⟩
 · exact ⟨_, cap, rfl, h1, h2⟩
theorem BU.rowcell (h : BU w0 w E) (R : RowE t size v n xs o) {i : Nat} (hi : E[i]? = some (v.ownBlock, o)) {A : Option Addr} {c : Nat} (hv : v = .slice A n c) (j : Nat) (u : Value) (hj : xs[j]? = some u) : ∃ b, A = some ⟨b, 0, none⟩ ∧ v.ownBlock = some b ∧ w.cell? ⟨b, j, none⟩ = some u ∧ w.frozen? ⟨b, j, none⟩ = false := by
 have hl : j < xs.length := (List.getElem?_eq_some_iff.1 hj).1
 have h0 : 0 < n := by
  rcases Nat.eq_zero_or_pos n with e | e
  · have := R.1; rw [e] at this; omega
  · exact e
 obtain ⟨b, cap, cur, e, e2, _, _, hc⟩ := R.form h0
 subst e2
 have e3 := hv.symm.trans e
 injection e3 with e4 e5 e6
 subst e
 exact ⟨b, e4, rfl, h.cell hi (hc j u hj), h.frozen hi j⟩
theorem RowE.set {b cap : Nat} {cur : Array Value} (R : RowE t size (.slice (some ⟨b, 0, none⟩) n cap) n xs (.cells cur t (0, 0))) (j : Nat) (u : Value) : RowE t size (.slice (some ⟨b, 0, none⟩) n cap) n (xs.set j u) (.cells (cur.setIfInBounds j u) t (0, 0)) := by
 refine ⟨by rw [List.length_set]; exact R.1, ?_⟩
 rcases R.2 with ⟨e, _⟩ | ⟨b', cap', cur', e1, e2, h1, h2, h3, h4⟩
 · cases e
 · injection e1 with e3 e4 e5
   injection e3 with e3; injection e3 with e3
   injection e2 with e2 _ _
   subst e3 e5 e2
   refine .inr ⟨b, cap, _, rfl, rfl, h1, h2, by simpa using h3, ?_⟩
   rw [Array.toList_setIfInBounds, List.take_set, h4]
end
open Go.ChangeShapes Go.WideShapes Go.ChangeAt Go.RowKit
end Go.Proofs.YtpnobpligchpiaaGreatDoor
