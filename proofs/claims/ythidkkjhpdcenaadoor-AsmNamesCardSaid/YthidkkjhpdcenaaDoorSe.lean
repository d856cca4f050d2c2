/- WALKS over package asm: addLine. -/
import Derived.Test.YthidkkjhpdcenaaDoorSd
import Derived.Test.YthidkkjhpdcenaaDoorOo
import Derived.RegionTactic
import Derived.Deep.RegionHeld3
import Derived.Deep.DrawnRows
import Derived.Deep.DeepCutAuto
import Derived.Deep.RegionLaw
import Derived.Maps.Range
namespace Go.Proofs.YthidkkjhpdcenaaDoor
set_option maxRecDepth 100000
open Go.RowKit
set_option linter.unusedVariables false

/-! ### what stands but for one block -/
/-- Below block 'base' the world w' is as w was, but for block g. -/
structure Near (base g : Nat) (w w' : World) : Prop where
  os : w'.os = w.os
  tape : w'.tape = w.tape
  output : w'.output = w.output
  size : w.heap.size ≤ w'.heap.size
  block : ∀ k, k < base → k ≠ g → w'.heap[k]? = w.heap[k]?
theorem Near.refl (base g : Nat) (w : World) : Near base g w w := ⟨rfl, rfl, rfl, Nat.le_refl _, fun _ _ _ => rfl⟩
theorem Near.trans {base g : Nat} {a b c : World} (h : Near base g a b) (k : Near base g b c) : Near base g a c :=
  ⟨k.os.trans h.os, k.tape.trans h.tape, k.output.trans h.output, Nat.le_trans h.size k.size, fun i hi hg => (k.block i hi hg).trans (h.block i hi hg)⟩
theorem Near.of_below {base g B : Nat} {w w' : World} (h : Below B w w') (hB : base ≤ B) : Near base g w w' := ⟨h.os, h.tape, h.output, h.size, fun k hk _ => h.block k (by omega)⟩
theorem Near.to_below {base g : Nat} {w w' : World} (h : Near base g w w') (hg : g ≤ base) : Below g w w' := ⟨h.os, h.tape, h.output, h.size, fun k hk => h.block k (by omega) (by omega)⟩
theorem Near.drew {base g : Nat} {a w : World} (h : Near base g a w) : Near base g a w.drew := ⟨h.os, h.tape, h.output, h.size, h.block⟩
theorem Near.alloc {base g : Nat} {a w : World} (h : Near base g a w) (hB : base ≤ w.heap.size) (o : Obj) : Near base g a (w.alloc o) :=
  h.trans ⟨rfl, rfl, rfl, by simp, fun k hk _ => Below.heap_alloc _ _ _ (by omega)⟩
theorem Near.setCell {base g : Nat} {a w : World} (h : Near base g a w) {p : Addr} (hp : p.block = g ∨ base ≤ p.block) (u : Value) : Near base g a (w.setCell p u) :=
  h.trans ⟨rfl, rfl, rfl, by simp [World.setCell], fun k hk hg => Below.heap_setCell _ _ _ _ (by omega)⟩
theorem Near.grown {base g : Nat} {a w w' : World} {row : Option Nat} (h : Near base g a w) (hg : w.grownBy w' row) (hB : base ≤ w.heap.size) (hr : ∀ k, row = some k → base ≤ k) : Near base g a w' :=
  h.trans ⟨hg.os, hg.tape, hg.output, hg.size, fun k hk _ => hg.block k (by omega) (fun e => by have := hr k e.symm; omega)⟩

/-! ### owned operations -/
theorem OO.below {w w' : World} {base B : Nat} {v : Value} {l : List O4} (h : OO w base v l) (hb : Below B w w') (hB : w.heap.size ≤ B) : OO w' base v l := by
  have hg : w.grownBy w' none := ⟨hb.os, hb.tape, hb.output, hb.size, fun i hi _ => hb.block i (by omega)⟩
  refine World.ownsRow.kept h hg ?_
  cases hv : v.ownBlock with
  | none => exact .inl rfl
  | some k => exact .inr (by simp)
theorem OO.ge {w : World} {base : Nat} {v : Value} {l : List O4} (h : OO w base v l) : ∀ k, v.ownBlock = some k → base ≤ k := fun k hk => (World.ownsRow.lt h k hk).1
theorem OO.lo {w : World} {base : Nat} {v : Value} {l : List O4} (h : OO w base v l) : ∀ k, v.ownBlock = some k → k < w.heap.size := fun k hk => (World.ownsRow.lt h k hk).2
theorem wp_append_op {w : World} {o : Oper} {a : Act} {K : Act → World → Prop} {Q : Exit → Act → World → Prop} (s x : Operand)
    (ho : o.op = .call { callee := .builtin .append, args := #[s, x], argTypes := #[24, 24] })
    (base : Nat) (v : Value) (os : List O4) (p : O4) (hs : a.eval s = v) (hown : OO w base v os)
    (g c : Nat) (hx : a.eval x = .slice (some ⟨g, 0, none⟩) 1 c) (hr : RO w w.heap.size (some ⟨g, 0, none⟩) [p]) (hlen : os.length ≤ 1000000) (hbase : base ≤ w.heap.size)
    (h : ∀ v' w', OO w' base v' (os ++ [p]) → w.grownBy w' v.ownBlock → K (a.put o.dst v') w') : o.wp Tryd.prog a w K Q := by
  obtain ⟨i0, hi0, hz0, hz1, hz2⟩ := info_parts op_info
  obtain ⟨b, off, e, _, hc⟩ := hr (by simp)
  have e0 := Option.some.inj e
  injection e0 with e1 e2
  subst e1 e2
  have hcell := hc 0 (by simp)
  obtain ⟨v', w', hrun, h2, h3, _, h5⟩ := run_append_own_at (P := Tryd.prog) w base 24 o.type 39 i0 (opV zeroO) 4 32 Tryd.underlying24 hi0 hz0 hz1 hz2 rfl (by decide) v os.length (opsL os) hown ⟨g, 0, none⟩ 1 c (opL p) rfl
    (fun j u hj => by
      rw [Addr.add_lit]
      have hj4 : j < 4 := by
        rcases Nat.lt_or_ge j 4 with h | h
        · exact h
        · rw [List.getElem?_eq_none (by show 4 ≤ j; omega)] at hj; cases hj
      obtain rfl | rfl | rfl | rfl : j = 0 ∨ j = 1 ∨ j = 2 ∨ j = 3 := by omega
      · injection hj with hj; rw [← hj]; exact hcell.1
      · injection hj with hj; rw [← hj]; exact hcell.2.1
      · injection hj with hj; rw [← hj]; exact hcell.2.2.1
      · injection hj with hj; rw [← hj]; exact hcell.2.2.2)
    (fun u hu => by
      simp only [opL, List.mem_cons, List.not_mem_nil, or_false] at hu
      rcases hu with rfl | rfl | rfl | rfl <;> rfl) (by unfold maxLen; omega) (by omega) hbase
  unfold Oper.wp execOp
  simp only [ho, resolve, invoke, builtin, Sem.run_bind, Sem.run_pure, Result.andThen_ok, List.map_toArray, List.map_cons, List.map_nil, hs, hx, hrun]
  exact h v' w' (by unfold OO; rw [List.length_append, opsL_snoc]; exact h2) h3
theorem step_append_op {w : World} {ops : Array Oper} {o : Oper} {a : Act} {K : Act → World → Prop} {Q : Exit → Act → World → Prop} {E : Prop} (hgd : o.guard = none) (s x : Operand)
    (ho : o.op = .call { callee := .builtin .append, args := #[s, x], argTypes := #[24, 24] })
    (base : Nat) (v : Value) (os : List O4) (p : O4) (hs : a.eval s = v) (hown : OO w base v os)
    (g c : Nat) (hx : a.eval x = .slice (some ⟨g, 0, none⟩) 1 c) (hr : RO w w.heap.size (some ⟨g, 0, none⟩) [p]) (hlen : os.length ≤ 1000000) (hbase : base ≤ w.heap.size)
    (h : ∀ v' w', OO w' base v' (os ++ [p]) → w.grownBy w' v.ownBlock → K (a.put o.dst v') w') :
    if Region.wanted o (yielded ops a.tmps) = true then Oper.wp Tryd.prog o a w K Q else E := by
  have hw : Region.wanted o (yielded ops a.tmps) = true := by simp [Region.wanted, hgd]
  rw [if_pos hw]
  exact wp_append_op s x ho base v os p hs hown g c hx hr hlen hbase h
theorem OO.form_n {w : World} {base : Nat} {v : Value} {os : List O4} (h : OO w base v os) (n : Nat) (hn : os.length = n) : ∃ A cap, v = .slice A n cap ∧ n ≤ cap ∧ cap ≤ maxLen := by
  subst hn
  obtain ⟨A, cap, h1, h2, h3, _⟩ := h.form
  exact ⟨A, cap, h1, h2, h3⟩
theorem new_op (w : World) (o : O4) : RO (w.alloc (oObj o)) (w.alloc (oObj o)).heap.size (some ⟨w.heap.size, 0, none⟩) [o] := fun _ => by
  refine ⟨w.heap.size, 0, rfl, by simp, fun j hj => ?_⟩
  obtain rfl : j = 0 := by simpa using hj
  have r := World.rowIs_alloc w #[.int .i64 o.k, .int .i64 o.a, .int .i64 o.b, .int .i64 o.c] 39 (opF o) (fun i hi => by
    have hi : i < 4 := hi
    obtain rfl | rfl | rfl | rfl : i = 0 ∨ i = 1 ∨ i = 2 ∨ i = 3 := by omega
    all_goals rfl)
  exact ⟨r.cell (show 0 < 4 by omega), r.cell (show 1 < 4 by omega), r.cell (show 2 < 4 by omega), r.cell (show 3 < 4 by omega)⟩

/-! ### a line's words -/
theorem wordsL_ne : ∀ (l cur : List UInt8), cur ≠ [] → wordsL cur l ≠ []
  | [], cur, h => by rw [wordsL, if_neg h]; simp
  | c :: r, cur, h => by
    rw [wordsL]
    split
    · first | simp | (rw [if_neg h]; simp)
    · exact wordsL_ne r _ (by simp)
theorem words_some {x : List UInt8} (h : trimL x = x) (hx : x ≠ []) : ∃ w0 rest, wordsL [] x = w0 :: rest := by
  cases x with
  | nil => exact absurd rfl hx
  | cons c r =>
    have hc := trimL_head h rfl
    have hn : wordsL [] (c :: r) ≠ [] := by
      rw [wordsL, if_neg (by simp [hc])]
      exact wordsL_ne r _ (by simp)
    cases e : wordsL [] (c :: r) with
    | nil => exact absurd e hn
    | cons w0 rest => exact ⟨w0, rest, rfl⟩
theorem wordsL_short : ∀ (l cur : List UInt8), ∀ y ∈ wordsL cur l, y.length ≤ cur.length + l.length
  | [], cur => by
    rw [wordsL]
    split
    · simp
    · intro y hy
      simp at hy
      subst hy
      simp
  | c :: r, cur => by
    rw [wordsL]
    intro y hy
    split at hy
    · split at hy
      · have := wordsL_short r [] y hy
        simp at this ⊢; omega
      · rw [List.mem_cons] at hy
        rcases hy with rfl | hy
        · simp
        · have := wordsL_short r [] y hy
          simp at this ⊢; omega
    · have := wordsL_short r _ y hy
      simp at this ⊢; omega
theorem words_small {s : ByteArray} {w0 : List UInt8} {rest : List (List UInt8)} (h : wrds s = w0 :: rest) (hs : s.size ≤ maxLen) : ∀ j (hj : j < rest.length), (str rest[j]).size ≤ maxLen := by
  intro j hj
  rw [str_size]
  have hm : rest[j] ∈ wordsL [] (lst s) := by
    show rest[j] ∈ wrds s
    rw [h]
    exact List.mem_cons_of_mem _ (List.getElem_mem hj)
  have := wordsL_short (lst s) [] _ hm
  rw [lst_len] at this
  exact Nat.le_trans (by simpa using this) hs

/-! ### addLine -/
def progF (t : List UInt8) (v : Value) (i : Nat) : Value := if i = 0 then .string (str t) else v
/-- what addLine answers -/
def Added (t : List UInt8) (os : List O4) (x : List UInt8) (base g : Nat) (w : World) (e : Ending) (w' : World) : Prop := Near base g w w' ∧ match addL t os x with
  | some (t', os') => ∃ v', e = .returned (.bool true) ∧ w'.rowIs g 26 2 (progF t' v') ∧ OO w' base v' os'
  | none => e = .returned (.bool false)
theorem Added.yes {t t' : List UInt8} {os os' : List O4} {x : List UInt8} {base g : Nat} {w w' : World} {v' : Value} (h : addL t os x = some (t', os')) (h1 : Near base g w w') (h2 : w'.rowIs g 26 2 (progF t' v')) (h3 : OO w' base v' os') :
    Added t os x base g w (.returned (.bool true)) w' := by
  unfold Added; rw [h]; exact ⟨h1, v', rfl, h2, h3⟩
theorem Added.no {t : List UInt8} {os : List O4} {x : List UInt8} {base g : Nat} {w w' : World} (h : addL t os x = none) (h1 : Near base g w w') : Added t os x base g w (.returned (.bool false)) w' := by
  unfold Added; rw [h]; exact ⟨h1, rfl⟩
theorem str_nil_iff (l : List UInt8) : ((str l).toList == (⟨#[]⟩ : ByteArray).toList) = decide (l = []) := str_eq_iff l []
theorem toList_nil_iff (s : ByteArray) : (s.toList.isEmpty) = decide (lst s = []) := by
  by_cases h : lst s = []
  · rw [empty_true s h]; simp [h]
  · rw [empty_false s h]; simp [h]

set_option maxHeartbeats 600000 in
theorem addline_any (s : ByteArray) (t : List UInt8) (os : List O4) (v : Value) (base g : Nat) (w : World) (hT : Tabs w) (hs : s.size ≤ 1000000) (hrow : w.rowIs g 26 2 (progF t v)) (ho : OO w base v os)
    (hg : g < base) (hB : base ≤ w.heap.size) (hx : trimL (lst s) = lst s) (hl : os.length ≤ 64) :
    Calls Tryd.prog 19 #[.pointer (some ⟨g, 0, none⟩), .string s] w (Added t os (lst s) base g w) := by
  have c0 := hrow.cell (show 0 < 2 by omega); have c1 := hrow.cell (show 1 < 2 by omega)
  have f0 := hrow.frozen 0; have f1 := hrow.frozen 1
  have HR := Lib.hid hrow; clear hrow
  have HO := Lib.hid ho; clear ho
  have e0 : progF t v 0 = .string (str t) := rfl
  have e1 : progF t v 1 = v := rfl
  rw [e0] at c0
  rw [e1] at c1
  have hne := toList_nil_iff s
  have hnt := toList_nil_iff (str t)
  rw [lst_str] at hnt
  by_cases h1 : lst s = []
  · have q1 : s.toList.isEmpty = true := by rw [hne]; simpa using h1
    have HF := Lib.hid (show addL t os (lst s) = some (t, os) by rw [h1]; exact addL_nil t os)
    clear hne hnt h1 hx
    go_enter Tryd.func19, Tryd.ntmps19
    go_wp2
    go_ret
    exact Added.yes HF.out (Near.refl _ _ _) HR.out HO.out
  · have q1 : s.toList.isEmpty = false := by rw [hne]; simpa using h1
    by_cases h2 : t = []
    · have q2 : (str t).toList.isEmpty = true := by rw [hnt]; simpa using h2
      have HP := Lib.hid (parsetitle_any s w (by unfold maxLen; omega))
      have hadd : addL t os (lst s) = (titleL (lst s)).map fun t' => (t', os) := by unfold addL; rw [if_neg h1, if_pos h2]
      have HA := Lib.hid hadd
      clear hne hnt hx h1 hadd h2
      cases ht : titleL (lst s) with
      | none =>
        have HF := Lib.hid (show addL t os (lst s) = none by rw [HA.out, ht]; rfl)
        rw [ht] at HP
        clear ht
        go_enter Tryd.func19, Tryd.ntmps19
        go_wp2_with fail
        refine HP.out.mono ?_
        rintro e w2 ⟨rfl, hb2⟩
        unfold titleV
        have r2 : w2.rowIs g 26 2 (progF t v) := rowIs_below HR.out hb2 (by omega)
        have d0 := r2.cell (show 0 < 2 by omega); have k0 := r2.frozen 0
        rw [e0] at d0
        go_wp2
        go_ret
        exact Added.no HF.out ((Near.of_below hb2 hB).setCell (p := ⟨g, 0, none⟩) (.inl rfl) _)
      | some z =>
        have HF := Lib.hid (show addL t os (lst s) = some (z, os) by rw [HA.out, ht]; rfl)
        rw [ht] at HP
        clear ht
        go_enter Tryd.func19, Tryd.ntmps19
        go_wp2_with fail
        refine HP.out.mono ?_
        rintro e w2 ⟨rfl, hb2⟩
        unfold titleV
        have r2 : w2.rowIs g 26 2 (progF t v) := rowIs_below HR.out hb2 (by omega)
        have d0 := r2.cell (show 0 < 2 by omega); have k0 := r2.frozen 0
        rw [e0] at d0
        have HR2 := Lib.hid r2
        have HO2 := Lib.hid (HO.out.below hb2 (Nat.le_refl _))
        clear r2
        go_wp2
        go_ret
        refine Added.yes (v' := v) HF.out ((Near.of_below hb2 hB).setCell (p := ⟨g, 0, none⟩) (.inl rfl) _) ((World.rowIs.set HR2.out 0 (.string (str z))).congr (fun i hi => ?_)) (ownsRow_setCell_below HO2.out (by simp; omega) _)
        obtain rfl | rfl : i = 0 ∨ i = 1 := by omega
        all_goals rfl
    · have q2 : (str t).toList.isEmpty = false := by rw [hnt]; simpa using h2
      obtain ⟨w0, rest, hw⟩ := words_some hx h1
      have HP := Lib.hid (parseop_any s w hT hs w0 rest hw (words_small hw (by unfold maxLen; omega)))
      have hadd : addL t os (lst s) = if os.length < 64 then (readW (wrds s)).map fun o => (t, os ++ [o]) else none := by unfold addL; rw [if_neg h1, if_neg h2]; rfl
      have HA := Lib.hid hadd
      clear hne hnt hx h1 hadd h2 hw
      go_enter Tryd.func19, Tryd.ntmps19
      go_wp2_with fail
      refine HP.out.mono ?_
      rintro e w2 ⟨o, bb, rfl, hb2, n1, n2⟩
      unfold opV
      obtain ⟨W, hW⟩ : ∃ W, W = w2.alloc (.cells #[.int .i64 o.k, .int .i64 o.a, .int .i64 o.b, .int .i64 o.c] 39) := ⟨_, rfl⟩
      have hbW : Below w2.heap.size w2 W := by rw [hW]; exact (Below.refl _ _).alloc (Nat.le_refl _) _
      have hbw : Below w.heap.size w W := hb2.trans (hbW.mono hb2.size)
      have hz : w2.heap.size < W.heap.size := by rw [hW]; simp
      have hro : W.rowIs w2.heap.size 39 4 (opF o) := by
        rw [hW]
        exact World.rowIs_alloc w2 _ 39 (opF o) (fun i hi => by
          have hi : i < 4 := hi
          obtain rfl | rfl | rfl | rfl : i = 0 ∨ i = 1 ∨ i = 2 ∨ i = 3 := by omega
          all_goals rfl)
      have t0 : W.cell? ⟨w2.heap.size, 0, none⟩ = some (.int .i64 o.k) := hro.cell (show 0 < 4 by omega)
      have t1 : W.cell? ⟨w2.heap.size, 1, none⟩ = some (.int .i64 o.a) := hro.cell (show 1 < 4 by omega)
      have t2 : W.cell? ⟨w2.heap.size, 2, none⟩ = some (.int .i64 o.b) := hro.cell (show 2 < 4 by omega)
      have t3 : W.cell? ⟨w2.heap.size, 3, none⟩ = some (.int .i64 o.c) := hro.cell (show 3 < 4 by omega)
      have r2 : W.rowIs g 26 2 (progF t v) := rowIs_below HR.out hbw (by omega)
      have d1 := r2.cell (show 1 < 2 by omega); have k1 := r2.frozen 1
      rw [e1] at d1
      have HR2 := Lib.hid r2
      have HO2 := Lib.hid (HO.out.below hbw (Nat.le_refl _))
      have hsz := hb2.size
      clear r2 c0 c1 f0 f1 HP hro
      go_wp2_with fail
      rw [← hW]
      have HWW := Lib.hid hW; clear hW
      have HX : Hid (OO (W.drew.alloc (oObj o)) base v os) := World.ownsRow.alloc (World.ownsRow.drew HO2.out) _
      have HQ := Lib.hid (new_op W.drew o)
      have hv := Lib.hid HO2.out.lo
      have hv2 := Lib.hid HO2.out.ge
      have hne : some g ≠ v.ownBlock := fun e => by have := hv2.out g e.symm; omega
      have hne7 : some w2.heap.size ≠ v.ownBlock := fun e => by have := HO.out.lo _ e.symm; omega
      have hb3 : Below W.heap.size W (W.drew.alloc (oObj o)) := ((Below.refl _ _).drew).alloc (Nat.le_refl _) _
      have hgW : g < W.heap.size := by omega
      have HK := Lib.hid (show os.length ≤ 1000000 by omega)
      have HBs := Lib.hid (show base ≤ (W.drew.alloc (oObj o)).heap.size by simp; omega)
      have d2 : (W.drew.alloc (.cells #[.int .i64 o.k, .int .i64 o.a, .int .i64 o.b, .int .i64 o.c] 39)).cell? ⟨g, 1, none⟩ = some v := (hb3.cell (p := ⟨g, 1, none⟩) hgW).trans d1
      have k2 : (W.drew.alloc (.cells #[.int .i64 o.k, .int .i64 o.a, .int .i64 o.b, .int .i64 o.c] 39)).frozen? ⟨g, 1, none⟩ = false := (hb3.frozen (p := ⟨g, 1, none⟩) hgW).trans k1
      have s0 := (hb3.cell (p := ⟨w2.heap.size, 0, none⟩) hz).trans t0; have s1 := (hb3.cell (p := ⟨w2.heap.size, 1, none⟩) hz).trans t1
      have s2 := (hb3.cell (p := ⟨w2.heap.size, 2, none⟩) hz).trans t2; have s3 := (hb3.cell (p := ⟨w2.heap.size, 3, none⟩) hz).trans t3
      have n00 := World.new_ne W ⟨g, 1, none⟩ d1
      have n0 := World.new_ne W ⟨w2.heap.size, 0, none⟩ t0; have n1' := World.new_ne W ⟨w2.heap.size, 1, none⟩ t1
      have n2' := World.new_ne W ⟨w2.heap.size, 2, none⟩ t2; have n3' := World.new_ne W ⟨w2.heap.size, 3, none⟩ t3
      have d1' : W.drew.cell? ⟨g, 1, none⟩ = some v := d1
      have k1' : W.drew.frozen? ⟨g, 1, none⟩ = false := k1
      have t0' : W.drew.cell? ⟨w2.heap.size, 0, none⟩ = some (.int .i64 o.k) := t0
      have t1' : W.drew.cell? ⟨w2.heap.size, 1, none⟩ = some (.int .i64 o.a) := t1
      have t2' : W.drew.cell? ⟨w2.heap.size, 2, none⟩ = some (.int .i64 o.b) := t2
      have t3' : W.drew.cell? ⟨w2.heap.size, 3, none⟩ = some (.int .i64 o.c) := t3
      go_upto_region 2 with fail
      go_cut [] (fun wx => ∃ v3, Hid (wx.rowIs g 26 2 (progF t v3)) ∧ Hid (OO wx base v3 (os ++ [o])) ∧ Near base g w wx)
      case first =>
        go_region_law (refine step_append_op (by rfl) (.tmp 18) (.tmp 20) (by rfl) base v os o (by rfl) HX.out W.heap.size 1 (by rfl) HQ.out HK.out HBs.out ?_; intro v3 w3 o3 g3; obtain ⟨A3, c3, rfl, hc3, hc4⟩ := o3.form_n (os.length + 1) (by simp); have O3 := Lib.hid o3; have G3 := Lib.hid g3; have u0 := g3.cell s0 hne7; have u1 := g3.cell s1 hne7; have u2 := g3.cell s2 hne7; have u3 := g3.cell s3 hne7; have d3 := g3.cell d2 hne; have k3 := (g3.frozen_far ⟨g, 1, none⟩ (by simp; omega) hne).trans k2; clear o3 g3)
        all_goals
          go_wp2_with fail
          go_meet
          have r3 : w3.rowIs g 26 2 (progF t v) := World.rowIs.of_block (World.rowIs.of_block HR2.out (hb3.block g hgW)) (G3.out.block g (by simp; omega) hne)
          refine ⟨_, (World.rowIs.set r3 1 (.slice A3 (os.length + 1) c3)).congr (fun i hi => ?_), ownsRow_setCell_below O3.out (by simp; omega) _, ?_⟩
          · obtain rfl | rfl : i = 0 ∨ i = 1 := by omega
            all_goals rfl
          · exact ((((Near.of_below hbw hB).drew).alloc (by show base ≤ W.heap.size; omega) _).grown G3.out HBs.out hv2.out).setCell (p := ⟨g, 1, none⟩) (.inl rfl) _
      case rest =>
        obtain ⟨v3, r3, o3, hn⟩ := hcut
        obtain ⟨A3, c3, rfl, hc3, hc4⟩ := o3.out.form_n (os.length + 1) (by simp)
        have p1 : wc.cell? ⟨g, 1, none⟩ = some (.slice A3 (os.length + 1) c3) := r3.out.cell (show 1 < 2 by omega)
        clear d1 k1 t0 t1 t2 t3 d2 k2 s0 s1 s2 s3 d1' k1' t0' t1' t2' t3'
        cases bb with
        | false =>
          have HF := Lib.hid (show addL t os (lst s) = none by rw [HA.out, n2 rfl]; split <;> rfl)
          clear n1 n2
          go_wp2
          go_ret
          exact Added.no HF.out hn
        | true =>
          have hr := n1 rfl
          by_cases hlt : os.length < 64
          · have HF := Lib.hid (show addL t os (lst s) = some (t, os ++ [o]) by rw [HA.out, hr, if_pos hlt]; rfl)
            have hq : ((os.length : Int) + 1 ≤ 64) := by omega
            clear n1 n2 hr
            go_wp2
            go_ret
            exact Added.yes HF.out hn r3.out o3.out
          · have HF := Lib.hid (show addL t os (lst s) = none by rw [HA.out, if_neg hlt])
            have hq : ¬ ((os.length : Int) + 1 ≤ 64) := by omega
            clear n1 n2 hr
            go_wp2
            go_ret
            exact Added.no HF.out hn
end Go.Proofs.YthidkkjhpdcenaaDoor
