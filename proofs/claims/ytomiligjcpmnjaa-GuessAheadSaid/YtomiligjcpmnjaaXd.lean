/- WALKS over package queue: New; a queue beside a law's own blocks. -/
import Derived.Test.YtomiligjcpmnjaaXc
namespace Go.Proofs.Ytomiligjcpmnjaa
set_option maxRecDepth 100000
open Go.RowKit
set_option linter.unusedVariables false
set_option linter.unusedSimpArgs false

theorem ptr_info : (Try.prog.info? 50).map (fun i => (i.zero, i.size, i.bytes)) = some (some (.pointer none), 1, 8) := by kernel_rfl
def madeP (k : Nat) : Obj := .cells (madeCells #[.pointer none] k) 50
theorem make_p (k : Nat) (hk : k ≤ 8) (W : World) : (Instr.makeSlice 56 (.int .i64 (k : Int)) (.int .i64 (k : Int))).run Try.prog W = .ok (.slice (some ⟨W.heap.size, 0, none⟩) k k) (W.alloc (madeP k)) :=
  run_make_row' 56 50 (.pointer none) 8 Try.underlying56 ptr_info rfl .i64 .i64 k (by omega) (by omega) W
theorem ptrF_next (xs : List Ln) (x : Ln) (k : Nat) (hk : xs.length = k) (i : Nat) : (if i = k then pB x.b else ptrF xs i) = ptrF (xs ++ [x]) i := by
  subst hk
  unfold ptrF
  by_cases e : i = xs.length
  · subst e; rw [if_pos rfl, List.getElem?_append_right (Nat.le_refl _), Nat.sub_self]; rfl
  · rw [if_neg e]
    rcases Nat.lt_or_ge i xs.length with h | h
    · rw [List.getElem?_append_left h]
    · rw [List.getElem?_eq_none h, List.getElem?_eq_none (by rw [List.length_append]; show xs.length + 1 ≤ i; omega)]
set_option maxHeartbeats 1000000 in
theorem qnew_any (w : World) (n d : Int) (N K : Nat) (hN : (N : Int) = min (max n 2) 8) (hK : (K : Int) = min (max d 0) 8) :
    Calls Try.prog 10 #[.int .i64 n, .int .i64 d] w fun e w' => ∃ q r xs, e = .returned (pB q) ∧ QM w' q r xs ∧ xs.map Ln.l = List.replicate N (zB K) ∧ Below w.heap.size w w' ∧ ∀ k, QB q r xs k → w.heap.size ≤ k := by
  obtain ⟨m, hm⟩ : ∃ m : Int, max n 2 = m := ⟨_, rfl⟩
  rw [hm] at hN
  have hN2 : N ≤ 8 := by omega
  have e2 : min m 8 = (N : Int) := hN.symm
  have hmk := make_p N hN2 w
  have HR1 := Lib.hid (World.rowIs_made w (.pointer none) N 50)
  have HB1 := Lib.hid ((Below.refl w.heap.size w).alloc (Nat.le_refl _) (madeP N))
  have HNew := Lib.hid (fun W => inew_any W d K hK)
  have hK8 : K ≤ 8 := by omega
  have HK8 := Lib.hid hK8; have HN8 := Lib.hid hN2
  clear hN hK hK8
  go_enter Try.func10, Try.ntmps10
  go_wp2_with fail
  clear hmk e2 hm
  go_loopw [6, 13] (fun a i wr => ∃ (k : Nat) (xs : List Ln), i = .int .i64 (k : Int) ∧ k ≤ N ∧ Hid (xs.length = k) ∧ Hid (wr.rowIs w.heap.size 50 N (ptrF xs)) ∧ Hid (LS wr w.heap.size xs) ∧ Hid (xs.map Ln.l = List.replicate k (zB K)) ∧ Hid (Below w.heap.size w wr) ∧ Hid (∀ x ∈ xs, w.heap.size ≤ x.b)) (fun _ i _ => N - (intOf i).toNat)
  case atStart => exact ⟨0, [], rfl, by omega, rfl, HR1.out, LS.nil _ _, rfl, HB1.out, fun x hx => (by cases hx)⟩
  case round =>
    obtain ⟨k, xs, rfl, hk, hxl, hr, hls, hmp, hb, hge⟩ := hrel
    clear HB1 HR1
    by_cases hlt : k < N
    · have HC := Lib.hid (HNew.out wr)
      have hkN : (k : Int) < (N : Int) := by omega
      have hk2 : Hid (k + 1 ≤ N) := hlt
      have hms : Hid (N - (k + 1) < N - k) := by show _ < _; omega
      go_wp2_with (go_at_call 23; (with_reducible refine (HC.out).mono ?_); rintro e w1 ⟨rfl, hm, hb1, hs1⟩; have hr1 := World.rowIs.of_block hr.out (hb1.block w.heap.size (World.rowIs.lt hr.out)); have c5 := World.rowIs.cell hr1 hlt; have f5 := World.rowIs.frozen hr1 k; have HR2 := Lib.hid hr1; have HM := Lib.hid hm; have HB2 := Lib.hid hb1; clear hm hb1 hs1 hr1)
      have hrb : w.heap.size < wr.heap.size := World.rowIs.lt hr.out
      have hr3 := (World.rowIs.set HR2.out k (pB wr.heap.size)).congr (fun i _ => ptrF_next xs ⟨wr.heap.size, zB K⟩ k hxl.out i)
      have hx1 : ∀ x ∈ xs, x.b < wr.heap.size := fun x hx => (hls.out.line x hx).1.lt
      have hls3 : LS (w1.setCell ⟨w.heap.size, k, none⟩ (pB wr.heap.size)) w.heap.size (xs ++ [⟨wr.heap.size, zB K⟩]) := by
        refine LS.snoc (hls.out.same fun x hx => ?_) ⟨wr.heap.size, zB K⟩ ?_ (by show (zB K).length ≤ 1000; rw [zB_len]; have := HK8.out; omega) (by show wr.heap.size ≠ w.heap.size; omega) (fun y hy => by have := hx1 y hy; show y.b ≠ wr.heap.size; omega)
        · rw [heap_setCell_other _ _ _ _ (hls.out.line x hx).2.2]
          exact HB2.out.block x.b (hx1 x hx)
        · show LM _ wr.heap.size _ (zB K)
          rw [zB_len]
          exact HM.out.other _ _ (by show wr.heap.size ≠ w.heap.size; omega)
      have hmp3 : (xs ++ [(⟨wr.heap.size, zB K⟩ : Ln)]).map Ln.l = List.replicate (k + 1) (zB K) := by rw [List.map_append, hmp.out, List.replicate_succ']; rfl
      have hb3 := (hb.out.trans (HB2.out.mono hb.out.size)).setCell (p := ⟨w.heap.size, k, none⟩) (Nat.le_refl _) (pB wr.heap.size)
      have hge3 : ∀ x ∈ xs ++ [(⟨wr.heap.size, zB K⟩ : Ln)], w.heap.size ≤ x.b := fun x hx => by
        rcases List.mem_append.1 hx with hx | hx
        · exact hge.out x hx
        · obtain rfl := List.mem_singleton.1 hx; show w.heap.size ≤ wr.heap.size; omega
      have H3 := Lib.hid hr3; have H4 := Lib.hid hls3; have H5 := Lib.hid hmp3; have H6 := Lib.hid hb3; have H7 := Lib.hid hge3
      have hxl3 : Hid ((xs ++ [(⟨wr.heap.size, zB K⟩ : Ln)]).length = k + 1) := by show _ = _; rw [List.length_append, hxl.out]; rfl
      clear hr3 hls3 hmp3 hb3 hge3 hx1 hrb
      go_roundw
      case rel => exact ⟨k + 1, _, by go_num, hk2.out, hxl3, H3, H4, H5, H6, H7⟩
      case measure => simp [intOf]; have := hms.out; omega
    · obtain rfl : k = N := by omega
      clear HNew
      go_wp2
      go_ret
      refine ⟨wr.heap.size, w.heap.size, xs, rfl, ⟨?_, ?_, ?_, ?_, ?_⟩, hmp.out, hb.out.alloc hb.out.size _, ?_⟩
      · rw [hxl.out]; exact heap_alloc_new wr _
      · rw [hxl.out]; exact hr.out.alloc _
      · exact hls.out.same fun x hx => Below.heap_alloc _ _ _ (hls.out.line x hx).1.lt
      · have := World.rowIs.lt hr.out; omega
      · exact fun x hx => by have := (hls.out.line x hx).1.lt; omega
      · intro j hj
        rcases hj with rfl | rfl | ⟨x, hx, rfl⟩
        · exact hb.out.size
        · exact Nat.le_refl _
        · exact hge.out x hx

/-! ### a queue beside a law's own blocks -/
/-- the blocks of O are as they were -/
def Same (O : Nat → Prop) (w w' : World) : Prop := ∀ k, O k → w'.heap[k]? = w.heap[k]?
/-- what stood ahead of the law is as it was; block q is a queue of the lines xs; the law's own blocks O are none of the queue's -/
structure QF (w0 w : World) (q r : Nat) (xs : List Ln) (O : Nat → Prop) : Prop where
  qm : QM w q r xs
  be : Below w0.heap.size w0 w
  qb : ∀ k, QB q r xs k → w0.heap.size ≤ k ∧ ¬ O k
  ob : ∀ k, O k → w0.heap.size ≤ k ∧ k < w.heap.size
/-- what the law made in between is its own -/
def Grab (O : Nat → Prop) (w w' : World) (k : Nat) : Prop := O k ∨ (w.heap.size ≤ k ∧ k < w'.heap.size)
section
variable {w0 w w' : World} {q r : Nat} {xs : List Ln} {O O' : Nat → Prop}
theorem QF.belows (h : QF w0 w q r xs O) (hb : Below w.heap.size w w') : QF w0 w' q r xs O :=
  ⟨h.qm.belows hb, h.be.trans (hb.mono h.be.size), h.qb, fun k hk => ⟨(h.ob k hk).1, Nat.lt_of_lt_of_le (h.ob k hk).2 hb.size⟩⟩
theorem QF.same (h : QF w0 w q r xs O) (hb : Below w.heap.size w w') : Same O w w' := fun k hk => hb.block k (h.ob k hk).2
theorem QF.drew (h : QF w0 w q r xs O) : QF w0 w.drew q r xs O := h.belows (Below.refl _ _).drew
/-- the law's own row grows, or one of its blocks is written -/
theorem QF.grew {row : Option Nat} (h : QF w0 w q r xs O) (hg : w.grownBy w' row) (hr : ∀ k, row = some k → O k) (ho : ∀ k, O' k → O k ∨ (w.heap.size ≤ k ∧ k < w'.heap.size)) : QF w0 w' q r xs O' :=
  ⟨h.qm.same fun k hk => hg.block k (h.qm.lt hk) (fun e => (h.qb k hk).2 (hr k e.symm)), h.be.grown hg h.be.size (fun k e => (h.ob k (hr k e)).1), fun k hk => ⟨(h.qb k hk).1, fun e => (ho k e).elim (h.qb k hk).2 (fun h6 => by have := h.qm.lt hk; omega)⟩,
    fun k hk => (ho k hk).elim (fun h6 => ⟨(h.ob k h6).1, Nat.lt_of_lt_of_le (h.ob k h6).2 hg.size⟩) (fun h6 => ⟨Nat.le_trans h.be.size h6.1, h6.2⟩)⟩
theorem QF.add (h : QF w0 w q r xs O) (hb : Below w.heap.size w w') (ho : ∀ k, O' k → O k ∨ (w.heap.size ≤ k ∧ k < w'.heap.size)) : QF w0 w' q r xs O' :=
  h.grew (row := none) ⟨hb.os, hb.tape, hb.output, hb.size, fun k hk _ => hb.block k hk⟩ (fun k e => (by cases e)) ho
theorem QF.less (h : QF w0 w q r xs O) (ho : ∀ k, O' k → O k) : QF w0 w q r xs O' := h.add (Below.refl _ _) (fun k hk => .inl (ho k hk))
theorem QF.grab (h : QF w0 w q r xs O) (hb : Below w.heap.size w w') : QF w0 w' q r xs (Grab O w w') := h.add hb fun _ hk => hk
theorem QF.wrote {x : Nat} (h : QF w0 w q r xs O) (hg : w.grownBy w' (some x)) (hx : O x) : QF w0 w' q r xs O :=
  h.grew hg (fun k e => Option.some.inj e ▸ hx) (fun k hk => .inl hk)
theorem QF.lt (h : QF w0 w q r xs O) {k : Nat} (hk : O k) : k < w.heap.size := (h.ob k hk).2
/-- a line that was put on -/
theorem QF.put (h : QF w0 w q r xs O) (p : Nat) (x : Ln) (hx : xs[p]? = some x) (l : List UInt8) (n : Nat) (hn : l.length = n) (hl : LM w' x.b n l) (h1 : n ≤ 1000) (hg : w.grownBy w' (some x.b)) : QF w0 w' q r (xs.set p ⟨x.b, l⟩) O ∧ Same O w w' := by
  have hxb : QB q r xs x.b := .inr (.inr ⟨x, List.mem_of_getElem? hx, rfl⟩)
  exact ⟨⟨h.qm.put p x hx l n hn hl h1 hg, h.be.grown hg h.be.size (fun k e => by cases e; exact (h.qb _ hxb).1), fun k hk => h.qb k (QB.set xs p x hx l hk), fun k hk => ⟨(h.ob k hk).1, Nat.lt_of_lt_of_le (h.ob k hk).2 hg.size⟩⟩,
    fun k hk => hg.block k (h.ob k hk).2 (fun e => (h.qb _ hxb).2 (Option.some.inj e ▸ hk))⟩
theorem qf_new (w0 w : World) (h : Below w0.heap.size w0 w) (O : Nat → Prop) (ho : ∀ k, O k → w0.heap.size ≤ k ∧ k < w.heap.size) (n d : Int) (N K : Nat) (hN : (N : Int) = min (max n 2) 8) (hK : (K : Int) = min (max d 0) 8) :
    Calls Try.prog 10 #[.int .i64 n, .int .i64 d] w fun e w' => ∃ q r xs, e = .returned (pB q) ∧ QF w0 w' q r xs O ∧ xs.map Ln.l = List.replicate N (zB K) ∧ Same O w w' :=
  (qnew_any w n d N K hN hK).mono fun e w' ⟨q, r, xs, he, h1, h2, h3, h4⟩ => ⟨q, r, xs, he, ⟨h1, h.trans (h3.mono h.size), fun k hk => ⟨Nat.le_trans h.size (h4 k hk), fun e => by have := (ho k e).2; have := h4 k hk; omega⟩, fun k hk => ⟨(ho k hk).1, Nat.lt_of_lt_of_le (ho k hk).2 h3.size⟩⟩, h2, fun k hk => h3.block k (ho k hk).2⟩
end
def noB (_ : Nat) : Prop := False
theorem no_noB (w0 w : World) : ∀ k, noB k → w0.heap.size ≤ k ∧ k < w.heap.size := fun _ h => h.elim
end Go.Proofs.Ytomiligjcpmnjaa
