/- WALKS over package input: copy into a line; Put. -/
import Derived.Test.YtomiligjcpmnjaaIb
import Derived.Deep.Heap
import Derived.Deep.RegionLaw
import Derived.Deep.RegionWith
namespace Go.Proofs.Ytomiligjcpmnjaa
set_option maxRecDepth 100000
open Go.RowKit
set_option linter.unusedVariables false
set_option linter.unusedSimpArgs false

theorem rowIs_setCells (b : Nat) (t : TypeId) (n : Nat) : ∀ (vs : List Value) (o : Nat) (w : World) (f : Nat → Value), w.rowIs b t n f → (w.setCells b o vs).rowIs b t n (fun j => if j < o then f j else (vs[j - o]?).getD (f j))
  | [], o, w, f, h => h.congr (fun i _ => by by_cases e : i < o <;> simp [e])
  | v :: r, o, w, f, h => by
    refine (rowIs_setCells b t n r (o + 1) (w.setCell ⟨b, o, none⟩ v) _ (h.set o v)).congr (fun i _ => ?_)
    by_cases e : i < o
    · rw [if_pos e, if_pos (by omega), if_neg (by omega)]
    · rw [if_neg e]
      by_cases e2 : i = o
      · subst e2; simp
      · obtain ⟨q, rfl⟩ : ∃ q, i = o + 1 + q := ⟨i - o - 1, by omega⟩
        rw [if_neg (by omega), if_neg e2, show o + 1 + q - (o + 1) = q by omega, show o + 1 + q - o = q + 1 by omega, List.getElem?_cons_succ]
theorem grown_setCells (b : Nat) : ∀ (vs : List Value) (o : Nat) (w : World), w.grownBy (w.setCells b o vs) (some b)
  | [], _, w => ⟨rfl, rfl, rfl, Nat.le_refl _, fun _ _ _ => rfl⟩
  | v :: r, o, w => by
    have h := grown_setCells b r (o + 1) (w.setCell ⟨b, o, none⟩ v)
    exact ⟨h.os, h.tape, h.output, Nat.le_trans (Nat.le_of_eq (by simp [World.setCell])) h.size, fun k hk hne => (h.block k (by simpa [World.setCell] using hk) hne).trans (Deep.blk_setCell_other _ _ _ _ (fun e => hne (by rw [e])))⟩
theorem lmF_put (n : Int) (l y : List UInt8) (i : Nat) : (if i < 1 + l.length then lmF n l i else ((y.map vb)[i - (1 + l.length)]?).getD (lmF n l i)) = lmF n (l ++ y) i := by
  unfold lmF
  by_cases e0 : i = 0
  · subst e0; rw [if_pos (by omega), if_pos rfl, if_pos rfl]
  · obtain ⟨j, rfl⟩ : ∃ j, i = 1 + j := ⟨i - 1, by omega⟩
    rw [if_neg e0, if_neg e0, show 1 + j - 1 = j by omega, show 1 + j - (1 + l.length) = j - l.length by omega]
    by_cases e : j < l.length
    · rw [if_pos (by omega), List.getElem?_append_left e]
    · rw [if_neg (by omega), List.getElem?_append_right (by omega), List.getElem?_map, List.getElem?_eq_none (show l.length ≤ j by omega)]
      cases y[j - l.length]? <;> rfl
theorem run_copy_line (w : World) (b B : Nat) (n0 : Int) (l x : List UInt8) (h : LM w b n0 l) (hl : l.length ≤ 1000) (d A : Option Addr) (dc cap : Nat) (hd : l.length < 1000 → d = some ⟨b, 1 + l.length, none⟩) (hx : RB w B A x) (ty : TypeId)
    (k : Nat) (hk : k = 1000 - l.length) (n : Nat) (hn : n = min k x.length) :
    ∃ w', (Builtin.copy_ #[23, 23] ty #[.slice d k dc, .slice A x.length cap]).run Try.prog w = .ok (goInt n) w' ∧ LM w' b n0 (l ++ x.take n) ∧ w'.heap.size = w.heap.size ∧ w.grownBy w' (some b) := by
  have hs : (Try.prog.info? 5).map (·.size) = some 1 := by kernel_rfl
  by_cases h0 : n = 0
  · subst h0
    refine ⟨w, ?_, by simpa using h, rfl, ⟨rfl, rfl, rfl, Nat.le_refl _, fun _ _ _ => rfl⟩⟩
    exact run_copy_none w _ _ _ 5 d A k dc x.length cap Try.underlying23 hs (by show min x.length k = 0; omega)
  · obtain ⟨b2, off, rfl, hB, hc⟩ := hx (by omega)
    have hln : (x.take n).length = n := by rw [List.length_take]; omega
    have hr := run_copy_cells (P := Try.prog) w 23 23 ty 5 b (1 + l.length) k dc ⟨b2, off, none⟩ x.length cap ((x.take n).map vb) Try.underlying23 hs
      (by rw [List.length_map, hln]; show n = min x.length k; omega)
      (fun j v hv => by
        rw [List.getElem?_map] at hv
        by_cases hj : j < n
        · rw [List.getElem?_eq_getElem (by omega)] at hv
          rw [Addr.add_lit, hc j (by omega), ← hv]
          simp
        · rw [List.getElem?_eq_none (by omega)] at hv; cases hv)
      (fun j hj => by
        rw [List.length_map, hln] at hj
        rw [World.rowIs.cell h (i := 1 + l.length + j) (by omega)]; rfl)
      (fun j _ => h.frozen _)
      (fun v hv => by obtain ⟨q, _, rfl⟩ := List.mem_map.1 hv; rfl)
    rw [List.length_map, hln] at hr
    rw [hd (by omega)]
    refine ⟨_, hr, ?_, ?_, grown_setCells b _ _ w⟩
    · exact (rowIs_setCells b _ _ _ _ w _ h).congr (fun i _ => lmF_put n0 l (x.take n) i)
    · have : ∀ (vs : List Value) (o : Nat) (w : World), (w.setCells b o vs).heap.size = w.heap.size := by
        intro vs
        induction vs with
        | nil => intro o w; rfl
        | cons v r ih => intro o w; rw [World.setCells, ih]; simp [World.setCell]
      exact this _ _ _
theorem step_copy_line {ops : Array Oper} {op : Oper} {a : Act} {w : World} {K : Act → World → Prop} {Q : Exit → Act → World → Prop} {E : Prop} (hgd : op.guard = none) (ds s : Operand)
    (ho : op.op = .call { callee := .builtin .copy, args := #[ds, s], argTypes := #[23, 23] })
    (b B : Nat) (n0 : Int) (l x : List UInt8) (h : LM w b n0 l) (hl : l.length ≤ 1000) (d A : Option Addr) (dc cap m : Nat) (hd : l.length < 1000 → d = some ⟨b, 1 + l.length, none⟩) (hx : RB w B A x) (hm : x.length = m)
    (k : Nat) (hk : k = 1000 - l.length) (n : Nat) (hn : n = min k x.length) (hdv : a.eval ds = .slice d k dc) (hsv : a.eval s = .slice A m cap)
    (hK : ∀ w', LM w' b n0 (l ++ x.take n) → w'.heap.size = w.heap.size → w.grownBy w' (some b) → K (a.put op.dst (.int .i64 n)) w') :
    if Region.wanted op (yielded ops a.tmps) = true then Oper.wp Try.prog op a w K Q else E := by
  have hw : Region.wanted op (yielded ops a.tmps) = true := by simp [Region.wanted, hgd]
  rw [if_pos hw]
  subst hm
  obtain ⟨w', hrun, h1, h2, h3⟩ := run_copy_line w b B n0 l x h hl d A dc cap hd hx op.type k hk n hn
  unfold Oper.wp
  simp [execOp, ho, resolve, invoke, builtin, hdv, hsv, hrun, Result.andThen]
  exact hK w' h1 h2 h3
theorem info1 : (Try.prog.info? 5).map (·.size) = some 1 := by kernel_rfl
theorem arrLen : Try.prog.arrayLen 67 = 1000 := by kernel_rfl
theorem elem41 : Try.prog.elem 67 = 5 := by kernel_rfl
theorem under41 : Try.prog.underlying 67 = some (.array (Try.prog.arrayLen 67) (Try.prog.elem 67)) := by kernel_rfl
theorem size_u8 (W : World) : (sizeOf 5).run Try.prog W = .ok 1 W := by
  obtain ⟨i, hi, h1⟩ := Option.map_eq_some_iff.1 info1
  simp [sizeOf, typeInfo, hi, h1]
theorem slice_from (b L : Nat) (hL : L ≤ 1000) (W : World) : (Instr.sliceAt 67 (.pointer (some ⟨b, 1, none⟩)) (some (.int .i64 (L : Int))) none none).run Try.prog W = .ok (.slice (some ⟨b, if 1000 = L then 1 else 1 + L, none⟩) (1000 - L) (1000 - L)) W := by
  rw [run_sliceAt_array_l W 67 ⟨b, 1, none⟩ under41 .i64 L (by omega) (by rw [arrLen]; omega), arrLen, elem41, size_u8]
  simp only [Result.andThen_ok, slicedAt, Int.toNat_natCast]
  by_cases e : 1000 = L
  · rw [if_pos e, if_pos e]
  · rw [if_neg e, if_neg e, Addr.add_lit, Nat.mul_one]
theorem slice_both (b L H : Nat) (h : L ≤ H) (hL : H ≤ 1000) (W : World) : (Instr.sliceAt 67 (.pointer (some ⟨b, 1, none⟩)) (some (.int .i64 (L : Int))) (some (.int .i64 (H : Int))) none).run Try.prog W = .ok (.slice (some ⟨b, if 1000 = L then 1 else 1 + L, none⟩) (H - L) (1000 - L)) W := by
  rw [run_sliceAt_array_lh W 67 ⟨b, 1, none⟩ under41 .i64 .i64 L H (by omega) (by omega) (by rw [arrLen]; omega), arrLen, elem41, size_u8]
  simp only [Result.andThen_ok, slicedAt, Int.toNat_natCast]
  by_cases e : 1000 = L
  · rw [if_pos e, if_pos e]
  · rw [if_neg e, if_neg e, Addr.add_lit, Nat.mul_one]
theorem grown_store {w w' : World} {b : Nat} (h : w.grownBy w' (some b)) (i : Nat) (v : Value) : w.grownBy (w'.setCell ⟨b, i, none⟩ v) (some b) :=
  ⟨h.os, h.tape, h.output, by simpa [World.setCell] using h.size, fun k hk hne => (Deep.blk_setCell_other _ _ _ _ (fun e => hne (by rw [e]))).trans (h.block k hk hne)⟩
theorem put_nil (w : World) (f : Int) (v : Value) : Calls Try.prog 21 #[.pointer none, .int .i64 f, v] w fun e w' => e = .returned (.tuple #[.int .i64 0, .int .i64 7]) ∧ w = w' := by
  go_enter Try.func21, Try.ntmps21
  go_wp2
  go_ret2
  exact ⟨rfl, rfl⟩
theorem put_more (w : World) (b : Nat) (n : Int) (l : List UInt8) (h : LM w b n l) (f : Int) (v : Value) (hf : n < f) : Calls Try.prog 21 #[pB b, .int .i64 f, v] w fun e w' => e = .returned (.tuple #[.int .i64 0, .int .i64 2]) ∧ w = w' := by
  have c0 := h.known
  clear h
  go_enter Try.func21, Try.ntmps21
  go_wp2
  go_ret2
  exact ⟨rfl, rfl⟩
set_option maxHeartbeats 1000000 in
theorem put_in (w : World) (b : Nat) (l x : List UInt8) (A : Option Addr) (cap B f p L X : Nat) (hL : l.length = L) (hX : x.length = X) (h : LM w b L l) (hl : L ≤ 1000) (hx : RB w B A x) (hc : X ≤ cap) (hm : cap ≤ maxLen) (hf : f ≤ L) (hp : min (L - f) X = p) (m : Nat) (hmm : X - p = m) (n : Nat) (hn : min (1000 - L) m = n) :
    Calls Try.prog 21 #[pB b, .int .i64 f, .slice A X cap] w fun e w' => e = .returned (.tuple #[.int .i64 n, .int .i64 (if n < m then 4 else 0)]) ∧
      LM w' b (L + n : Nat) (l ++ (x.drop p).take n) ∧ w.grownBy w' (some b) := by
  have c0 := h.known
  unfold maxLen at hm
  have HL := Lib.hid hL; have HX := Lib.hid hX; have H := Lib.hid h; have HR := Lib.hid hx
  have hp1 : min ((L : Int) - (f : Int)) (X : Int) = (p : Int) := by omega
  have hpX : (p : Int) ≤ (X : Int) := by omega
  have hN := Lib.hid hn; have hM := Lib.hid hmm; have hP := Lib.hid hp
  clear h hx hL hX hn hmm hp
  have c1 : w.drew.cell? ⟨b, 0, none⟩ = some (.int .i64 (L : Int)) := c0
  have hfl : Hid ((x.drop p).length = m) := by unfold Hid; rw [List.length_drop, HX.out]; exact hM.out
  obtain ⟨D, hD⟩ : ∃ D, D = (if 1000 = L then 1 else 1 + L) := ⟨_, rfl⟩
  have hsl := slice_from b L hl w.drew
  rw [← hD] at hsl
  have HD := Lib.hid hD; clear hD
  by_cases hcp : cap = p
  · subst hcp
    go_enter Try.func21, Try.ntmps21
    go_wp2_with fail
    go_region_law (refine step_copy_line (by rfl) (.tmp 41) (.tmp 42) (by rfl) b B L l (x.drop cap) (by exact H.out) (by have := HL.out; omega) (some ⟨b, D, none⟩) A (1000 - L) 0 0 (by intro h; rw [HD.out, HL.out]; have := HL.out; rw [if_neg (by omega)]) (by have := HX.out; have e : x.drop cap = [] := List.drop_eq_nil_of_le (by omega); rw [e]; exact RB.nil _ _ _) (by have := hfl.out; have := hM.out; omega) (1000 - L) (by have := HL.out; omega) n (by have := hfl.out; have := hN.out; have := hM.out; omega) (by rfl) (by rfl) ?_; intro w3 H3 S3 G3)
    all_goals
      have c3 := H3.known
      have f3 := H3.frozen 0
      have hLn : L + n ≤ 1000 := by have := hN.out; omega
      have hn0 : n = 0 := by have := hN.out; have := hM.out; have := hP.out; omega
      have hm0 : m = 0 := by have := hM.out; have := hP.out; omega
      subst hn0 hm0
      have HH := Lib.hid H3; have HG : Hid (w.grownBy w3 (some b)) := Lib.hid ⟨G3.os, G3.tape, G3.output, G3.size, G3.block⟩; clear H3 G3 c0 c1 hsl S3
      go_wp2_with fail
      go_ret2
      exact ⟨rfl, by simpa using HH.out.setKnown (L : Int), grown_store HG.out _ _⟩
  · go_enter Try.func21, Try.ntmps21
    go_wp2_with fail
    go_region_law (refine step_copy_line (by rfl) (.tmp 41) (.tmp 42) (by rfl) b B L l (x.drop p) (by exact H.out) (by have := HL.out; omega) (some ⟨b, D, none⟩) (A.map (·.add p)) (1000 - L) (cap - p) (X - p) (by intro h; rw [HD.out, HL.out]; have := HL.out; rw [if_neg (by omega)]) (by have := HR.out.cut p cap (by have := HX.out; have := hP.out; omega) (by have := HX.out; omega); rw [if_neg hcp] at this; exact this) (by rw [hM.out]; exact hfl.out) (1000 - L) (by have := HL.out; omega) n (by have := hfl.out; have := hN.out; have := hM.out; omega) (by rfl) (by rfl) ?_; intro w3 H3 S3 G3)
    all_goals
      have c3 := H3.known
      have f3 := H3.frozen 0
      have hLn : L + n ≤ 1000 := by have := hN.out; omega
      have hmo : X - p = m := hM.out
      have HH := Lib.hid H3; have HG : Hid (w.grownBy w3 (some b)) := Lib.hid ⟨G3.os, G3.tape, G3.output, G3.size, G3.block⟩; clear H3 G3 c0 c1 hsl S3
      by_cases hlt : n < m
      · go_wp2_with fail
        go_ret2
        exact ⟨by first | rfl | (rw [if_pos hlt]; rfl), HH.out.setKnown _, grown_store HG.out _ _⟩
      · have hd : decide ((n : Int) < (m : Int)) = false := by simp; omega
        go_wp2_with fail
        go_ret2
        exact ⟨by first | rfl | (rw [if_neg hlt]; rfl), HH.out.setKnown _, grown_store HG.out _ _⟩
end Go.Proofs.Ytomiligjcpmnjaa
