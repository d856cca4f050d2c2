/- WALKS over package snap: read, Pages. -/
import Derived.Test.YtkmkjfbbpeocdaaWj
namespace Go.Proofs.Ytkmkjfbbpeocdaa
set_option maxRecDepth 100000
open Go.RowKit Go.Maps
set_option linter.unusedVariables false
set_option linter.unusedSimpArgs false

/-- eight numbers of which the first i are told -/
def rdL (f : Nat → Int) (i : Nat) : List Int := (List.range 8).map fun j => if j < i then f j else 0
theorem rdL_len (f : Nat → Int) (i : Nat) : (rdL f i).length = 8 := by unfold rdL; simp
theorem rdL_zero (f : Nat → Int) : rdL f 0 = zG 8 := rfl
theorem rdL_step (f : Nat → Int) (i : Nat) (h : i < 8) : (rdL f i).set i (f i) = rdL f (i + 1) := by
  apply List.ext_getElem?
  intro j
  by_cases hj : j < 8
  · by_cases e : j = i
    · subst e
      rw [List.getElem?_set_self (by rw [rdL_len]; exact hj)]
      unfold rdL; simp [hj]
    · rw [List.getElem?_set_ne (fun x => e x.symm)]
      unfold rdL
      simp only [List.getElem?_map, List.getElem?_range hj, Option.map_some]
      by_cases e2 : j < i
      · rw [if_pos e2, if_pos (by omega)]
      · rw [if_neg e2, if_neg (by omega)]
  · rw [List.getElem?_eq_none (by rw [List.length_set, rdL_len]; omega), List.getElem?_eq_none (by rw [rdL_len]; omega)]
theorem rdL_get (f : Nat → Int) (j : Nat) (h : j < 8) : (rdL f 8)[j]? = some (f j) := by
  unfold rdL; simp [h]
/-- what read's loop holds: the array at a, the store as it was -/
structure RdL (w wr : World) (a : Nat) (g : List Int) : Prop where
  be : Below w.heap.size w wr
  arr : GA wr (a + 1) 72 g
  res : GA wr a 72 (zG 8)
theorem RdL.below {w wr w3 : World} {a : Nat} {g : List Int} (h : RdL w wr a g) (hb : Below wr.heap.size wr w3) : Hid (RdL w w3 a g) :=
  ⟨h.be.trans (hb.mono h.be.size), h.arr.below hb h.arr.lt, h.res.below hb h.res.lt⟩
theorem RdL.put {w wr : World} {a : Nat} {g : List Int} (h : RdL w wr a g) (ha : w.heap.size ≤ a) (i : Nat) (v : Int) (g' : List Int) (hg : g.set i v = g') : Hid (RdL w (wr.setCell ⟨a + 1, i, none⟩ (.int .i32 v)) a g') :=
  ⟨h.be.setCell (by simp; omega) _, hg ▸ h.arr.set i v, h.res.other _ _ (by simp)⟩
theorem RdL.start (w : World) : RdL w ((w.alloc (.cells (gC (zG 8)) 72)).alloc (.cells (gC (zG 8)) 72)) w.heap.size (zG 8) :=
  ⟨((Below.refl _ _).alloc (Nat.le_refl _) _).alloc (by simp) _, GA.new_at _ _ _ _ (by simp), (GA.new w _ _).alloc _⟩
set_option maxHeartbeats 1000000 in
theorem read_in (w : World) (S P A M : Nat) (l : List Sh) (L : List Pc) (h : SM w S P A M l L) (p : Int) (q : Nat) (hq : p = q + 1) (hql : q < l.length) (hr : (shAt l q).r ≠ 0) :
    Calls Try.prog 43 #[.pointer (some ⟨S, 0, none⟩), .int .i64 p] w fun e w' => e = .returned (.agg (gC (rdL (pg l p).on 8))) ∧ Below w.heap.size w w' := by
  have hz := zeroPage
  have HH := Lib.hid h
  have HQ := Lib.hid hq
  have HQl := Lib.hid hql
  have HR := Lib.hid hr
  have HP := Lib.hid (pg_at l p q hq)
  have hS := h.ltS
  obtain ⟨f, hf⟩ : ∃ f, f = (pg l p).on := ⟨_, rfl⟩
  have HF := Lib.hid hf
  rw [← hf]
  clear h hq hql hr hf
  have HSt := Lib.hid (RdL.start w)
  have z8 : (zG 8).length = 8 := zG_length 8
  have HZ8 := Lib.hid z8
  clear z8
  go_enter Try.func43, Try.ntmps43
  go_wp2_with fail
  go_loopw [7] (fun i wr => ∃ j : Nat, i = .int .i64 j ∧ j ≤ 8 ∧ Hid (RdL w wr w.heap.size (rdL f j))) (fun i _ => 8 - (intOf i).toNat)
  case atStart => exact ⟨0, rfl, by omega, by rw [rdL_zero]; exact HSt⟩
  case round =>
    obtain ⟨j, rfl, hj, hK⟩ := hrel
    by_cases hlt : j < 8
    · have hjc : (j : Int) < 8 := by omega
      have HM := Lib.hid (HH.out.belows hK.out.be)
      have cs := HM.out.c0
      have HG := Lib.hid (get_in wr P A l HM.out.rm p (j : Int) q j HQ.out HQl.out HR.out rfl hlt (f j) (by rw [HF.out, HP.out]))
      have HS2 := Lib.hid (rdL_step f j hlt)
      have ca := hK.out.arr.cell j (by rw [rdL_len]; exact hlt)
      have fa := hK.out.arr.frozen j
      have HK2 := hK.out.put (Nat.le_refl _) j (f j) _ HS2.out
      generalize f j = v at HG HK2
      go_wp2_with (go_at_call 45; with_reducible refine HG.out.mono ?_; rintro e w4 ⟨rfl, rfl⟩)
      go_roundw
      case rel => exact ⟨j + 1, by go_num, by omega, HK2⟩
      case measure => simp [intOf]; omega
    · obtain rfl : j = 8 := by omega
      have h8 := rdL_len f 8
      have H8 := Lib.hid h8
      clear h8
      go_wp2_with (first
        | (with_reducible refine wpList_load_g rfl 72 (.tmp 5) rfl (w.heap.size + 1) (by with_unfolding_all rfl) 72 (rdL f 8) hK.out.arr Try.underlying72 (by rw [H8.out]; exact infoPage) ?_)
        | (with_reducible refine wpList_store_g rfl 72 (.tmp 4) (.tmp 23) rfl w.heap.size (by with_unfolding_all rfl) 72 (zG 8) (rdL f 8) hK.out.res (by with_unfolding_all rfl) (by rw [H8.out, HZ8.out]) (by rw [H8.out]; exact infoPage) ?_; intro w7 G7 S7 R7))
      refine bodyPost_ret (results_g rfl G7 rfl Try.underlying72 (by rw [H8.out]; exact infoPage)) rfl ⟨rfl, ?_⟩
      exact hK.out.be.grown R7 hK.out.be.size (fun k e => by have := Option.some.inj e; omega)
end Go.Proofs.Ytkmkjfbbpeocdaa
