/- SnapAll: WALK: same. -/
import Derived.Test.YtkmkjfbbpeocdaaYb
import Derived.Test.YtkmkjfbbpeocdaaKr
namespace Go.Proofs.Ytkmkjfbbpeocdaa
set_option maxRecDepth 100000
open Go.RowKit Go.Maps
set_option linter.unusedVariables false
set_option linter.unusedSimpArgs false

theorem exec_load_gm {P : Program} {S : World → Prop} {op : Oper} {a : Act} (ty : TypeId) (x : Operand) (ho : op.op = .load ty x)
    (b o : Nat) (hx : a.eval x = .pointer (some ⟨b, o, none⟩)) (g : List Int) (hS : ∀ w, S w → w.rangeAt b o (gC g).toList) {n : Nat} {e : TypeId} (hu : P.underlying ty = some (.array n e)) (hi : (P.info? ty).map (·.size) = some g.length) (w : World) (hw : S w) :
    (execOp a.eval op).run P w = .ok (.value (.agg (gC g))) w := by
  have := run_loadVar_mid (P := P) w b o ty (gC g).toList _ (hS w hw) hu rfl (by rw [hi]; simp [gC_size])
  unfold execOp
  simp only [ho, hx, Instr.loadAt, Instr.sureAddr, Sem.run_bind, Sem.run_pure, Result.andThen_ok, this]
/-! ### the live pictures' numbers by place -/
def liveCnt (L : List Pc) (i : Nat) : Nat := ((List.range i).filter (liveK L)).length
theorem liveCnt_snoc (L : List Pc) (i : Nat) : liveCnt L (i + 1) = liveCnt L i + (if liveK L i = true then 1 else 0) := by
  unfold liveCnt
  rw [List.range_succ, List.filter_append, List.length_append]
  congr 1
  by_cases e : liveK L i = true <;> simp [e]
theorem liveCnt_le (L : List Pc) (i : Nat) : liveCnt L i ≤ i := Nat.le_trans (List.length_filter_le _ _) (by simp)
theorem liveCnt_all (L : List Pc) : liveCnt L L.length = (liveIds L).length := by unfold liveCnt liveIds; rw [List.length_map]
theorem range_split (n i : Nat) (h : i < n) : List.range n = List.range i ++ i :: (List.range n).drop (i + 1) := by
  have h1 : (List.range n).take i = List.range i := by rw [List.take_range]; congr 1; omega
  have h2 : (List.range n).drop i = i :: (List.range n).drop (i + 1) := by rw [List.drop_eq_getElem_cons (by simpa using h)]; simp
  rw [← h2, ← h1, List.take_append_drop]
theorem live_at (L : List Pc) (i : Nat) (hi : i < L.length) (hl : liveK L i = true) : (liveIds L)[liveCnt L i]? = some ((i : Int) + 1) := by
  unfold liveIds liveCnt
  rw [List.getElem?_map, range_split L.length i hi, List.filter_append, List.filter_cons, if_pos hl, List.getElem?_append_right (Nat.le_refl _), Nat.sub_self]
  rfl
theorem live_lt (L : List Pc) (i j : Nat) (hi : i < L.length) (hl : liveK L i = true) (hj : j < liveCnt L i) : ∃ y, (liveIds L)[j]? = some y ∧ y < (i : Int) + 1 := by
  have h1 := live_at L i hi hl
  have h2 := (List.getElem?_eq_some_iff.1 h1).1
  refine ⟨_, List.getElem?_eq_getElem (by omega), ?_⟩
  have h3 := List.pairwise_iff_getElem.1 (liveIds_sorted L) j (liveCnt L i) (by omega) h2 hj
  rw [(List.getElem?_eq_some_iff.1 h1).2] at h3
  exact h3
/-! ### a picture of the book in a variable -/
theorem picL_len (k : Nat) (p : Bp) : (picL k p).length = 38 := by unfold picL; simp
theorem picL_at (k : Nat) (p : Bp) (j : Nat) (h : j < 38) : (picL k p)[j]? = some (picC k p j) := by unfold picL; simp [h]
theorem picL_one (k : Nat) (p : Bp) : ∀ v ∈ picL k p, v.oneCell' = true := fun v hv => by
  unfold picL at hv
  obtain ⟨j, _, rfl⟩ := List.mem_map.1 hv
  unfold picC
  split
  · rfl
  · split
    · rfl
    · split <;> rfl
def picA (k : Nat) (p : Bp) : Array Value := (picL k p).toArray
theorem picA_size (k : Nat) (p : Bp) : (picA k p).size = 38 := by unfold picA; rw [List.size_toArray, picL_len]
theorem picA_one (k : Nat) (p : Bp) : (picA k p).all (·.oneCell') = true := all_oneCell_toArray (picL_one k p)
theorem infoBp : (Try.prog.info? 69).map (·.size) = some 38 := by kernel_rfl
def PV (w : World) (b k : Nat) (p : Bp) : Prop := w.heap[b]? = some (.cells (picA k p) 69 (0, 0))
theorem PV.cell {w : World} {b k : Nat} {p : Bp} (h : PV w b k p) (j : Nat) (hj : j < 38) : w.cell? ⟨b, j, none⟩ = some (picC k p j) := by
  rw [cell_of_row w b j _ _ _ h]
  unfold picA
  rw [List.getElem?_toArray, picL_at k p j hj]
theorem PV.game {w : World} {b k : Nat} {p : Bp} (h : PV w b k p) (hg : p.g.length = 32) : w.rangeAt b 2 (gC p.g).toList := fun j v hv => by
  have hj : j < 32 := by
    have := (List.getElem?_eq_some_iff.1 hv).1
    rw [Array.length_toList, gC_size] at this; omega
  rw [h.cell (2 + j) (by omega)]
  unfold picC
  rw [if_neg (by omega), if_neg (by omega), if_pos (by omega), show 2 + j - 2 = j by omega]
  unfold gC at hv
  simp [show j < p.g.length by omega, vi] at hv
  rw [← hv]
  simp [List.getD, show j < p.g.length by omega]
theorem PV.page {w : World} {b k : Nat} {p : Bp} (h : PV w b k p) (j : Nat) (hj : j < 4) : w.cell? ⟨b, 34 + j, none⟩ = some (.int .i64 (p.pn j)) := by
  rw [h.cell (34 + j) (by omega)]
  unfold picC
  rw [if_neg (by omega), if_neg (by omega), if_neg (by omega), show 34 + j - 34 = j by omega]
def zP : Array Value := #[.int .i64 0, .int .i64 0, .int .i32 0, .int .i32 0, .int .i32 0, .int .i32 0, .int .i32 0, .int .i32 0, .int .i32 0, .int .i32 0, .int .i32 0, .int .i32 0, .int .i32 0, .int .i32 0, .int .i32 0, .int .i32 0, .int .i32 0, .int .i32 0, .int .i32 0, .int .i32 0, .int .i32 0, .int .i32 0, .int .i32 0, .int .i32 0, .int .i32 0, .int .i32 0, .int .i32 0, .int .i32 0, .int .i32 0, .int .i32 0, .int .i32 0, .int .i32 0, .int .i32 0, .int .i32 0, .int .i64 0, .int .i64 0, .int .i64 0, .int .i64 0]
theorem zeroPic (w : World) : (zeroValue 69).run Try.prog w = .ok (.agg zP) w :=
  (zero_of_info (P := Try.prog) (t := 69) (v := .agg zP) (n := 38) (by kernel_rfl)).1 w
theorem new_pic (w : World) : (w.alloc (.cells zP 69)).heap[w.heap.size]? = some (.cells zP 69 (0, 0)) := heap_alloc_last w _
theorem zP_size : zP.size = 38 := rfl
theorem zP_sz (k : Nat) (p : Bp) : zP.size = (picA k p).size := by rw [picA_size]; rfl
theorem infoBpA (k : Nat) (p : Bp) : (Try.prog.info? 69).map (·.size) = some (picA k p).size := by rw [picA_size]; exact infoBp
theorem wpList_load_pic {ops : Array Oper} {rest : List Oper} {op : Oper} {a : Act} {w : World} {Q : Exit → Act → World → Prop} (hgd : op.guard = none) (x : Operand) (ho : op.op = .load 69 x)
    (b k : Nat) (hx : a.eval x = .pointer (some ⟨b, k * 38, none⟩)) (p : Bp) (h : ∀ j, j < 38 → w.cell? ⟨b, k * 38 + j, none⟩ = some (picC k p j)) {fs : _} (hu : Try.prog.underlying 69 = some (.struct fs))
    (hq : wpList Try.prog ops Q rest (a.put op.dst (.agg (picA k p))) w) : wpList Try.prog ops Q (op :: rest) a w :=
  wpList_load_mid hgd 69 x ho b (k * 38) hx (picL k p) _ (fun j v hv => by
    have hj : j < 38 := by have := (List.getElem?_eq_some_iff.1 hv).1; rw [picL_len] at this; exact this
    rw [picL_at k p j hj] at hv
    rw [h j hj, hv]) hu rfl (by rw [infoBp, picL_len]) hq
/-- a world that comes behind another one -/
def Aft (w u : World) : Prop := Below w.heap.size w u
theorem Aft.step {w u u' : World} (h : Aft w u) (hb : Below u.heap.size u u') : Hid (Aft w u') := Below.trans h (hb.mono (Below.size h))
theorem Aft.trans {w u u' : World} (h : Aft w u) (hb : Aft u u') : Aft w u' := Below.trans h (Below.mono hb (Below.size h))
theorem Aft.refl (w : World) : Aft w w := Below.refl _ _
/-- the row of the live pictures' numbers -/
def LR (w : World) (q : Option Addr) (ids : List Int) : Prop := ∀ (j : Nat) (y : Int), ids[j]? = some y → ∃ g, q = some ⟨g, 0, none⟩ ∧ g < w.heap.size ∧ w.cell? ⟨g, j, none⟩ = some (.int .i64 y)
theorem LR.aft {w u : World} {q : Option Addr} {ids : List Int} (h : LR w q ids) (hb : Aft w u) : LR u q ids := fun j y hj => by
  obtain ⟨g, h1, h2, h3⟩ := h j y hj
  exact ⟨g, h1, Nat.lt_of_lt_of_le h2 (Below.size hb), (Below.cell hb (p := ⟨g, j, none⟩) h2).trans h3⟩
theorem live_row (w : World) (S P A M : Nat) (l : List Sh) (L : List Pc) (h : SM w S P A M l L) (hL : L.length ≤ 1000) :
    Calls Try.prog 25 #[.pointer (some ⟨S, 0, none⟩)] w fun e w' => ∃ q cap, e = .returned (.slice q (liveIds L).length cap) ∧ LR w' q (liveIds L) ∧ Below w.heap.size w w' := by
  refine (live_any w S P A M l L h hL).mono fun e w' ⟨v, he, ho, hb⟩ => ?_
  rcases ho.2 with ⟨rfl, h0⟩ | ⟨g, cap, cur, rfl, _, hg, _, _, _, h5⟩
  · have hnil : liveIds L = [] := List.eq_nil_of_length_eq_zero h0
    exact ⟨none, 0, by rw [he, hnil]; rfl, fun j y hj => by rw [hnil] at hj; simp at hj, hb⟩
  · refine ⟨_, cap, he, fun j y hj => ⟨g, rfl, (Array.getElem?_eq_some_iff.1 hg).1, ?_⟩, hb⟩
    have hl := (List.getElem?_eq_some_iff.1 hj).1
    rw [cell_of_row _ _ _ _ _ _ hg]
    have e1 : (cur.toList.take ((liveIds L).length * 1))[j]? = some (encZ y) := by
      rw [h5, List.getElem?_map, hj]; rfl
    rw [List.getElem?_take_of_lt (by omega), Array.getElem?_toList] at e1
    exact e1
theorem PV.aft {w u : World} {b k : Nat} {p : Bp} (h : PV w b k p) (hb : Aft w u) : PV u b k p := (Below.block hb b (Array.getElem?_eq_some_iff.1 h).1).trans h
theorem GA.aft {w u : World} {b : Nat} {t : TypeId} {g : List Int} (h : GA w b t g) (hb : Aft w u) : GA u b t g := GA.below h hb h.lt
theorem stored_aft {W w3 : World} {o : Obj} (R : (W.alloc o).grownBy w3 (some W.heap.size)) : Aft W w3 := ((Below.refl _ _).alloc (Nat.le_refl _) o).grown R (by simp) (fun k e => by have := Option.some.inj e; omega)
theorem PgO.aft {w u : World} {B : Nat} {v : Value} {f : Nat → Int} (h : PgO w B v f) (hb : Aft w u) : PgO u B v f := by
  obtain ⟨g, cap, h1, h2, h3, h4, h5⟩ := h
  exact ⟨g, cap, h1, h2, Nat.lt_of_lt_of_le h3 (Below.size hb), h4, fun i hi => (Below.cell hb (p := ⟨g, i, none⟩) h3).trans (h5 i hi)⟩
theorem pages_len (w : World) (S P A M : Nat) (l : List Sh) (L : List Pc) (h : SM w S P A M l L) (x : Int) (hx : rng x) (k : Nat) (c : Pc) (hk : x = k + 1) (hc : L[k]? = some c) (hr : 0 < c.r) :
    Calls Try.prog 27 #[.pointer (some ⟨S, 0, none⟩), .int .i64 x] w fun e w' => ∃ pp cp, e = .returned (.slice pp 4 cp) ∧ Below w.heap.size w w' :=
  (spages_in w S P A M l L h x hx k c hk hc hr).mono fun e w' ⟨v, he, ⟨g, cap, hv, _⟩, hb⟩ => ⟨some ⟨g, 0, none⟩, cap, by rw [he, hv], hb⟩
set_option maxHeartbeats 16000000 in
theorem same_any (w : World) (S P A M : Nat) (l : List Sh) (L : List Pc) (h : SM w S P A M l L) (I : INV l L) (B : List Bp) (n : Nat) (f : Int → Int) (K : BK l L B n f) (Bb : Nat) (v : Value) (N : Int) (hN : N = l.length) (hm : BM w Bb v n N B) (hB : B.length ≤ 60) (hn : n ≤ 1000)
    (hok : ∀ (k : Nat) (p : Bp), B[k]? = some p → p.g.length = 32) :
    Calls Try.prog 14 #[.pointer (some ⟨Bb, 0, none⟩), .pointer (some ⟨S, 0, none⟩)] w fun e w' => e = .returned (.bool true) ∧ Below w.heap.size w w' := by
  have hz := zeroState
  have hzp := zeroPic
  have hbd := buildState
  have z32 := Lib.hid (zG_length 32)
  have hLB := K.len
  have HLi := Lib.hid (live_row w S P A M l L h (by omega))
  obtain ⟨nl, hnl⟩ : ∃ nl, nl = (liveIds L).length := ⟨_, rfl⟩
  rw [← hnl] at HLi
  have HNl2 := Lib.hid hnl
  have hnl60 : nl ≤ 60 := by have := liveIds_len L; omega
  clear hnl
  have HSM := Lib.hid h
  have HI := Lib.hid I
  have HK := Lib.hid K
  have HBM := Lib.hid hm
  have HOk := Lib.hid hok
  have HB := Lib.hid hB
  have HNn := Lib.hid hn
  have HNl := Lib.hid hN
  obtain ⟨q0, cap0, rfl, _⟩ := hm.row
  have HLB := Lib.hid hLB
  clear h I K hm hok hN hLB
  go_enter Try.func14, Try.ntmps14
  go_wp2_with (go_at_call 25; with_reducible refine HLi.out.mono ?_; rintro e w1 ⟨lq, lcap, rfl, hlr, hb1⟩; have HLR := Lib.hid hlr; have HB1 := Lib.hid hb1; clear hlr hb1)
  have HSM1 := Lib.hid (fun (u : World) (hu : Aft w1 u) => (HSM.out.belows HB1.out).belows hu)
  have HBM1 := Lib.hid (fun (u : World) (hu : Aft w1 u) => (HBM.out.belows HB1.out).belows hu)
  go_loopw [6, 7] (fun q i wr => ∃ (k : Nat), i = .int .i64 k ∧ q = .int .i64 (liveCnt L k : Nat) ∧ k ≤ B.length ∧ Hid (Aft w1 wr)) (fun _ i _ => B.length - (numI i).toNat)
  case atStart => exact ⟨0, rfl, rfl, by omega, Aft.refl _⟩
  case round =>
    obtain ⟨i, rfl, rfl, hi, hAr⟩ := hrel
    have hBr := HBM1.out wr hAr.out
    have cb0 := hBr.c0
    by_cases hlt : i < B.length
    · have hic : (i : Int) < (B.length : Int) := by omega
      obtain ⟨p, hp⟩ : ∃ p, B[i]? = some p := ⟨_, List.getElem?_eq_getElem hlt⟩
      have hiL : i < L.length := by have := HLB.out; omega
      obtain ⟨c, hc⟩ : ∃ c, L[i]? = some c := ⟨_, List.getElem?_eq_getElem hiL⟩
      obtain ⟨hcr, hlive⟩ := HK.out.each i c p hc hp
      obtain ⟨rq, rcap, hrv, hrow⟩ := hBr.row
      obtain ⟨rb, rfl, hrb, hcell⟩ := hrow i p hp
      obtain ⟨rfl, _, rfl⟩ : q0 = some ⟨rb, 0, none⟩ ∧ True ∧ cap0 = rcap := by injection hrv with e1 e2 e3; exact ⟨e1, trivial, e3⟩
      have HCell := Lib.hid hcell
      have hg32 := HOk.out i p hp
      have HG32 := Lib.hid hg32
      have HIx := Lib.hid (show rng ((i : Int) + 1) from ⟨by omega, by have := HB.out; omega⟩)
      have HPcC := Lib.hid hc
      have HPp := Lib.hid hp
      have HCnt := Lib.hid (liveCnt_snoc L i)
      have HCle := Lib.hid (liveCnt_le L i)
      have hi60 : (i : Int) ≤ 60 := by omega
      obtain ⟨m, hm⟩ : ∃ m, m = liveCnt L i := ⟨_, rfl⟩
      rw [← hm] at HCnt HCle ⊢
      have HM := Lib.hid hm
      have hm60 : m ≤ 60 := by have := HCle.out; omega
      clear hm
      obtain ⟨r, hr⟩ : ∃ r, r = p.r := ⟨_, rfl⟩
      have hPr1 : picC i p 1 = .int .i64 r := by rw [hr]; rfl
      clear hBr hrow hrv hcell
      obtain ⟨g, hg⟩ : ∃ g, g = p.g := ⟨_, rfl⟩
      rw [← hg] at hg32 HG32
      have HgP := Lib.hid hg
      have HrP := Lib.hid hr
      by_cases hlv : 0 < c.r
      · have hr0 : r > 0 := by omega
        obtain ⟨hgm, hon⟩ := hlive hlv
        have HSt := Lib.hid (fun (u : World) (hu : Aft w1 u) => sstate_in u S P A M l L (HSM1.out u hu) HI.out ((i : Int) + 1) HIx.out i c rfl HPcC.out hlv)
        have hgg : gmL l c.on = g := by rw [hgm, hg]
        rw [hgg] at HSt
        have HLv := Lib.hid hlv
        have HOn := Lib.hid hon
        clear hgm hon hgg hlive hcr hc hp hg hr hlv
        obtain ⟨yg, hyg⟩ : ∃ yg, yg = g := ⟨_, rfl⟩
        have HYgE := Lib.hid hyg
        have HNP := Lib.hid (new_pic wr)
        have HYg : Hid (yg.length = 32) := by rw [Hid, hyg]; exact HG32.out
        rw [← hyg] at HSt
        clear hyg
        go_wp2_with (first
          | (with_reducible refine wpList_load_pic rfl (.tmp 31) rfl rb i (by with_unfolding_all rfl) p HCell.out Try.underlying69 ?_)
          | (with_reducible refine wpList_store_blk rfl 69 (.tmp 8) (.tmp 32) rfl wr.heap.size ?_ 69 zP (picA i p) ?_ ?_ ?_ ?_ ?_ ?_))
        · with_unfolding_all rfl
        · exact HNP.out
        · with_unfolding_all rfl
        · exact zP_sz _ _
        · exact infoBpA _ _
        · exact picA_one _ _
        intro w3 G3 S3 R3
        have HV : Hid (PV w3 wr.heap.size i p) := G3
        have HA3 := Lib.hid (hAr.out.trans (stored_aft R3))
        have cid : w3.cell? ⟨wr.heap.size, 0, none⟩ = some (.int .i64 ((i : Int) + 1)) := HV.out.cell 0 (by omega)
        clear G3 S3 R3
        go_wp2_with (first
          | (go_at_call 19; refine (HSt.out _ HA3.out).mono ?_; rintro e w4 ⟨rfl, hb4⟩; have HV4 := Lib.hid (HV.out.aft hb4); have HA4 := Lib.hid (HA3.out.trans hb4); clear hb4)
          | (with_reducible refine wpList_store_g rfl 38 (.tmp 9) (.tmp 38) rfl _ (by with_unfolding_all rfl) 38 (zG 32) yg (GA.new _ _ _) (by with_unfolding_all rfl) (by rw [HYg.out, z32.out]) (by rw [HYg.out]; exact infoState) ?_; intro w5 G5 S5 R5; have HY5 := Lib.hid G5; have HV5 := Lib.hid (HV4.out.aft (stored_aft R5)); have HA5 := Lib.hid (HA4.out.trans (stored_aft R5)); clear G5 S5 R5))
        obtain ⟨p8, hp8⟩ : ∃ p8, p8 = wr.heap.size := ⟨_, rfl⟩
        obtain ⟨y9, hy9⟩ : ∃ y9, y9 = w4.heap.size := ⟨_, rfl⟩
        rw [← hp8] at HV5 ⊢
        rw [← hy9] at HY5 ⊢
        clear hp8 hy9 HV HV4 HA3 HA4 cid
        have HKp := Lib.hid (fun (u : World) (hu : Aft w5 u) => And.intro ((HV5.out.aft hu).cell 0 (by omega)) (And.intro (((HV5.out.aft hu).cell 1 (by omega)).trans (congrArg some hPr1)) (And.intro (by have := (HV5.out.aft hu).game (by rw [← HgP.out]; exact HG32.out); rw [← HgP.out] at this; exact this) (HY5.out.aft hu))))
        have HRf := Lib.hid (fun (u : World) (hu : Aft w5 u) => srefs_in u S P A M l L (HSM1.out u (HA5.out.trans hu)) ((i : Int) + 1) HIx.out i c rfl HPcC.out HLv.out)
        have HPg := Lib.hid (fun (u : World) (hu : Aft w5 u) => pages_len u S P A M l L (HSM1.out u (HA5.out.trans hu)) ((i : Int) + 1) HIx.out i c rfl HPcC.out HLv.out)
        have hcrr : c.r = r := by rw [HrP.out]; exact (HK.out.each i c p HPcC.out HPp.out).1
        rw [hcrr] at HRf
        clear hcrr
        have hcur : Hid (Aft w5 w5.drew) := (Below.refl _ _).drew
        have hneq : ∀ W, (binOp .neq 44 (.agg (gC yg)) (.agg (gC g))).run Try.prog W = .ok (.bool false) W := fun W => by
          rw [HYgE.out, run_neq_struct, equalIn_g 44 Try.underlying44 Try.underlying21 infoCell g g HG32.out HG32.out W]; simp [Result.andThen]
        have hgd := guardGame11
        go_wp2_with fail
        refine wp_region_held_drew (S := fun w' => w'.cell? ⟨p8, 0, none⟩ = some (.int .i64 ((i : Int) + 1)) ∧ w'.cell? ⟨p8, 1, none⟩ = some (.int .i64 r) ∧ w'.rangeAt p8 2 (gC g).toList ∧ GA w' y9 38 yg) (by kernel_rfl) (HKp.out _ hcur.out) (fun hHeld => ?_)
        refine held_take (i := 0) (v := ?_) rfl (by kernel_rfl) (by kernel_rfl) (by kernel_rfl) (fun _ _ _ h => h) (by rfl) hHeld ?_ ?_
        rotate_left 1
        · (intro w hSw; (try dsimp only at hSw); go_simp; try (with_reducible rfl))
        try simp only [Act.put, List.setIfInBounds_toArray, List.set_cons_zero, List.set_cons_succ]
        refine held_take (i := 1) (v := ?_) rfl (by kernel_rfl) (by kernel_rfl) (by kernel_rfl) (fun _ _ _ h => h) (by rfl) hHeld ?_ ?_
        rotate_left 1
        · (intro w hSw; (try dsimp only at hSw); go_simp; try (with_reducible rfl))
        try simp only [Act.put, List.setIfInBounds_toArray, List.set_cons_zero, List.set_cons_succ]
        refine held_take (i := 2) (v := ?_) rfl (by kernel_rfl) (by kernel_rfl) (by kernel_rfl) (fun _ _ _ h => h) (by rfl) hHeld ?_ ?_
        rotate_left 1
        · (intro w hSw; (try dsimp only at hSw); go_simp; try (with_reducible rfl))
        try simp only [Act.put, List.setIfInBounds_toArray, List.set_cons_zero, List.set_cons_succ]
        refine held_take (i := 3) (v := ?_) rfl (by kernel_rfl) (by kernel_rfl) (by kernel_rfl) (fun _ _ _ h => h) (by rfl) hHeld ?_ ?_
        rotate_left 1
        · (intro w hSw; (try dsimp only at hSw); go_simp; try (with_reducible rfl))
        try simp only [Act.put, List.setIfInBounds_toArray, List.set_cons_zero, List.set_cons_succ]
        refine held_take (i := 4) (v := ?_) rfl (by kernel_rfl) (by kernel_rfl) (by kernel_rfl) (fun _ _ _ h => h) (by rfl) hHeld ?_ ?_
        rotate_left 1
        · (intro w hSw; (try dsimp only at hSw); go_simp; try (with_reducible rfl))
        try simp only [Act.put, List.setIfInBounds_toArray, List.set_cons_zero, List.set_cons_succ]
        refine held_take (i := 5) (v := ?_) rfl (by kernel_rfl) (by kernel_rfl) (by kernel_rfl) (fun _ _ _ h => h) (by rfl) hHeld ?_ ?_
        rotate_left 1
        · (intro w hSw; (try dsimp only at hSw); go_simp; try (with_reducible rfl))
        try simp only [Act.put, List.setIfInBounds_toArray, List.set_cons_zero, List.set_cons_succ]
        refine held_take (i := 6) (v := ?_) rfl (by kernel_rfl) (by kernel_rfl) (by kernel_rfl) (fun _ _ _ h => h) (by rfl) hHeld ?_ ?_
        rotate_left 1
        · (intro w hSw; (try dsimp only at hSw); go_simp; try (with_reducible rfl))
        try simp only [Act.put, List.setIfInBounds_toArray, List.set_cons_zero, List.set_cons_succ]
        refine held_take (i := 7) (v := ?_) rfl (by kernel_rfl) (by kernel_rfl) (by kernel_rfl) (fun _ _ _ h => h) (by rfl) hHeld ?_ ?_
        rotate_left 1
        · (intro w hSw; (try dsimp only at hSw); go_simp; try (with_reducible rfl))
        try simp only [Act.put, List.setIfInBounds_toArray, List.set_cons_zero, List.set_cons_succ]
        refine held_take (i := 8) (v := ?_) rfl (by kernel_rfl) (by kernel_rfl) (by kernel_rfl) (fun _ _ _ h => h) (by rfl) hHeld ?_ ?_
        rotate_left 1
        · (intro w hSw; (try dsimp only at hSw); go_simp; try (with_reducible rfl))
        try simp only [Act.put, List.setIfInBounds_toArray, List.set_cons_zero, List.set_cons_succ]
        refine held_take (i := 10) (v := ?_) rfl (by kernel_rfl) (by kernel_rfl) (by kernel_rfl) (fun _ _ _ h => h) (by rfl) hHeld ?_ ?_
        rotate_left 1
        · (intro w hSw; (try dsimp only at hSw); go_simp; try (with_reducible rfl))
        try simp only [Act.put, List.setIfInBounds_toArray, List.set_cons_zero, List.set_cons_succ]
        refine held_take (i := 11) (v := ?_) rfl (by kernel_rfl) (by kernel_rfl) (by kernel_rfl) (fun _ _ _ h => h) (by rfl) hHeld ?_ ?_
        rotate_left 1
        · (intro w hSw; (try dsimp only at hSw); go_simp; try (with_reducible rfl))
        try simp only [Act.put, List.setIfInBounds_toArray, List.set_cons_zero, List.set_cons_succ]
        refine held_one (i := 9) rfl (by kernel_rfl) (by rfl) (fun K hK => ?_)
        go_simp
        with_reducible refine (HRf.out _ hcur.out).mono ?_
        rintro e u1 ⟨rfl, rfl⟩
        refine hK.out _ _ (hHeld) (fun hHeld2 => ?_)
        clear hK K hHeld; have hHeld := hHeld2; clear hHeld2
        try simp only [Act.put, List.setIfInBounds_toArray, List.set_cons_zero, List.set_cons_succ]
        refine held_take (i := 12) (v := ?_) rfl (by kernel_rfl) (by kernel_rfl) (by kernel_rfl) (fun _ _ _ h => h) (by rfl) hHeld ?_ ?_
        rotate_left 1
        · (intro w hSw; (try dsimp only at hSw); go_simp; try (with_reducible rfl))
        try simp only [Act.put, List.setIfInBounds_toArray, List.set_cons_zero, List.set_cons_succ]
        refine held_take (i := 13) (v := ?_) rfl (by kernel_rfl) (by kernel_rfl) (by kernel_rfl) (fun _ _ _ h => h) (by rfl) hHeld ?_ ?_
        rotate_left 1
        · (intro w hSw; (try dsimp only at hSw); go_simp; try (with_reducible rfl))
        try simp only [Act.put, List.setIfInBounds_toArray, List.set_cons_zero, List.set_cons_succ]
        refine held_take (i := 14) (v := ?_) rfl (by kernel_rfl) (by kernel_rfl) (by kernel_rfl) (fun _ _ _ h => h) (by rfl) hHeld ?_ ?_
        rotate_left 1
        · (intro w hSw; (try dsimp only at hSw); go_simp; try (with_reducible rfl))
        try simp only [Act.put, List.setIfInBounds_toArray, List.set_cons_zero, List.set_cons_succ]
        refine held_take (i := 15) (v := ?_) rfl (by kernel_rfl) (by kernel_rfl) (by kernel_rfl) (fun _ _ _ h => h) (by rfl) hHeld ?_ ?_
        rotate_left 1
        · (intro w hSw; (try dsimp only at hSw); go_simp; try (with_reducible rfl))
        try simp only [Act.put, List.setIfInBounds_toArray, List.set_cons_zero, List.set_cons_succ]
        refine held_take (i := 16) (v := ?_) rfl (by kernel_rfl) (by kernel_rfl) (by kernel_rfl) (fun _ _ _ h => h) (by rfl) hHeld ?_ ?_
        rotate_left 1
        · (intro w hSw; (try dsimp only at hSw); go_simp; try (with_reducible rfl))
        try simp only [Act.put, List.setIfInBounds_toArray, List.set_cons_zero, List.set_cons_succ]
        refine held_take (i := 17) (v := .agg (gC yg)) rfl (by kernel_rfl) (by kernel_rfl) (by kernel_rfl) (fun _ _ _ h => h) (by rfl) hHeld (exec_load_g _ _ rfl y9 (by rfl) 38 yg (fun w h => h.2.2.2) Try.underlying38 (by rw [HYg.out]; exact infoState)) ?_
        try simp only [Act.put, List.setIfInBounds_toArray, List.set_cons_zero, List.set_cons_succ]
        refine held_take (i := 18) (v := ?_) rfl (by kernel_rfl) (by kernel_rfl) (by kernel_rfl) (fun _ _ _ h => h) (by rfl) hHeld ?_ ?_
        rotate_left 1
        · (intro w hSw; (try dsimp only at hSw); go_simp; try (with_reducible rfl))
        try simp only [Act.put, List.setIfInBounds_toArray, List.set_cons_zero, List.set_cons_succ]
        refine held_take (i := 19) (v := .agg (gC g)) rfl (by kernel_rfl) (by kernel_rfl) (by kernel_rfl) (fun _ _ _ h => h) (by rfl) hHeld (exec_load_gm _ _ rfl p8 2 (by rfl) g (fun w h => h.2.2.1) Try.underlying44 (by rw [HG32.out]; exact infoGame11)) ?_
        try simp only [Act.put, List.setIfInBounds_toArray, List.set_cons_zero, List.set_cons_succ]
        refine held_take (i := 20) (v := ?_) rfl (by kernel_rfl) (by kernel_rfl) (by kernel_rfl) (fun _ _ _ h => h) (by rfl) hHeld ?_ ?_
        rotate_left 1
        · (intro w hSw; (try dsimp only at hSw); go_simp; try (with_reducible rfl))
        try simp only [Act.put, List.setIfInBounds_toArray, List.set_cons_zero, List.set_cons_succ]
        refine held_take (i := 21) (v := ?_) rfl (by kernel_rfl) (by kernel_rfl) (by kernel_rfl) (fun _ _ _ h => h) (by rfl) hHeld ?_ ?_
        rotate_left 1
        · (intro w hSw; (try dsimp only at hSw); go_simp; try (with_reducible rfl))
        try simp only [Act.put, List.setIfInBounds_toArray, List.set_cons_zero, List.set_cons_succ]
        refine held_take (i := 22) (v := ?_) rfl (by kernel_rfl) (by kernel_rfl) (by kernel_rfl) (fun _ _ _ h => h) (by rfl) hHeld ?_ ?_
        rotate_left 1
        · (intro w hSw; (try dsimp only at hSw); go_simp; try (with_reducible rfl))
        try simp only [Act.put, List.setIfInBounds_toArray, List.set_cons_zero, List.set_cons_succ]
        refine held_take (i := 23) (v := ?_) rfl (by kernel_rfl) (by kernel_rfl) (by kernel_rfl) (fun _ _ _ h => h) (by rfl) hHeld ?_ ?_
        rotate_left 1
        · (intro w hSw; (try dsimp only at hSw); go_simp; try (with_reducible rfl))
        try simp only [Act.put, List.setIfInBounds_toArray, List.set_cons_zero, List.set_cons_succ]
        refine held_take (i := 24) (v := ?_) rfl (by kernel_rfl) (by kernel_rfl) (by kernel_rfl) (fun _ _ _ h => h) (by rfl) hHeld ?_ ?_
        rotate_left 1
        · (intro w hSw; (try dsimp only at hSw); go_simp; try (with_reducible rfl))
        try simp only [Act.put, List.setIfInBounds_toArray, List.set_cons_zero, List.set_cons_succ]
        refine held_take (i := 25) (v := ?_) rfl (by kernel_rfl) (by kernel_rfl) (by kernel_rfl) (fun _ _ _ h => h) (by rfl) hHeld ?_ ?_
        rotate_left 1
        · (intro w hSw; (try dsimp only at hSw); go_simp; try (with_reducible rfl))
        try simp only [Act.put, List.setIfInBounds_toArray, List.set_cons_zero, List.set_cons_succ]
        refine held_take (i := 26) (v := ?_) rfl (by kernel_rfl) (by kernel_rfl) (by kernel_rfl) (fun _ _ _ h => h) (by rfl) hHeld ?_ ?_
        rotate_left 1
        · (intro w hSw; (try dsimp only at hSw); go_simp; try (with_reducible rfl))
        try simp only [Act.put, List.setIfInBounds_toArray, List.set_cons_zero, List.set_cons_succ]
        refine held_off (i := 27) rfl (by kernel_rfl) (by kernel_rfl) (by kernel_rfl) (fun _ _ _ h => h) (by rfl) hHeld ?_
        try simp only [Act.put, List.setIfInBounds_toArray, List.set_cons_zero, List.set_cons_succ]
        refine held_off (i := 28) rfl (by kernel_rfl) (by kernel_rfl) (by kernel_rfl) (fun _ _ _ h => h) (by rfl) hHeld ?_
        try simp only [Act.put, List.setIfInBounds_toArray, List.set_cons_zero, List.set_cons_succ]
        refine held_off (i := 29) rfl (by kernel_rfl) (by kernel_rfl) (by kernel_rfl) (fun _ _ _ h => h) (by rfl) hHeld ?_
        try simp only [Act.put, List.setIfInBounds_toArray, List.set_cons_zero, List.set_cons_succ]
        refine held_take (i := 30) (v := ?_) rfl (by kernel_rfl) (by kernel_rfl) (by kernel_rfl) (fun _ _ _ h => h) (by rfl) hHeld ?_ ?_
        rotate_left 1
        · (intro w hSw; (try dsimp only at hSw); go_simp; try (with_reducible rfl))
        try simp only [Act.put, List.setIfInBounds_toArray, List.set_cons_zero, List.set_cons_succ]
        refine held_take (i := 31) (v := ?_) rfl (by kernel_rfl) (by kernel_rfl) (by kernel_rfl) (fun _ _ _ h => h) (by rfl) hHeld ?_ ?_
        rotate_left 1
        · (intro w hSw; (try dsimp only at hSw); go_simp; try (with_reducible rfl))
        try simp only [Act.put, List.setIfInBounds_toArray, List.set_cons_zero, List.set_cons_succ]
        refine held_take (i := 32) (v := ?_) rfl (by kernel_rfl) (by kernel_rfl) (by kernel_rfl) (fun _ _ _ h => h) (by rfl) hHeld ?_ ?_
        rotate_left 1
        · (intro w hSw; (try dsimp only at hSw); go_simp; try (with_reducible rfl))
        try simp only [Act.put, List.setIfInBounds_toArray, List.set_cons_zero, List.set_cons_succ]
        refine held_take (i := 33) (v := ?_) rfl (by kernel_rfl) (by kernel_rfl) (by kernel_rfl) (fun _ _ _ h => h) (by rfl) hHeld ?_ ?_
        rotate_left 1
        · (intro w hSw; (try dsimp only at hSw); go_simp; try (with_reducible rfl))
        try simp only [Act.put, List.setIfInBounds_toArray, List.set_cons_zero, List.set_cons_succ]
        refine held_take (i := 34) (v := ?_) rfl (by kernel_rfl) (by kernel_rfl) (by kernel_rfl) (fun _ _ _ h => h) (by rfl) hHeld ?_ ?_
        rotate_left 1
        · (intro w hSw; (try dsimp only at hSw); go_simp; try (with_reducible rfl))
        try simp only [Act.put, List.setIfInBounds_toArray, List.set_cons_zero, List.set_cons_succ]
        refine held_take (i := 35) (v := ?_) rfl (by kernel_rfl) (by kernel_rfl) (by kernel_rfl) (fun _ _ _ h => h) (by rfl) hHeld ?_ ?_
        rotate_left 1
        · (intro w hSw; (try dsimp only at hSw); go_simp; try (with_reducible rfl))
        try simp only [Act.put, List.setIfInBounds_toArray, List.set_cons_zero, List.set_cons_succ]
        refine held_take (i := 39) (v := ?_) rfl (by kernel_rfl) (by kernel_rfl) (by kernel_rfl) (fun _ _ _ h => h) (by rfl) hHeld ?_ ?_
        rotate_left 1
        · (intro w hSw; (try dsimp only at hSw); go_simp; try (with_reducible rfl))
        try simp only [Act.put, List.setIfInBounds_toArray, List.set_cons_zero, List.set_cons_succ]
        refine held_one (i := 36) rfl (by kernel_rfl) (by rfl) (fun K hK => ?_)
        go_simp
        with_reducible refine (HPg.out _ hcur.out).mono ?_
        rintro e u2 ⟨pp, cp, rfl, hb2⟩
        have hcur2 := hcur.out.step hb2
        refine hK.out _ _ (HKp.out _ hcur2.out) (fun hHeld2 => ?_)
        clear hK K hHeld; have hHeld := hHeld2; clear hHeld2
        try simp only [Act.put, List.setIfInBounds_toArray, List.set_cons_zero, List.set_cons_succ]
        refine held_take (i := 37) (v := ?_) rfl (by kernel_rfl) (by kernel_rfl) (by kernel_rfl) (fun _ _ _ h => h) (by rfl) hHeld ?_ ?_
        rotate_left 1
        · (intro w hSw; (try dsimp only at hSw); go_simp; try (with_reducible rfl))
        try simp only [Act.put, List.setIfInBounds_toArray, List.set_cons_zero, List.set_cons_succ]
        refine held_take (i := 38) (v := ?_) rfl (by kernel_rfl) (by kernel_rfl) (by kernel_rfl) (fun _ _ _ h => h) (by rfl) hHeld ?_ ?_
        rotate_left 1
        · (intro w hSw; (try dsimp only at hSw); go_simp; try (with_reducible rfl))
        try simp only [Act.put, List.setIfInBounds_toArray, List.set_cons_zero, List.set_cons_succ]
        refine held_take (i := 40) (v := ?_) rfl (by kernel_rfl) (by kernel_rfl) (by kernel_rfl) (fun _ _ _ h => h) (by rfl) hHeld ?_ ?_
        rotate_left 1
        · (intro w hSw; (try dsimp only at hSw); go_simp; try (with_reducible rfl))
        try simp only [Act.put, List.setIfInBounds_toArray, List.set_cons_zero, List.set_cons_succ]
        refine held_take (i := 41) (v := ?_) rfl (by kernel_rfl) (by kernel_rfl) (by kernel_rfl) (fun _ _ _ h => h) (by rfl) hHeld ?_ ?_
        rotate_left 1
        · (intro w hSw; (try dsimp only at hSw); go_simp; try (with_reducible rfl))
        try simp only [Act.put, List.setIfInBounds_toArray, List.set_cons_zero, List.set_cons_succ]
        refine wpAnyH_done (by kernel_rfl) ?_ _
        have HA2 := Lib.hid (HA5.out.trans hcur2.out)
        have HLR2 := Lib.hid (HLR.out.aft HA2.out)
        have hlk : Hid (liveK L i = true) := by unfold Hid liveK; rw [HPcC.out]; simpa using HLv.out
        have HLl : Hid ((liveIds L)[m]? = some ((i : Int) + 1)) := by rw [Hid, HM.out]; exact live_at L i (List.getElem?_eq_some_iff.1 HPcC.out).1 hlk.out
        have HLt : Hid (∀ j, j < m → ∃ y, (liveIds L)[j]? = some y ∧ y < (i : Int) + 1) := fun j hj => live_lt L i j (List.getElem?_eq_some_iff.1 HPcC.out).1 hlk.out (by rw [← HM.out]; exact hj)
        have hmn : m < nl := by have := (List.getElem?_eq_some_iff.1 HLl.out).1; rw [← HNl2.out] at this; exact this
        obtain ⟨lg, rfl, _, _⟩ := HLR.out _ _ HLl.out
        have HL8 := Lib.hid (fun (u : World) (hu : Aft u2 u) => (HKp.out u (hcur2.out.trans hu)).1)
        go_wp2_with fail
        go_loopw [11] (fun a wa => ∃ j : Nat, a = .int .i64 j ∧ j ≤ m ∧ Hid (Aft u2 wa)) (fun a _ => m - (numI a).toNat)
        case atStart => exact ⟨0, rfl, by omega, Aft.refl _⟩
        case round =>
          obtain ⟨j, rfl, hj, hAa⟩ := hrel
          have c80 := HL8.out _ hAa.out
          have hjn : (j : Int) < (nl : Int) := by omega
          by_cases hjm : j < m
          · obtain ⟨y, hy1, hy2⟩ := HLt.out j hjm
            obtain ⟨g', hg', _, cl⟩ := (HLR2.out.aft hAa.out) _ _ hy1
            obtain rfl : lg = g' := by injection hg' with h1; injection h1
            have hyn : (y == (i : Int) + 1) = false := by simp only [beq_eq_false_iff_ne, ne_eq]; omega
            have hyb : (y != (i : Int) + 1) = true := by simp only [bne_iff_ne, ne_eq]; omega
            clear hy1 hg'
            go_wp2_with fail
            refine wp_region_held_drew (S := fun w' => w'.cell? ⟨lg, j, none⟩ = some (.int .i64 (y)) ∧ w'.cell? ⟨p8, 0, none⟩ = some (.int .i64 ((i : Int) + 1))) (by kernel_rfl) (And.intro cl c80) (fun hHeld => ?_)
            refine held_take (i := 0) (v := ?_) rfl (by kernel_rfl) (by kernel_rfl) (by kernel_rfl) (fun _ _ _ h => h) (by rfl) hHeld ?_ ?_
            rotate_left 1
            · (intro w hSw; (try dsimp only at hSw); go_simp; try (with_reducible rfl))
            try simp only [Act.put, List.setIfInBounds_toArray, List.set_cons_zero, List.set_cons_succ]
            refine held_take (i := 1) (v := ?_) rfl (by kernel_rfl) (by kernel_rfl) (by kernel_rfl) (fun _ _ _ h => h) (by rfl) hHeld ?_ ?_
            rotate_left 1
            · (intro w hSw; (try dsimp only at hSw); go_simp; try (with_reducible rfl))
            try simp only [Act.put, List.setIfInBounds_toArray, List.set_cons_zero, List.set_cons_succ]
            refine held_take (i := 2) (v := ?_) rfl (by kernel_rfl) (by kernel_rfl) (by kernel_rfl) (fun _ _ _ h => h) (by rfl) hHeld ?_ ?_
            rotate_left 1
            · (intro w hSw; (try dsimp only at hSw); go_simp; try (with_reducible rfl))
            try simp only [Act.put, List.setIfInBounds_toArray, List.set_cons_zero, List.set_cons_succ]
            refine held_take (i := 3) (v := ?_) rfl (by kernel_rfl) (by kernel_rfl) (by kernel_rfl) (fun _ _ _ h => h) (by rfl) hHeld ?_ ?_
            rotate_left 1
            · (intro w hSw; (try dsimp only at hSw); go_simp; try (with_reducible rfl))
            try simp only [Act.put, List.setIfInBounds_toArray, List.set_cons_zero, List.set_cons_succ]
            refine held_take (i := 4) (v := ?_) rfl (by kernel_rfl) (by kernel_rfl) (by kernel_rfl) (fun _ _ _ h => h) (by rfl) hHeld ?_ ?_
            rotate_left 1
            · (intro w hSw; (try dsimp only at hSw); go_simp; try (with_reducible rfl))
            try simp only [Act.put, List.setIfInBounds_toArray, List.set_cons_zero, List.set_cons_succ]
            refine held_take (i := 5) (v := ?_) rfl (by kernel_rfl) (by kernel_rfl) (by kernel_rfl) (fun _ _ _ h => h) (by rfl) hHeld ?_ ?_
            rotate_left 1
            · (intro w hSw; (try dsimp only at hSw); go_simp; try (with_reducible rfl))
            try simp only [Act.put, List.setIfInBounds_toArray, List.set_cons_zero, List.set_cons_succ]
            refine held_take (i := 6) (v := ?_) rfl (by kernel_rfl) (by kernel_rfl) (by kernel_rfl) (fun _ _ _ h => h) (by rfl) hHeld ?_ ?_
            rotate_left 1
            · (intro w hSw; (try dsimp only at hSw); go_simp; try (with_reducible rfl))
            try simp only [Act.put, List.setIfInBounds_toArray, List.set_cons_zero, List.set_cons_succ]
            refine held_take (i := 7) (v := ?_) rfl (by kernel_rfl) (by kernel_rfl) (by kernel_rfl) (fun _ _ _ h => h) (by rfl) hHeld ?_ ?_
            rotate_left 1
            · (intro w hSw; (try dsimp only at hSw); go_simp; try (with_reducible rfl))
            try simp only [Act.put, List.setIfInBounds_toArray, List.set_cons_zero, List.set_cons_succ]
            refine held_take (i := 8) (v := ?_) rfl (by kernel_rfl) (by kernel_rfl) (by kernel_rfl) (fun _ _ _ h => h) (by rfl) hHeld ?_ ?_
            rotate_left 1
            · (intro w hSw; (try dsimp only at hSw); go_simp; try (with_reducible rfl))
            try simp only [Act.put, List.setIfInBounds_toArray, List.set_cons_zero, List.set_cons_succ]
            refine held_take (i := 9) (v := ?_) rfl (by kernel_rfl) (by kernel_rfl) (by kernel_rfl) (fun _ _ _ h => h) (by rfl) hHeld ?_ ?_
            rotate_left 1
            · (intro w hSw; (try dsimp only at hSw); go_simp; try (with_reducible rfl))
            try simp only [Act.put, List.setIfInBounds_toArray, List.set_cons_zero, List.set_cons_succ]
            refine held_take (i := 10) (v := ?_) rfl (by kernel_rfl) (by kernel_rfl) (by kernel_rfl) (fun _ _ _ h => h) (by rfl) hHeld ?_ ?_
            rotate_left 1
            · (intro w hSw; (try dsimp only at hSw); go_simp; try (with_reducible rfl))
            try simp only [Act.put, List.setIfInBounds_toArray, List.set_cons_zero, List.set_cons_succ]
            refine held_take (i := 11) (v := ?_) rfl (by kernel_rfl) (by kernel_rfl) (by kernel_rfl) (fun _ _ _ h => h) (by rfl) hHeld ?_ ?_
            rotate_left 1
            · (intro w hSw; (try dsimp only at hSw); go_simp; try (with_reducible rfl))
            try simp only [Act.put, List.setIfInBounds_toArray, List.set_cons_zero, List.set_cons_succ]
            refine held_take (i := 12) (v := ?_) rfl (by kernel_rfl) (by kernel_rfl) (by kernel_rfl) (fun _ _ _ h => h) (by rfl) hHeld ?_ ?_
            rotate_left 1
            · (intro w hSw; (try dsimp only at hSw); go_simp; try (with_reducible rfl))
            try simp only [Act.put, List.setIfInBounds_toArray, List.set_cons_zero, List.set_cons_succ]
            refine wpAnyH_done (by kernel_rfl) ?_ _
            go_wp2_with fail
            go_roundw
            case rel => exact ⟨j + 1, by go_num, by omega, hAa.out.drew⟩
            case measure => simp [numI]; omega
          · obtain rfl : m = j := by omega
            obtain ⟨g', hg', _, cl⟩ := (HLR2.out.aft hAa.out) _ _ HLl.out
            obtain rfl : lg = g' := by injection hg' with h1; injection h1
            clear hg'
            go_wp2_with fail
            refine wp_region_held_drew (S := fun w' => w'.cell? ⟨lg, m, none⟩ = some (.int .i64 ((i : Int) + 1)) ∧ w'.cell? ⟨p8, 0, none⟩ = some (.int .i64 ((i : Int) + 1))) (by kernel_rfl) (And.intro cl c80) (fun hHeld => ?_)
            refine held_take (i := 0) (v := ?_) rfl (by kernel_rfl) (by kernel_rfl) (by kernel_rfl) (fun _ _ _ h => h) (by rfl) hHeld ?_ ?_
            rotate_left 1
            · (intro w hSw; (try dsimp only at hSw); go_simp; try (with_reducible rfl))
            try simp only [Act.put, List.setIfInBounds_toArray, List.set_cons_zero, List.set_cons_succ]
            refine held_take (i := 1) (v := ?_) rfl (by kernel_rfl) (by kernel_rfl) (by kernel_rfl) (fun _ _ _ h => h) (by rfl) hHeld ?_ ?_
            rotate_left 1
            · (intro w hSw; (try dsimp only at hSw); go_simp; try (with_reducible rfl))
            try simp only [Act.put, List.setIfInBounds_toArray, List.set_cons_zero, List.set_cons_succ]
            refine held_take (i := 2) (v := ?_) rfl (by kernel_rfl) (by kernel_rfl) (by kernel_rfl) (fun _ _ _ h => h) (by rfl) hHeld ?_ ?_
            rotate_left 1
            · (intro w hSw; (try dsimp only at hSw); go_simp; try (with_reducible rfl))
            try simp only [Act.put, List.setIfInBounds_toArray, List.set_cons_zero, List.set_cons_succ]
            refine held_take (i := 3) (v := ?_) rfl (by kernel_rfl) (by kernel_rfl) (by kernel_rfl) (fun _ _ _ h => h) (by rfl) hHeld ?_ ?_
            rotate_left 1
            · (intro w hSw; (try dsimp only at hSw); go_simp; try (with_reducible rfl))
            try simp only [Act.put, List.setIfInBounds_toArray, List.set_cons_zero, List.set_cons_succ]
            refine held_take (i := 4) (v := ?_) rfl (by kernel_rfl) (by kernel_rfl) (by kernel_rfl) (fun _ _ _ h => h) (by rfl) hHeld ?_ ?_
            rotate_left 1
            · (intro w hSw; (try dsimp only at hSw); go_simp; try (with_reducible rfl))
            try simp only [Act.put, List.setIfInBounds_toArray, List.set_cons_zero, List.set_cons_succ]
            refine held_take (i := 5) (v := ?_) rfl (by kernel_rfl) (by kernel_rfl) (by kernel_rfl) (fun _ _ _ h => h) (by rfl) hHeld ?_ ?_
            rotate_left 1
            · (intro w hSw; (try dsimp only at hSw); go_simp; try (with_reducible rfl))
            try simp only [Act.put, List.setIfInBounds_toArray, List.set_cons_zero, List.set_cons_succ]
            refine held_take (i := 6) (v := ?_) rfl (by kernel_rfl) (by kernel_rfl) (by kernel_rfl) (fun _ _ _ h => h) (by rfl) hHeld ?_ ?_
            rotate_left 1
            · (intro w hSw; (try dsimp only at hSw); go_simp; try (with_reducible rfl))
            try simp only [Act.put, List.setIfInBounds_toArray, List.set_cons_zero, List.set_cons_succ]
            refine held_take (i := 7) (v := ?_) rfl (by kernel_rfl) (by kernel_rfl) (by kernel_rfl) (fun _ _ _ h => h) (by rfl) hHeld ?_ ?_
            rotate_left 1
            · (intro w hSw; (try dsimp only at hSw); go_simp; try (with_reducible rfl))
            try simp only [Act.put, List.setIfInBounds_toArray, List.set_cons_zero, List.set_cons_succ]
            refine held_take (i := 8) (v := ?_) rfl (by kernel_rfl) (by kernel_rfl) (by kernel_rfl) (fun _ _ _ h => h) (by rfl) hHeld ?_ ?_
            rotate_left 1
            · (intro w hSw; (try dsimp only at hSw); go_simp; try (with_reducible rfl))
            try simp only [Act.put, List.setIfInBounds_toArray, List.set_cons_zero, List.set_cons_succ]
            refine held_take (i := 9) (v := ?_) rfl (by kernel_rfl) (by kernel_rfl) (by kernel_rfl) (fun _ _ _ h => h) (by rfl) hHeld ?_ ?_
            rotate_left 1
            · (intro w hSw; (try dsimp only at hSw); go_simp; try (with_reducible rfl))
            try simp only [Act.put, List.setIfInBounds_toArray, List.set_cons_zero, List.set_cons_succ]
            refine held_take (i := 10) (v := ?_) rfl (by kernel_rfl) (by kernel_rfl) (by kernel_rfl) (fun _ _ _ h => h) (by rfl) hHeld ?_ ?_
            rotate_left 1
            · (intro w hSw; (try dsimp only at hSw); go_simp; try (with_reducible rfl))
            try simp only [Act.put, List.setIfInBounds_toArray, List.set_cons_zero, List.set_cons_succ]
            refine held_take (i := 11) (v := ?_) rfl (by kernel_rfl) (by kernel_rfl) (by kernel_rfl) (fun _ _ _ h => h) (by rfl) hHeld ?_ ?_
            rotate_left 1
            · (intro w hSw; (try dsimp only at hSw); go_simp; try (with_reducible rfl))
            try simp only [Act.put, List.setIfInBounds_toArray, List.set_cons_zero, List.set_cons_succ]
            refine held_take (i := 12) (v := ?_) rfl (by kernel_rfl) (by kernel_rfl) (by kernel_rfl) (fun _ _ _ h => h) (by rfl) hHeld ?_ ?_
            rotate_left 1
            · (intro w hSw; (try dsimp only at hSw); go_simp; try (with_reducible rfl))
            try simp only [Act.put, List.setIfInBounds_toArray, List.set_cons_zero, List.set_cons_succ]
            refine wpAnyH_done (by kernel_rfl) ?_ _
            have hAd : Hid (Aft u2 wr.drew) := hAa.out.drew
            have HPg2 := Lib.hid (fun (u : World) (hu : Aft u2 u) => spages_in u S P A M l L (HSM1.out u (HA2.out.trans hu)) ((i : Int) + 1) HIx.out i c rfl HPcC.out HLv.out)
            go_wp2_with (go_at_call 27; refine (HPg2.out _ hAd.out).mono ?_; rintro e u3 ⟨v3, rfl, ⟨pq, pcap, rfl, _, hplt, _, hpgc⟩, hb3⟩; have HPc3 := Lib.hid (fun (u : World) (hu : Aft u3 u) (t : Nat) (ht : t < 4) => (Below.cell hu (p := ⟨pq, t, none⟩) hplt).trans (hpgc t ht)); have HA3 := Lib.hid (hAd.out.trans hb3); clear hpgc hplt hb3)
            clear HPg2 c80 cl
            go_loopw [13] (fun k wk => ∃ j : Nat, k = .int .i64 j ∧ j ≤ 4 ∧ Hid (Aft u3 wk)) (fun k _ => 4 - (numI k).toNat)
            case atStart => exact ⟨0, rfl, by omega, Aft.refl _⟩
            case round =>
              obtain ⟨j, rfl, hj4, hAk⟩ := hrel
              have hA23 := Lib.hid (HA3.out.trans hAk.out)
              have hA1r := Lib.hid (HA2.out.trans hA23.out)
              by_cases hj : j < 4
              · have hjc : (j : Int) < 4 := by omega
                have cp := HPc3.out _ hAk.out j hj
                have cpp : wr.cell? ⟨p8, 34 + j, none⟩ = some (.int .i64 (p.pn j)) := (HV5.out.aft (hcur2.out.trans hA23.out)).page j hj
                have hSMr := HSM1.out _ (Aft.trans hA1r.out (Below.drew (Below.refl _ _)))
                have HRo := Lib.hid (room_any _ S P A M l L hSMr)
                obtain ⟨x, hx⟩ : ∃ x, x = bcnt B (p.pn j) := ⟨_, rfl⟩
                have HRf2 := Lib.hid (refs_any _ P A l hSMr.rm (c.on j) x (by rw [hx]; exact (HK.out.refs HI.out HPcC.out HPp.out HLv.out hj).symm))
                have HCt := Lib.hid (count_any _ Bb _ n N B (HBM1.out _ (Aft.trans hA1r.out (Below.drew (Below.refl _ _)))) (by have := HB.out; omega) (p.pn j) x hx)
                clear hSMr hx
                generalize c.on j = pj at *
                generalize p.pn j = qj at *
                go_wp2_with fail
                refine wp_region_held_drew (S := fun w' => w'.cell? ⟨pq, j, none⟩ = some (.int .i64 pj) ∧ w'.cell? ⟨p8, 34 + j, none⟩ = some (.int .i64 qj)) (by kernel_rfl) (And.intro cp cpp) (fun hHeld => ?_)
                refine held_take (i := 0) (v := ?_) rfl (by kernel_rfl) (by kernel_rfl) (by kernel_rfl) (fun _ _ _ h => h) (by rfl) hHeld ?_ ?_
                rotate_left 1
                · (intro w hSw; (try dsimp only at hSw); go_simp; try (with_reducible rfl))
                try simp only [Act.put, List.setIfInBounds_toArray, List.set_cons_zero, List.set_cons_succ]
                refine held_take (i := 2) (v := ?_) rfl (by kernel_rfl) (by kernel_rfl) (by kernel_rfl) (fun _ _ _ h => h) (by rfl) hHeld ?_ ?_
                rotate_left 1
                · (intro w hSw; (try dsimp only at hSw); go_simp; try (with_reducible rfl))
                try simp only [Act.put, List.setIfInBounds_toArray, List.set_cons_zero, List.set_cons_succ]
                refine held_take (i := 3) (v := ?_) rfl (by kernel_rfl) (by kernel_rfl) (by kernel_rfl) (fun _ _ _ h => h) (by rfl) hHeld ?_ ?_
                rotate_left 1
                · (intro w hSw; (try dsimp only at hSw); go_simp; try (with_reducible rfl))
                try simp only [Act.put, List.setIfInBounds_toArray, List.set_cons_zero, List.set_cons_succ]
                refine held_take (i := 4) (v := ?_) rfl (by kernel_rfl) (by kernel_rfl) (by kernel_rfl) (fun _ _ _ h => h) (by rfl) hHeld ?_ ?_
                rotate_left 1
                · (intro w hSw; (try dsimp only at hSw); go_simp; try (with_reducible rfl))
                try simp only [Act.put, List.setIfInBounds_toArray, List.set_cons_zero, List.set_cons_succ]
                refine held_take (i := 5) (v := ?_) rfl (by kernel_rfl) (by kernel_rfl) (by kernel_rfl) (fun _ _ _ h => h) (by rfl) hHeld ?_ ?_
                rotate_left 1
                · (intro w hSw; (try dsimp only at hSw); go_simp; try (with_reducible rfl))
                try simp only [Act.put, List.setIfInBounds_toArray, List.set_cons_zero, List.set_cons_succ]
                refine held_take (i := 7) (v := ?_) rfl (by kernel_rfl) (by kernel_rfl) (by kernel_rfl) (fun _ _ _ h => h) (by rfl) hHeld ?_ ?_
                rotate_left 1
                · (intro w hSw; (try dsimp only at hSw); go_simp; try (with_reducible rfl))
                try simp only [Act.put, List.setIfInBounds_toArray, List.set_cons_zero, List.set_cons_succ]
                refine held_take (i := 8) (v := ?_) rfl (by kernel_rfl) (by kernel_rfl) (by kernel_rfl) (fun _ _ _ h => h) (by rfl) hHeld ?_ ?_
                rotate_left 1
                · (intro w hSw; (try dsimp only at hSw); go_simp; try (with_reducible rfl))
                try simp only [Act.put, List.setIfInBounds_toArray, List.set_cons_zero, List.set_cons_succ]
                refine held_take (i := 9) (v := ?_) rfl (by kernel_rfl) (by kernel_rfl) (by kernel_rfl) (fun _ _ _ h => h) (by rfl) hHeld ?_ ?_
                rotate_left 1
                · (intro w hSw; (try dsimp only at hSw); go_simp; try (with_reducible rfl))
                try simp only [Act.put, List.setIfInBounds_toArray, List.set_cons_zero, List.set_cons_succ]
                refine held_take (i := 10) (v := ?_) rfl (by kernel_rfl) (by kernel_rfl) (by kernel_rfl) (fun _ _ _ h => h) (by rfl) hHeld ?_ ?_
                rotate_left 1
                · (intro w hSw; (try dsimp only at hSw); go_simp; try (with_reducible rfl))
                try simp only [Act.put, List.setIfInBounds_toArray, List.set_cons_zero, List.set_cons_succ]
                refine held_take (i := 11) (v := ?_) rfl (by kernel_rfl) (by kernel_rfl) (by kernel_rfl) (fun _ _ _ h => h) (by rfl) hHeld ?_ ?_
                rotate_left 1
                · (intro w hSw; (try dsimp only at hSw); go_simp; try (with_reducible rfl))
                try simp only [Act.put, List.setIfInBounds_toArray, List.set_cons_zero, List.set_cons_succ]
                refine held_one (i := 1) rfl (by kernel_rfl) (by rfl) (fun K hK => ?_)
                go_simp
                with_reducible refine HRo.out.mono ?_
                rintro e u1 ⟨rfl, rfl⟩
                refine hK.out _ _ (hHeld) (fun hHeld2 => ?_)
                clear hK K hHeld; have hHeld := hHeld2; clear hHeld2
                try simp only [Act.put, List.setIfInBounds_toArray, List.set_cons_zero, List.set_cons_succ]
                refine held_one (i := 6) rfl (by kernel_rfl) (by rfl) (fun K hK => ?_)
                go_simp
                with_reducible refine HRf2.out.mono ?_
                rintro e u1 ⟨rfl, rfl⟩
                refine hK.out _ _ (hHeld) (fun hHeld2 => ?_)
                clear hK K hHeld; have hHeld := hHeld2; clear hHeld2
                try simp only [Act.put, List.setIfInBounds_toArray, List.set_cons_zero, List.set_cons_succ]
                refine held_one (i := 12) rfl (by kernel_rfl) (by rfl) (fun K hK => ?_)
                go_simp
                with_reducible refine HCt.out.mono ?_
                rintro e u1 ⟨rfl, rfl⟩
                refine hK.out _ _ (hHeld) (fun hHeld2 => ?_)
                clear hK K hHeld; have hHeld := hHeld2; clear hHeld2
                try simp only [Act.put, List.setIfInBounds_toArray, List.set_cons_zero, List.set_cons_succ]
                refine held_take (i := 13) (v := ?_) rfl (by kernel_rfl) (by kernel_rfl) (by kernel_rfl) (fun _ _ _ h => h) (by rfl) hHeld ?_ ?_
                rotate_left 1
                · (intro w hSw; (try dsimp only at hSw); go_simp; try (with_reducible rfl))
                try simp only [Act.put, List.setIfInBounds_toArray, List.set_cons_zero, List.set_cons_succ]
                refine wpAnyH_done (by kernel_rfl) ?_ _
                go_wp2_with fail
                go_roundw
                case rel => exact ⟨j + 1, by go_num, by omega, hAk.out.drew⟩
                case measure => simp [numI]; omega
              · obtain rfl : j = 4 := by omega
                have hlk2 : ((m : Nat) : Int) + 1 = ((liveCnt L (i + 1) : Nat) : Int) := by rw [HCnt.out, if_pos hlk.out]; omega
                obtain ⟨z, hz⟩ : ∃ z : Int, z = (m : Int) := ⟨_, rfl⟩
                rw [← hz] at hlk2 ⊢
                have hmne : (z == (nl : Int)) = false := by simp only [beq_eq_false_iff_ne, ne_eq]; omega
                have HE2 := Lib.hid hlk2
                clear hlk2
                obtain ⟨g', hg', _, cl⟩ := (HLR2.out.aft hA23.out) _ _ HLl.out
                obtain rfl : lg = g' := by injection hg' with h1; injection h1
                clear hg'
                have hmc : z < (nl : Int) := by omega
                have h0z : 0 ≤ z := by omega
                have zkm : z.toNat = m := by omega
                have z60 : z ≤ 60 := by omega
                by_cases hm0 : m = 0
                · have hmz : ¬ z > 0 := by omega
                  clear hz hm0
                  go_wp2_with fail
                  have hdz : decide (z > 0) = false := by simp only [decide_eq_false_iff_not]; omega
                  refine wp_region_held_drew (S := fun w' => w'.cell? ⟨lg, m, none⟩ = some (.int .i64 ((i : Int) + 1))) (by kernel_rfl) (cl) (fun hHeld => ?_)
                  refine held_take (i := 0) (v := ?_) rfl (by kernel_rfl) (by kernel_rfl) (by kernel_rfl) (fun _ _ _ h => h) (by rfl) hHeld ?_ ?_
                  rotate_left 1
                  · (intro w hSw; (try dsimp only at hSw); go_simp; try (with_reducible rfl))
                  try simp only [Act.put, List.setIfInBounds_toArray, List.set_cons_zero, List.set_cons_succ]
                  refine held_take (i := 1) (v := ?_) rfl (by kernel_rfl) (by kernel_rfl) (by kernel_rfl) (fun _ _ _ h => h) (by rfl) hHeld ?_ ?_
                  rotate_left 1
                  · (intro w hSw; (try dsimp only at hSw); go_simp; try (with_reducible rfl))
                  try simp only [Act.put, List.setIfInBounds_toArray, List.set_cons_zero, List.set_cons_succ]
                  refine held_take (i := 2) (v := ?_) rfl (by kernel_rfl) (by kernel_rfl) (by kernel_rfl) (fun _ _ _ h => h) (by rfl) hHeld ?_ ?_
                  rotate_left 1
                  · (intro w hSw; (try dsimp only at hSw); go_simp; try (with_reducible rfl))
                  try simp only [Act.put, List.setIfInBounds_toArray, List.set_cons_zero, List.set_cons_succ]
                  refine held_take (i := 3) (v := ?_) rfl (by kernel_rfl) (by kernel_rfl) (by kernel_rfl) (fun _ _ _ h => h) (by rfl) hHeld ?_ ?_
                  rotate_left 1
                  · (intro w hSw; (try dsimp only at hSw); go_simp; try (with_reducible rfl))
                  try simp only [Act.put, List.setIfInBounds_toArray, List.set_cons_zero, List.set_cons_succ]
                  refine held_take (i := 4) (v := ?_) rfl (by kernel_rfl) (by kernel_rfl) (by kernel_rfl) (fun _ _ _ h => h) (by rfl) hHeld ?_ ?_
                  rotate_left 1
                  · (intro w hSw; (try dsimp only at hSw); go_simp; try (with_reducible rfl))
                  try simp only [Act.put, List.setIfInBounds_toArray, List.set_cons_zero, List.set_cons_succ]
                  refine held_take (i := 5) (v := ?_) rfl (by kernel_rfl) (by kernel_rfl) (by kernel_rfl) (fun _ _ _ h => h) (by rfl) hHeld ?_ ?_
                  rotate_left 1
                  · (intro w hSw; (try dsimp only at hSw); go_simp; try (with_reducible rfl))
                  try simp only [Act.put, List.setIfInBounds_toArray, List.set_cons_zero, List.set_cons_succ]
                  refine held_take (i := 6) (v := ?_) rfl (by kernel_rfl) (by kernel_rfl) (by kernel_rfl) (fun _ _ _ h => h) (by rfl) hHeld ?_ ?_
                  rotate_left 1
                  · (intro w hSw; (try dsimp only at hSw); go_simp; try (with_reducible rfl))
                  try simp only [Act.put, List.setIfInBounds_toArray, List.set_cons_zero, List.set_cons_succ]
                  refine held_take (i := 7) (v := ?_) rfl (by kernel_rfl) (by kernel_rfl) (by kernel_rfl) (fun _ _ _ h => h) (by rfl) hHeld ?_ ?_
                  rotate_left 1
                  · (intro w hSw; (try dsimp only at hSw); go_simp; try (with_reducible rfl))
                  try simp only [Act.put, List.setIfInBounds_toArray, List.set_cons_zero, List.set_cons_succ]
                  refine held_off (i := 8) rfl (by kernel_rfl) (by kernel_rfl) (by kernel_rfl) (fun _ _ _ h => h) (by rfl) hHeld ?_
                  try simp only [Act.put, List.setIfInBounds_toArray, List.set_cons_zero, List.set_cons_succ]
                  refine held_off (i := 9) rfl (by kernel_rfl) (by kernel_rfl) (by kernel_rfl) (fun _ _ _ h => h) (by rfl) hHeld ?_
                  try simp only [Act.put, List.setIfInBounds_toArray, List.set_cons_zero, List.set_cons_succ]
                  refine held_off (i := 10) rfl (by kernel_rfl) (by kernel_rfl) (by kernel_rfl) (fun _ _ _ h => h) (by rfl) hHeld ?_
                  try simp only [Act.put, List.setIfInBounds_toArray, List.set_cons_zero, List.set_cons_succ]
                  refine held_off (i := 11) rfl (by kernel_rfl) (by kernel_rfl) (by kernel_rfl) (fun _ _ _ h => h) (by rfl) hHeld ?_
                  try simp only [Act.put, List.setIfInBounds_toArray, List.set_cons_zero, List.set_cons_succ]
                  refine held_off (i := 12) rfl (by kernel_rfl) (by kernel_rfl) (by kernel_rfl) (fun _ _ _ h => h) (by rfl) hHeld ?_
                  try simp only [Act.put, List.setIfInBounds_toArray, List.set_cons_zero, List.set_cons_succ]
                  refine held_off (i := 13) rfl (by kernel_rfl) (by kernel_rfl) (by kernel_rfl) (fun _ _ _ h => h) (by rfl) hHeld ?_
                  try simp only [Act.put, List.setIfInBounds_toArray, List.set_cons_zero, List.set_cons_succ]
                  refine held_off (i := 14) rfl (by kernel_rfl) (by kernel_rfl) (by kernel_rfl) (fun _ _ _ h => h) (by rfl) hHeld ?_
                  try simp only [Act.put, List.setIfInBounds_toArray, List.set_cons_zero, List.set_cons_succ]
                  refine held_off (i := 15) rfl (by kernel_rfl) (by kernel_rfl) (by kernel_rfl) (fun _ _ _ h => h) (by rfl) hHeld ?_
                  try simp only [Act.put, List.setIfInBounds_toArray, List.set_cons_zero, List.set_cons_succ]
                  refine held_off (i := 16) rfl (by kernel_rfl) (by kernel_rfl) (by kernel_rfl) (fun _ _ _ h => h) (by rfl) hHeld ?_
                  try simp only [Act.put, List.setIfInBounds_toArray, List.set_cons_zero, List.set_cons_succ]
                  refine held_off (i := 17) rfl (by kernel_rfl) (by kernel_rfl) (by kernel_rfl) (fun _ _ _ h => h) (by rfl) hHeld ?_
                  try simp only [Act.put, List.setIfInBounds_toArray, List.set_cons_zero, List.set_cons_succ]
                  refine held_take (i := 18) (v := ?_) rfl (by kernel_rfl) (by kernel_rfl) (by kernel_rfl) (fun _ _ _ h => h) (by rfl) hHeld ?_ ?_
                  rotate_left 1
                  · (intro w hSw; (try dsimp only at hSw); go_simp; try (with_reducible rfl))
                  try simp only [Act.put, List.setIfInBounds_toArray, List.set_cons_zero, List.set_cons_succ]
                  refine held_take (i := 19) (v := ?_) rfl (by kernel_rfl) (by kernel_rfl) (by kernel_rfl) (fun _ _ _ h => h) (by rfl) hHeld ?_ ?_
                  rotate_left 1
                  · (intro w hSw; (try dsimp only at hSw); go_simp; try (with_reducible rfl))
                  try simp only [Act.put, List.setIfInBounds_toArray, List.set_cons_zero, List.set_cons_succ]
                  refine wpAnyH_done (by kernel_rfl) ?_ _
                  go_wp2_with fail
                  go_roundw
                  case rel => exact ⟨i + 1, by go_num, by rw [← HE2.out], by omega, hA1r.out.drew⟩
                  case measure => simp [numI]; omega
                · have hmz : z > 0 := by omega
                  obtain ⟨mm, hmm⟩ : ∃ mm : Nat, m = mm + 1 := ⟨m - 1, by omega⟩
                  have zk : (z - 1).toNat = mm := by omega
                  obtain ⟨y, hy1, hy2⟩ := HLt.out mm (by omega)
                  obtain ⟨g', hg', _, cl2⟩ := (HLR2.out.aft hA23.out) _ _ hy1
                  obtain rfl : lg = g' := by injection hg' with h1; injection h1
                  have hle : ¬ (i : Int) + 1 ≤ y := by omega
                  have hz0 : 0 ≤ z - 1 := by omega
                  have hz1 : z - 1 < (nl : Int) := by omega
                  clear hg' hy1 hmm hz hm0
                  go_wp2_with fail
                  have hdle : decide ((i : Int) + 1 ≤ y) = false := by simp only [decide_eq_false_iff_not]; omega
                  have hz2 : 1 ≤ z := by omega
                  have hwz : IntKind.i64.wrap (z - 1) = z - 1 := by rw [IntKind.wrap_i64]; omega
                  refine wp_region_held_drew (S := fun w' => w'.cell? ⟨lg, m, none⟩ = some (.int .i64 ((i : Int) + 1)) ∧ w'.cell? ⟨lg, mm, none⟩ = some (.int .i64 y)) (by kernel_rfl) (And.intro cl cl2) (fun hHeld => ?_)
                  refine held_take (i := 0) (v := ?_) rfl (by kernel_rfl) (by kernel_rfl) (by kernel_rfl) (fun _ _ _ h => h) (by rfl) hHeld ?_ ?_
                  rotate_left 1
                  · (intro w hSw; (try dsimp only at hSw); go_simp; try (with_reducible rfl))
                  try simp only [Act.put, List.setIfInBounds_toArray, List.set_cons_zero, List.set_cons_succ]
                  refine held_take (i := 1) (v := ?_) rfl (by kernel_rfl) (by kernel_rfl) (by kernel_rfl) (fun _ _ _ h => h) (by rfl) hHeld ?_ ?_
                  rotate_left 1
                  · (intro w hSw; (try dsimp only at hSw); go_simp; try (with_reducible rfl))
                  try simp only [Act.put, List.setIfInBounds_toArray, List.set_cons_zero, List.set_cons_succ]
                  refine held_take (i := 2) (v := ?_) rfl (by kernel_rfl) (by kernel_rfl) (by kernel_rfl) (fun _ _ _ h => h) (by rfl) hHeld ?_ ?_
                  rotate_left 1
                  · (intro w hSw; (try dsimp only at hSw); go_simp; try (with_reducible rfl))
                  try simp only [Act.put, List.setIfInBounds_toArray, List.set_cons_zero, List.set_cons_succ]
                  refine held_take (i := 3) (v := ?_) rfl (by kernel_rfl) (by kernel_rfl) (by kernel_rfl) (fun _ _ _ h => h) (by rfl) hHeld ?_ ?_
                  rotate_left 1
                  · (intro w hSw; (try dsimp only at hSw); go_simp; try (with_reducible rfl))
                  try simp only [Act.put, List.setIfInBounds_toArray, List.set_cons_zero, List.set_cons_succ]
                  refine held_take (i := 4) (v := ?_) rfl (by kernel_rfl) (by kernel_rfl) (by kernel_rfl) (fun _ _ _ h => h) (by rfl) hHeld ?_ ?_
                  rotate_left 1
                  · (intro w hSw; (try dsimp only at hSw); go_simp; try (with_reducible rfl))
                  try simp only [Act.put, List.setIfInBounds_toArray, List.set_cons_zero, List.set_cons_succ]
                  refine held_take (i := 5) (v := ?_) rfl (by kernel_rfl) (by kernel_rfl) (by kernel_rfl) (fun _ _ _ h => h) (by rfl) hHeld ?_ ?_
                  rotate_left 1
                  · (intro w hSw; (try dsimp only at hSw); go_simp; try (with_reducible rfl))
                  try simp only [Act.put, List.setIfInBounds_toArray, List.set_cons_zero, List.set_cons_succ]
                  refine held_take (i := 6) (v := ?_) rfl (by kernel_rfl) (by kernel_rfl) (by kernel_rfl) (fun _ _ _ h => h) (by rfl) hHeld ?_ ?_
                  rotate_left 1
                  · (intro w hSw; (try dsimp only at hSw); go_simp; try (with_reducible rfl))
                  try simp only [Act.put, List.setIfInBounds_toArray, List.set_cons_zero, List.set_cons_succ]
                  refine held_take (i := 7) (v := ?_) rfl (by kernel_rfl) (by kernel_rfl) (by kernel_rfl) (fun _ _ _ h => h) (by rfl) hHeld ?_ ?_
                  rotate_left 1
                  · (intro w hSw; (try dsimp only at hSw); go_simp; try (with_reducible rfl))
                  try simp only [Act.put, List.setIfInBounds_toArray, List.set_cons_zero, List.set_cons_succ]
                  refine held_take (i := 8) (v := ?_) rfl (by kernel_rfl) (by kernel_rfl) (by kernel_rfl) (fun _ _ _ h => h) (by rfl) hHeld ?_ ?_
                  rotate_left 1
                  · (intro w hSw; (try dsimp only at hSw); go_simp; try (with_reducible rfl))
                  try simp only [Act.put, List.setIfInBounds_toArray, List.set_cons_zero, List.set_cons_succ]
                  refine held_take (i := 9) (v := ?_) rfl (by kernel_rfl) (by kernel_rfl) (by kernel_rfl) (fun _ _ _ h => h) (by rfl) hHeld ?_ ?_
                  rotate_left 1
                  · (intro w hSw; (try dsimp only at hSw); go_simp; try (with_reducible rfl))
                  try simp only [Act.put, List.setIfInBounds_toArray, List.set_cons_zero, List.set_cons_succ]
                  refine held_take (i := 10) (v := ?_) rfl (by kernel_rfl) (by kernel_rfl) (by kernel_rfl) (fun _ _ _ h => h) (by rfl) hHeld ?_ ?_
                  rotate_left 1
                  · (intro w hSw; (try dsimp only at hSw); go_simp; try (with_reducible rfl))
                  try simp only [Act.put, List.setIfInBounds_toArray, List.set_cons_zero, List.set_cons_succ]
                  refine held_take (i := 11) (v := ?_) rfl (by kernel_rfl) (by kernel_rfl) (by kernel_rfl) (fun _ _ _ h => h) (by rfl) hHeld ?_ ?_
                  rotate_left 1
                  · (intro w hSw; (try dsimp only at hSw); go_simp; try (with_reducible rfl))
                  try simp only [Act.put, List.setIfInBounds_toArray, List.set_cons_zero, List.set_cons_succ]
                  refine held_take (i := 12) (v := ?_) rfl (by kernel_rfl) (by kernel_rfl) (by kernel_rfl) (fun _ _ _ h => h) (by rfl) hHeld ?_ ?_
                  rotate_left 1
                  · (intro w hSw; (try dsimp only at hSw); go_simp; try (with_reducible rfl))
                  try simp only [Act.put, List.setIfInBounds_toArray, List.set_cons_zero, List.set_cons_succ]
                  refine held_take (i := 13) (v := ?_) rfl (by kernel_rfl) (by kernel_rfl) (by kernel_rfl) (fun _ _ _ h => h) (by rfl) hHeld ?_ ?_
                  rotate_left 1
                  · (intro w hSw; (try dsimp only at hSw); go_simp; try (with_reducible rfl))
                  try simp only [Act.put, List.setIfInBounds_toArray, List.set_cons_zero, List.set_cons_succ]
                  refine held_take (i := 14) (v := ?_) rfl (by kernel_rfl) (by kernel_rfl) (by kernel_rfl) (fun _ _ _ h => h) (by rfl) hHeld ?_ ?_
                  rotate_left 1
                  · (intro w hSw; (try dsimp only at hSw); go_simp; try (with_reducible rfl))
                  try simp only [Act.put, List.setIfInBounds_toArray, List.set_cons_zero, List.set_cons_succ]
                  refine held_take (i := 15) (v := ?_) rfl (by kernel_rfl) (by kernel_rfl) (by kernel_rfl) (fun _ _ _ h => h) (by rfl) hHeld ?_ ?_
                  rotate_left 1
                  · (intro w hSw; (try dsimp only at hSw); go_simp; try (with_reducible rfl))
                  try simp only [Act.put, List.setIfInBounds_toArray, List.set_cons_zero, List.set_cons_succ]
                  refine held_take (i := 16) (v := ?_) rfl (by kernel_rfl) (by kernel_rfl) (by kernel_rfl) (fun _ _ _ h => h) (by rfl) hHeld ?_ ?_
                  rotate_left 1
                  · (intro w hSw; (try dsimp only at hSw); go_simp; try (with_reducible rfl))
                  try simp only [Act.put, List.setIfInBounds_toArray, List.set_cons_zero, List.set_cons_succ]
                  refine held_take (i := 17) (v := ?_) rfl (by kernel_rfl) (by kernel_rfl) (by kernel_rfl) (fun _ _ _ h => h) (by rfl) hHeld ?_ ?_
                  rotate_left 1
                  · (intro w hSw; (try dsimp only at hSw); go_simp; try (with_reducible rfl))
                  try simp only [Act.put, List.setIfInBounds_toArray, List.set_cons_zero, List.set_cons_succ]
                  refine held_take (i := 18) (v := ?_) rfl (by kernel_rfl) (by kernel_rfl) (by kernel_rfl) (fun _ _ _ h => h) (by rfl) hHeld ?_ ?_
                  rotate_left 1
                  · (intro w hSw; (try dsimp only at hSw); go_simp; try (with_reducible rfl))
                  try simp only [Act.put, List.setIfInBounds_toArray, List.set_cons_zero, List.set_cons_succ]
                  refine held_take (i := 19) (v := ?_) rfl (by kernel_rfl) (by kernel_rfl) (by kernel_rfl) (fun _ _ _ h => h) (by rfl) hHeld ?_ ?_
                  rotate_left 1
                  · (intro w hSw; (try dsimp only at hSw); go_simp; try (with_reducible rfl))
                  try simp only [Act.put, List.setIfInBounds_toArray, List.set_cons_zero, List.set_cons_succ]
                  refine wpAnyH_done (by kernel_rfl) ?_ _
                  go_wp2_with fail
                  go_roundw
                  case rel => exact ⟨i + 1, by go_num, by rw [← HE2.out], by omega, hA1r.out.drew⟩
                  case measure => simp [numI]; omega
      · have hcr0 : c.r = 0 := by have := HI.out.nn i c hc; omega
        have hr00 : r = 0 := by rw [hr, ← hcr, hcr0]
        have hr0 : ¬ r > 0 := by omega
        have HR0 := Lib.hid hr00
        have hdd : Dead L ((i : Int) + 1) := fun k d hk hd => by
          obtain rfl : i = k := by omega
          rw [hc] at hd; obtain rfl := Option.some.inj hd; exact hlv
        have HDd := Lib.hid hdd
        have HSt := Lib.hid (fun (u : World) (hu : Aft w1 u) => sstate_out u S P A M l L (HSM1.out u hu) ((i : Int) + 1) HIx.out HDd.out)
        have hlk : Hid (liveK L i = false) := by unfold Hid liveK; rw [hc]; simp [hcr0]
        clear hcr0 hr00 hdd hlive hcr hc hp hg hr hlv
        obtain ⟨yg, hyg⟩ : ∃ yg, yg = zG 32 := ⟨_, rfl⟩
        have HYgE := Lib.hid hyg
        have HNP := Lib.hid (new_pic wr)
        have HYg : Hid (yg.length = 32) := by rw [Hid, hyg]; exact z32.out
        rw [← hyg] at HSt
        clear hyg
        go_wp2_with (first
          | (with_reducible refine wpList_load_pic rfl (.tmp 31) rfl rb i (by with_unfolding_all rfl) p HCell.out Try.underlying69 ?_)
          | ((with_reducible refine wpList_store_blk rfl 69 (.tmp 8) (.tmp 32) rfl wr.heap.size (by with_unfolding_all rfl) 69 zP (picA i p) HNP.out (by with_unfolding_all rfl) (zP_sz _ _) (infoBpA _ _) (picA_one _ _) ?_); intro w3 G3 S3 R3; have HV : Hid (PV w3 wr.heap.size i p) := G3; have HA3 := Lib.hid (hAr.out.trans (stored_aft R3)); have cid : w3.cell? ⟨wr.heap.size, 0, none⟩ = some (.int .i64 ((i : Int) + 1)) := HV.out.cell 0 (by omega); clear G3 S3 R3)
          | (go_at_call 19; refine (HSt.out _ HA3.out).mono ?_; rintro e w4 ⟨rfl, hb4⟩; have HV4 := Lib.hid (HV.out.aft hb4); have HA4 := Lib.hid (HA3.out.trans hb4); clear hb4)
          | (with_reducible refine wpList_store_g rfl 38 (.tmp 9) (.tmp 38) rfl _ (by with_unfolding_all rfl) 38 (zG 32) yg (GA.new _ _ _) (by with_unfolding_all rfl) (by rw [HYg.out, z32.out]) (by rw [HYg.out]; exact infoState) ?_; intro w5 G5 S5 R5; have HY5 := Lib.hid G5; have HV5 := Lib.hid (HV4.out.aft (stored_aft R5)); have HA5 := Lib.hid (HA4.out.trans (stored_aft R5)); clear G5 S5 R5))
        obtain ⟨p8, hp8⟩ : ∃ p8, p8 = wr.heap.size := ⟨_, rfl⟩
        obtain ⟨y9, hy9⟩ : ∃ y9, y9 = w4.heap.size := ⟨_, rfl⟩
        rw [← hp8] at HV5 ⊢
        rw [← hy9] at HY5 ⊢
        clear hp8 hy9 HV HV4 HA3 HA4 cid
        have HKp := Lib.hid (fun (u : World) (hu : Aft w5 u) => And.intro ((HV5.out.aft hu).cell 0 (by omega)) (And.intro (((HV5.out.aft hu).cell 1 (by omega)).trans (congrArg some hPr1)) (And.intro (by have := (HV5.out.aft hu).game (by rw [← HgP.out]; exact HG32.out); rw [← HgP.out] at this; exact this) (HY5.out.aft hu))))
        have HRf := Lib.hid (fun (u : World) (hu : Aft w5 u) => srefs_out u S P A M l L (HSM1.out u (HA5.out.trans hu)) ((i : Int) + 1) HIx.out HDd.out)
        rw [← HR0.out] at HRf
        have HPg := Lib.hid (fun (u : World) (hu : Aft w5 u) => spages_out u S P A M l L (HSM1.out u (HA5.out.trans hu)) ((i : Int) + 1) HIx.out HDd.out)
        have hcur : Hid (Aft w5 w5.drew) := (Below.refl _ _).drew
        have hneq : ∀ W, (binOp .neq 38 (.agg (gC yg)) (.agg (gC (zG 32)))).run Try.prog W = .ok (.bool false) W := fun W => by
          rw [HYgE.out, run_neq_struct, equalIn_g 38 Try.underlying38 Try.underlying21 infoCell (zG 32) (zG 32) z32.out z32.out W]; simp [Result.andThen]
        have hgd : Try.prog.eqGuardType Try.prog.depth 38 = false := by kernel_rfl
        go_wp2_with fail
        have hd0 : decide (r > 0) = false := decide_eq_false (by have := HR0.out; omega)
        refine wp_region_held_drew (S := fun w' => w'.cell? ⟨p8, 0, none⟩ = some (.int .i64 ((i : Int) + 1)) ∧ w'.cell? ⟨p8, 1, none⟩ = some (.int .i64 r) ∧ w'.rangeAt p8 2 (gC g).toList ∧ GA w' y9 38 yg) (by kernel_rfl) (HKp.out _ hcur.out) (fun hHeld => ?_)
        refine held_take (i := 0) (v := ?_) rfl (by kernel_rfl) (by kernel_rfl) (by kernel_rfl) (fun _ _ _ h => h) (by rfl) hHeld ?_ ?_
        rotate_left 1
        · (intro w hSw; (try dsimp only at hSw); go_simp; try (with_reducible rfl))
        try simp only [Act.put, List.setIfInBounds_toArray, List.set_cons_zero, List.set_cons_succ]
        refine held_take (i := 1) (v := ?_) rfl (by kernel_rfl) (by kernel_rfl) (by kernel_rfl) (fun _ _ _ h => h) (by rfl) hHeld ?_ ?_
        rotate_left 1
        · (intro w hSw; (try dsimp only at hSw); go_simp; try (with_reducible rfl))
        try simp only [Act.put, List.setIfInBounds_toArray, List.set_cons_zero, List.set_cons_succ]
        refine held_take (i := 2) (v := ?_) rfl (by kernel_rfl) (by kernel_rfl) (by kernel_rfl) (fun _ _ _ h => h) (by rfl) hHeld ?_ ?_
        rotate_left 1
        · (intro w hSw; (try dsimp only at hSw); go_simp; try (with_reducible rfl))
        try simp only [Act.put, List.setIfInBounds_toArray, List.set_cons_zero, List.set_cons_succ]
        refine held_take (i := 3) (v := ?_) rfl (by kernel_rfl) (by kernel_rfl) (by kernel_rfl) (fun _ _ _ h => h) (by rfl) hHeld ?_ ?_
        rotate_left 1
        · (intro w hSw; (try dsimp only at hSw); go_simp; try (with_reducible rfl))
        try simp only [Act.put, List.setIfInBounds_toArray, List.set_cons_zero, List.set_cons_succ]
        refine held_take (i := 4) (v := ?_) rfl (by kernel_rfl) (by kernel_rfl) (by kernel_rfl) (fun _ _ _ h => h) (by rfl) hHeld ?_ ?_
        rotate_left 1
        · (intro w hSw; (try dsimp only at hSw); go_simp; try (with_reducible rfl))
        try simp only [Act.put, List.setIfInBounds_toArray, List.set_cons_zero, List.set_cons_succ]
        refine held_take (i := 5) (v := ?_) rfl (by kernel_rfl) (by kernel_rfl) (by kernel_rfl) (fun _ _ _ h => h) (by rfl) hHeld ?_ ?_
        rotate_left 1
        · (intro w hSw; (try dsimp only at hSw); go_simp; try (with_reducible rfl))
        try simp only [Act.put, List.setIfInBounds_toArray, List.set_cons_zero, List.set_cons_succ]
        refine held_take (i := 6) (v := ?_) rfl (by kernel_rfl) (by kernel_rfl) (by kernel_rfl) (fun _ _ _ h => h) (by rfl) hHeld ?_ ?_
        rotate_left 1
        · (intro w hSw; (try dsimp only at hSw); go_simp; try (with_reducible rfl))
        try simp only [Act.put, List.setIfInBounds_toArray, List.set_cons_zero, List.set_cons_succ]
        refine held_take (i := 7) (v := ?_) rfl (by kernel_rfl) (by kernel_rfl) (by kernel_rfl) (fun _ _ _ h => h) (by rfl) hHeld ?_ ?_
        rotate_left 1
        · (intro w hSw; (try dsimp only at hSw); go_simp; try (with_reducible rfl))
        try simp only [Act.put, List.setIfInBounds_toArray, List.set_cons_zero, List.set_cons_succ]
        refine held_take (i := 8) (v := ?_) rfl (by kernel_rfl) (by kernel_rfl) (by kernel_rfl) (fun _ _ _ h => h) (by rfl) hHeld ?_ ?_
        rotate_left 1
        · (intro w hSw; (try dsimp only at hSw); go_simp; try (with_reducible rfl))
        try simp only [Act.put, List.setIfInBounds_toArray, List.set_cons_zero, List.set_cons_succ]
        refine held_take (i := 10) (v := ?_) rfl (by kernel_rfl) (by kernel_rfl) (by kernel_rfl) (fun _ _ _ h => h) (by rfl) hHeld ?_ ?_
        rotate_left 1
        · (intro w hSw; (try dsimp only at hSw); go_simp; try (with_reducible rfl))
        try simp only [Act.put, List.setIfInBounds_toArray, List.set_cons_zero, List.set_cons_succ]
        refine held_take (i := 11) (v := ?_) rfl (by kernel_rfl) (by kernel_rfl) (by kernel_rfl) (fun _ _ _ h => h) (by rfl) hHeld ?_ ?_
        rotate_left 1
        · (intro w hSw; (try dsimp only at hSw); go_simp; try (with_reducible rfl))
        try simp only [Act.put, List.setIfInBounds_toArray, List.set_cons_zero, List.set_cons_succ]
        refine held_one (i := 9) rfl (by kernel_rfl) (by rfl) (fun K hK => ?_)
        go_simp
        with_reducible refine (HRf.out _ hcur.out).mono ?_
        rintro e u1 ⟨rfl, rfl⟩
        refine hK.out _ _ (hHeld) (fun hHeld2 => ?_)
        clear hK K hHeld; have hHeld := hHeld2; clear hHeld2
        try simp only [Act.put, List.setIfInBounds_toArray, List.set_cons_zero, List.set_cons_succ]
        refine held_take (i := 12) (v := ?_) rfl (by kernel_rfl) (by kernel_rfl) (by kernel_rfl) (fun _ _ _ h => h) (by rfl) hHeld ?_ ?_
        rotate_left 1
        · (intro w hSw; (try dsimp only at hSw); go_simp; try (with_reducible rfl))
        try simp only [Act.put, List.setIfInBounds_toArray, List.set_cons_zero, List.set_cons_succ]
        refine held_take (i := 13) (v := ?_) rfl (by kernel_rfl) (by kernel_rfl) (by kernel_rfl) (fun _ _ _ h => h) (by rfl) hHeld ?_ ?_
        rotate_left 1
        · (intro w hSw; (try dsimp only at hSw); go_simp; try (with_reducible rfl))
        try simp only [Act.put, List.setIfInBounds_toArray, List.set_cons_zero, List.set_cons_succ]
        refine held_take (i := 14) (v := ?_) rfl (by kernel_rfl) (by kernel_rfl) (by kernel_rfl) (fun _ _ _ h => h) (by rfl) hHeld ?_ ?_
        rotate_left 1
        · (intro w hSw; (try dsimp only at hSw); go_simp; try (with_reducible rfl))
        try simp only [Act.put, List.setIfInBounds_toArray, List.set_cons_zero, List.set_cons_succ]
        refine held_take (i := 15) (v := ?_) rfl (by kernel_rfl) (by kernel_rfl) (by kernel_rfl) (fun _ _ _ h => h) (by rfl) hHeld ?_ ?_
        rotate_left 1
        · (intro w hSw; (try dsimp only at hSw); go_simp; try (with_reducible rfl))
        try simp only [Act.put, List.setIfInBounds_toArray, List.set_cons_zero, List.set_cons_succ]
        refine held_take (i := 16) (v := ?_) rfl (by kernel_rfl) (by kernel_rfl) (by kernel_rfl) (fun _ _ _ h => h) (by rfl) hHeld ?_ ?_
        rotate_left 1
        · (intro w hSw; (try dsimp only at hSw); go_simp; try (with_reducible rfl))
        try simp only [Act.put, List.setIfInBounds_toArray, List.set_cons_zero, List.set_cons_succ]
        refine held_off (i := 17) rfl (by kernel_rfl) (by kernel_rfl) (by kernel_rfl) (fun _ _ _ h => h) (by rfl) hHeld ?_
        try simp only [Act.put, List.setIfInBounds_toArray, List.set_cons_zero, List.set_cons_succ]
        refine held_off (i := 18) rfl (by kernel_rfl) (by kernel_rfl) (by kernel_rfl) (fun _ _ _ h => h) (by rfl) hHeld ?_
        try simp only [Act.put, List.setIfInBounds_toArray, List.set_cons_zero, List.set_cons_succ]
        refine held_off (i := 19) rfl (by kernel_rfl) (by kernel_rfl) (by kernel_rfl) (fun _ _ _ h => h) (by rfl) hHeld ?_
        try simp only [Act.put, List.setIfInBounds_toArray, List.set_cons_zero, List.set_cons_succ]
        refine held_off (i := 20) rfl (by kernel_rfl) (by kernel_rfl) (by kernel_rfl) (fun _ _ _ h => h) (by rfl) hHeld ?_
        try simp only [Act.put, List.setIfInBounds_toArray, List.set_cons_zero, List.set_cons_succ]
        refine held_take (i := 21) (v := ?_) rfl (by kernel_rfl) (by kernel_rfl) (by kernel_rfl) (fun _ _ _ h => h) (by rfl) hHeld ?_ ?_
        rotate_left 1
        · (intro w hSw; (try dsimp only at hSw); go_simp; try (with_reducible rfl))
        try simp only [Act.put, List.setIfInBounds_toArray, List.set_cons_zero, List.set_cons_succ]
        refine held_take (i := 22) (v := ?_) rfl (by kernel_rfl) (by kernel_rfl) (by kernel_rfl) (fun _ _ _ h => h) (by rfl) hHeld ?_ ?_
        rotate_left 1
        · (intro w hSw; (try dsimp only at hSw); go_simp; try (with_reducible rfl))
        try simp only [Act.put, List.setIfInBounds_toArray, List.set_cons_zero, List.set_cons_succ]
        refine held_take (i := 23) (v := ?_) rfl (by kernel_rfl) (by kernel_rfl) (by kernel_rfl) (fun _ _ _ h => h) (by rfl) hHeld ?_ ?_
        rotate_left 1
        · (intro w hSw; (try dsimp only at hSw); go_simp; try (with_reducible rfl))
        try simp only [Act.put, List.setIfInBounds_toArray, List.set_cons_zero, List.set_cons_succ]
        refine held_take (i := 24) (v := ?_) rfl (by kernel_rfl) (by kernel_rfl) (by kernel_rfl) (fun _ _ _ h => h) (by rfl) hHeld ?_ ?_
        rotate_left 1
        · (intro w hSw; (try dsimp only at hSw); go_simp; try (with_reducible rfl))
        try simp only [Act.put, List.setIfInBounds_toArray, List.set_cons_zero, List.set_cons_succ]
        refine held_take (i := 25) (v := ?_) rfl (by kernel_rfl) (by kernel_rfl) (by kernel_rfl) (fun _ _ _ h => h) (by rfl) hHeld ?_ ?_
        rotate_left 1
        · (intro w hSw; (try dsimp only at hSw); go_simp; try (with_reducible rfl))
        try simp only [Act.put, List.setIfInBounds_toArray, List.set_cons_zero, List.set_cons_succ]
        refine held_take (i := 26) (v := ?_) rfl (by kernel_rfl) (by kernel_rfl) (by kernel_rfl) (fun _ _ _ h => h) (by rfl) hHeld ?_ ?_
        rotate_left 1
        · (intro w hSw; (try dsimp only at hSw); go_simp; try (with_reducible rfl))
        try simp only [Act.put, List.setIfInBounds_toArray, List.set_cons_zero, List.set_cons_succ]
        refine held_take (i := 27) (v := .agg (gC yg)) rfl (by kernel_rfl) (by kernel_rfl) (by kernel_rfl) (fun _ _ _ h => h) (by rfl) hHeld (exec_load_g _ _ rfl y9 (by rfl) 38 yg (fun w h => h.2.2.2) Try.underlying38 (by rw [HYg.out]; exact infoState)) ?_
        try simp only [Act.put, List.setIfInBounds_toArray, List.set_cons_zero, List.set_cons_succ]
        refine held_take (i := 28) (v := ?_) rfl (by kernel_rfl) (by kernel_rfl) (by kernel_rfl) (fun _ _ _ h => h) (by rfl) hHeld ?_ ?_
        rotate_left 1
        · (intro w hSw; (try dsimp only at hSw); go_simp; try (with_reducible rfl))
        try simp only [Act.put, List.setIfInBounds_toArray, List.set_cons_zero, List.set_cons_succ]
        refine held_take (i := 29) (v := ?_) rfl (by kernel_rfl) (by kernel_rfl) (by kernel_rfl) (fun _ _ _ h => h) (by rfl) hHeld ?_ ?_
        rotate_left 1
        · (intro w hSw; (try dsimp only at hSw); go_simp; try (with_reducible rfl))
        try simp only [Act.put, List.setIfInBounds_toArray, List.set_cons_zero, List.set_cons_succ]
        refine held_take (i := 30) (v := ?_) rfl (by kernel_rfl) (by kernel_rfl) (by kernel_rfl) (fun _ _ _ h => h) (by rfl) hHeld ?_ ?_
        rotate_left 1
        · (intro w hSw; (try dsimp only at hSw); go_simp; try (with_reducible rfl))
        try simp only [Act.put, List.setIfInBounds_toArray, List.set_cons_zero, List.set_cons_succ]
        refine held_take (i := 31) (v := ?_) rfl (by kernel_rfl) (by kernel_rfl) (by kernel_rfl) (fun _ _ _ h => h) (by rfl) hHeld ?_ ?_
        rotate_left 1
        · (intro w hSw; (try dsimp only at hSw); go_simp; try (with_reducible rfl))
        try simp only [Act.put, List.setIfInBounds_toArray, List.set_cons_zero, List.set_cons_succ]
        refine held_take (i := 32) (v := ?_) rfl (by kernel_rfl) (by kernel_rfl) (by kernel_rfl) (fun _ _ _ h => h) (by rfl) hHeld ?_ ?_
        rotate_left 1
        · (intro w hSw; (try dsimp only at hSw); go_simp; try (with_reducible rfl))
        try simp only [Act.put, List.setIfInBounds_toArray, List.set_cons_zero, List.set_cons_succ]
        refine held_take (i := 33) (v := ?_) rfl (by kernel_rfl) (by kernel_rfl) (by kernel_rfl) (fun _ _ _ h => h) (by rfl) hHeld ?_ ?_
        rotate_left 1
        · (intro w hSw; (try dsimp only at hSw); go_simp; try (with_reducible rfl))
        try simp only [Act.put, List.setIfInBounds_toArray, List.set_cons_zero, List.set_cons_succ]
        refine held_take (i := 34) (v := ?_) rfl (by kernel_rfl) (by kernel_rfl) (by kernel_rfl) (fun _ _ _ h => h) (by rfl) hHeld ?_ ?_
        rotate_left 1
        · (intro w hSw; (try dsimp only at hSw); go_simp; try (with_reducible rfl))
        try simp only [Act.put, List.setIfInBounds_toArray, List.set_cons_zero, List.set_cons_succ]
        refine held_take (i := 35) (v := ?_) rfl (by kernel_rfl) (by kernel_rfl) (by kernel_rfl) (fun _ _ _ h => h) (by rfl) hHeld ?_ ?_
        rotate_left 1
        · (intro w hSw; (try dsimp only at hSw); go_simp; try (with_reducible rfl))
        try simp only [Act.put, List.setIfInBounds_toArray, List.set_cons_zero, List.set_cons_succ]
        refine held_take (i := 39) (v := ?_) rfl (by kernel_rfl) (by kernel_rfl) (by kernel_rfl) (fun _ _ _ h => h) (by rfl) hHeld ?_ ?_
        rotate_left 1
        · (intro w hSw; (try dsimp only at hSw); go_simp; try (with_reducible rfl))
        try simp only [Act.put, List.setIfInBounds_toArray, List.set_cons_zero, List.set_cons_succ]
        refine held_one (i := 36) rfl (by kernel_rfl) (by rfl) (fun K hK => ?_)
        go_simp
        with_reducible refine (HPg.out _ hcur.out).mono ?_
        rintro e u2 ⟨rfl, rfl⟩
        refine hK.out _ _ (hHeld) (fun hHeld2 => ?_)
        clear hK K hHeld; have hHeld := hHeld2; clear hHeld2
        try simp only [Act.put, List.setIfInBounds_toArray, List.set_cons_zero, List.set_cons_succ]
        refine held_take (i := 37) (v := ?_) rfl (by kernel_rfl) (by kernel_rfl) (by kernel_rfl) (fun _ _ _ h => h) (by rfl) hHeld ?_ ?_
        rotate_left 1
        · (intro w hSw; (try dsimp only at hSw); go_simp; try (with_reducible rfl))
        try simp only [Act.put, List.setIfInBounds_toArray, List.set_cons_zero, List.set_cons_succ]
        refine held_take (i := 38) (v := ?_) rfl (by kernel_rfl) (by kernel_rfl) (by kernel_rfl) (fun _ _ _ h => h) (by rfl) hHeld ?_ ?_
        rotate_left 1
        · (intro w hSw; (try dsimp only at hSw); go_simp; try (with_reducible rfl))
        try simp only [Act.put, List.setIfInBounds_toArray, List.set_cons_zero, List.set_cons_succ]
        refine held_take (i := 40) (v := ?_) rfl (by kernel_rfl) (by kernel_rfl) (by kernel_rfl) (fun _ _ _ h => h) (by rfl) hHeld ?_ ?_
        rotate_left 1
        · (intro w hSw; (try dsimp only at hSw); go_simp; try (with_reducible rfl))
        try simp only [Act.put, List.setIfInBounds_toArray, List.set_cons_zero, List.set_cons_succ]
        refine held_take (i := 41) (v := ?_) rfl (by kernel_rfl) (by kernel_rfl) (by kernel_rfl) (fun _ _ _ h => h) (by rfl) hHeld ?_ ?_
        rotate_left 1
        · (intro w hSw; (try dsimp only at hSw); go_simp; try (with_reducible rfl))
        try simp only [Act.put, List.setIfInBounds_toArray, List.set_cons_zero, List.set_cons_succ]
        refine wpAnyH_done (by kernel_rfl) ?_ _
        go_wp2_with fail
        go_roundw
        case rel => exact ⟨i + 1, by go_num, by rw [HCnt.out, hlk.out]; simp, by omega, HA5.out.trans hcur.out⟩
        case measure => simp [numI]; omega
    · obtain rfl : i = B.length := by omega
      have hic : ¬ ((B.length : Nat) : Int) < (B.length : Int) := by omega
      have hcnt : liveCnt L B.length = nl := by rw [← HLB.out, liveCnt_all, ← HNl2.out]
      rw [hcnt]
      obtain ⟨x, hx⟩ : ∃ x : Int, x = (bused B n : Nat) := ⟨_, rfl⟩
      have hx0 : 0 ≤ x := by omega
      have hx1 : x ≤ 1000 := by have := bused_le B n; have := HNn.out; omega
      have hux : x = (usedN l : Nat) := by rw [HK.out.used HI.out]; exact hx
      have h200 := HSM.out.rm.len
      have hN0 : 0 ≤ N := by rw [HNl.out]; omega
      have hN1 : N ≤ 200 := by rw [HNl.out]; omega
      have HRoE := Lib.hid (fun (u : World) (hu : Aft w1 u) => room_any u S P A M l L (HSM1.out u hu))
      have HUsE := Lib.hid (fun (u : World) (hu : Aft w1 u) => used_any u P A l (HSM1.out u hu).rm x hux)
      have HBuE := Lib.hid (fun (u : World) (hu : Aft w1 u) => bused_any u Bb _ n N B (HBM1.out u hu) (by have := HB.out; omega) (by have := HNn.out; omega) x hx)
      have HHa1 := Lib.hid (fun (u : World) (hu : Aft w1 u) => has_any u S P A M l L (HSM1.out u hu) (N - x) (by omega) true (by have := HNl.out; symm; simp only [decide_eq_true_eq]; omega))
      have HHa2 := Lib.hid (fun (u : World) (hu : Aft w1 u) => has_any u S P A M l L (HSM1.out u hu) (N - x + 1) (by omega) false (by have := HNl.out; symm; simp only [decide_eq_false_iff_not]; omega))
      have hAe : Hid (Aft w1 wr.drew) := hAr.out.drew
      have c2 := hBr.c2
      have HUd := Lib.hid (HBuE.out _ hAe.out)
      clear hx hux hcnt h200 hBr hAr
      go_wp2_with fail
      have hwN : IntKind.i64.wrap (N - x) = N - x := by rw [IntKind.wrap_i64]; omega
      refine wp_region_held_drew (S := fun w' => w'.cell? ⟨Bb, 2, none⟩ = some (.int .i64 N)) (by kernel_rfl) (c2) (fun hHeld => ?_)
      refine held_take (i := 0) (v := ?_) rfl (by kernel_rfl) (by kernel_rfl) (by kernel_rfl) (fun _ _ _ h => h) (by rfl) hHeld ?_ ?_
      rotate_left 1
      · (intro w hSw; (try dsimp only at hSw); go_simp; try (with_reducible rfl))
      try simp only [Act.put, List.setIfInBounds_toArray, List.set_cons_zero, List.set_cons_succ]
      refine held_take (i := 1) (v := ?_) rfl (by kernel_rfl) (by kernel_rfl) (by kernel_rfl) (fun _ _ _ h => h) (by rfl) hHeld ?_ ?_
      rotate_left 1
      · (intro w hSw; (try dsimp only at hSw); go_simp; try (with_reducible rfl))
      try simp only [Act.put, List.setIfInBounds_toArray, List.set_cons_zero, List.set_cons_succ]
      refine held_take (i := 2) (v := ?_) rfl (by kernel_rfl) (by kernel_rfl) (by kernel_rfl) (fun _ _ _ h => h) (by rfl) hHeld ?_ ?_
      rotate_left 1
      · (intro w hSw; (try dsimp only at hSw); go_simp; try (with_reducible rfl))
      try simp only [Act.put, List.setIfInBounds_toArray, List.set_cons_zero, List.set_cons_succ]
      refine held_take (i := 3) (v := ?_) rfl (by kernel_rfl) (by kernel_rfl) (by kernel_rfl) (fun _ _ _ h => h) (by rfl) hHeld ?_ ?_
      rotate_left 1
      · (intro w hSw; (try dsimp only at hSw); go_simp; try (with_reducible rfl))
      try simp only [Act.put, List.setIfInBounds_toArray, List.set_cons_zero, List.set_cons_succ]
      refine held_take (i := 4) (v := ?_) rfl (by kernel_rfl) (by kernel_rfl) (by kernel_rfl) (fun _ _ _ h => h) (by rfl) hHeld ?_ ?_
      rotate_left 1
      · (intro w hSw; (try dsimp only at hSw); go_simp; try (with_reducible rfl))
      try simp only [Act.put, List.setIfInBounds_toArray, List.set_cons_zero, List.set_cons_succ]
      refine held_one (i := 5) rfl (by kernel_rfl) (by rfl) (fun K hK => ?_)
      go_simp
      with_reducible refine HUd.out.mono ?_
      rintro e u1 ⟨rfl, rfl⟩
      refine hK.out _ _ (hHeld) (fun hHeld2 => ?_)
      clear hK K hHeld; have hHeld := hHeld2; clear hHeld2
      try simp only [Act.put, List.setIfInBounds_toArray, List.set_cons_zero, List.set_cons_succ]
      refine held_take (i := 6) (v := ?_) rfl (by kernel_rfl) (by kernel_rfl) (by kernel_rfl) (fun _ _ _ h => h) (by rfl) hHeld ?_ ?_
      rotate_left 1
      · (intro w hSw; (try dsimp only at hSw); go_simp; try (with_reducible rfl))
      try simp only [Act.put, List.setIfInBounds_toArray, List.set_cons_zero, List.set_cons_succ]
      refine held_take (i := 7) (v := ?_) rfl (by kernel_rfl) (by kernel_rfl) (by kernel_rfl) (fun _ _ _ h => h) (by rfl) hHeld ?_ ?_
      rotate_left 1
      · (intro w hSw; (try dsimp only at hSw); go_simp; try (with_reducible rfl))
      try simp only [Act.put, List.setIfInBounds_toArray, List.set_cons_zero, List.set_cons_succ]
      refine wpAnyH_done (by kernel_rfl) ?_ _
      have hwN1 : IntKind.i64.wrap (N - x + 1) = N - x + 1 := by rw [IntKind.wrap_i64]; omega
      go_wp2_with (first
        | (go_at_call 21; have HQ := HRoE.out _ hAe.out; (with_reducible refine HQ.mono ?_); clear HQ; rintro e u2 ⟨rfl, rfl⟩)
        | (go_at_call 22; have HQ := HUsE.out _ hAe.out; (with_reducible refine HQ.mono ?_); clear HQ; rintro e u3 ⟨rfl, hb3⟩; replace hAe := Lib.hid (hAe.out.trans hb3); clear hb3)
        | (go_at_call 30; have HQ := HBuE.out _ hAe.out; (with_reducible refine HQ.mono ?_); clear HQ; rintro e u4 ⟨rfl, rfl⟩)
        | (go_at_call 28; have HQ := HHa1.out _ hAe.out; (with_reducible refine HQ.mono ?_); clear HQ HHa1; rintro e u5 ⟨rfl, hb5⟩; replace hAe := Lib.hid (hAe.out.trans hb5); clear hb5)
        | (go_at_call 28; have HQ := HHa2.out _ hAe.out; (with_reducible refine HQ.mono ?_); clear HQ HHa2; rintro e u6 ⟨rfl, hb6⟩; replace hAe := Lib.hid (hAe.out.trans hb6); clear hb6))
      go_ret
      exact ⟨rfl, Aft.trans (w := w) HB1.out hAe.out⟩
end Go.Proofs.Ytkmkjfbbpeocdaa
