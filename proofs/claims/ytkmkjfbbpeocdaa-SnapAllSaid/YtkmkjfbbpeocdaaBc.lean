/- WALKS over package page: New, Used, fill, Take, Copy; no room. -/
import Derived.Test.YtkmkjfbbpeocdaaBb
namespace Go.Proofs.Ytkmkjfbbpeocdaa
set_option maxRecDepth 100000
open Go.RowKit
set_option linter.unusedVariables false
set_option linter.unusedSimpArgs false

/-- the first page that is not in use, -1: none -/
def freeI (l : List Sh) : Int := match l.findIdx? (fun s => s.r == 0) with
  | some k => k
  | none => -1
theorem freeI_hit (l : List Sh) (k : Nat) (hk : k < l.length) (h0 : (shAt l k).r = 0) (hb : ∀ j, j < k → (shAt l j).r ≠ 0) : freeI l = k := by
  have : l.findIdx? (fun s => s.r == 0) = some k := by
    rw [List.findIdx?_eq_some_iff_getElem]
    refine ⟨hk, ?_, fun j hj => ?_⟩
    · have e := shAt_lt hk
      rw [List.getElem?_eq_getElem hk] at e
      rw [Option.some.inj e, h0]; rfl
    · have e := shAt_lt (show j < l.length by omega)
      rw [List.getElem?_eq_getElem (show j < l.length by omega)] at e
      rw [Option.some.inj e]
      simpa using hb j hj
  unfold freeI; rw [this]
theorem freeI_miss (l : List Sh) (hb : ∀ j, j < l.length → (shAt l j).r ≠ 0) : freeI l = -1 := by
  have : l.findIdx? (fun s => s.r == 0) = none := by
    rw [List.findIdx?_eq_none_iff]
    intro s hs
    obtain ⟨j, hj, rfl⟩ := List.mem_iff_getElem.1 hs
    have e := shAt_lt hj
    rw [List.getElem?_eq_getElem hj] at e
    rw [Option.some.inj e]
    simpa using hb j hj
  unfold freeI; rw [this]

theorem infoSheet : (Try.prog.info? 87).map (·.size) = some 9 := by kernel_rfl
theorem infoNumbers : (Try.prog.info? 85).map (·.size) = some 8 := by kernel_rfl
theorem fillclo_any (s : Sh) (w : World) :
    Calls Try.prog 62 #[.agg (shA s)] w fun e w' => e = .returned (.bool (s.r == 0)) ∧ Below w.heap.size w w' := by
  have hc : (w.alloc (.cells (shA s) 87)).cell? ⟨w.heap.size, 0, none⟩ = some (.int .i64 s.r) := by
    rw [cell_of_row _ _ _ _ _ _ (heap_alloc_last w _)]; rfl
  have b0 : Below w.heap.size w (w.alloc (.cells (shA s) 87)) := (Below.refl _ _).alloc (Nat.le_refl _) _
  generalize shA s = C at *
  generalize s.r = x at *
  go_enter Try.func62, Try.ntmps62
  go_wp2
  go_ret
  exact ⟨rfl, b0⟩
set_option maxHeartbeats 2000000 in
theorem indexsheet_any (A : Nat) (l : List Sh) (w : World) (hr : SR w A 87 l) (hl : l.length ≤ 200) :
    Calls Try.prog 61 #[.slice (some ⟨A, 0, none⟩) l.length l.length, .func (.func 62) #[] #[]] w fun e w' => e = .returned (.int .i64 (freeI l)) ∧ Below w.heap.size w w' := by
  have HR := Lib.hid hr; clear hr
  go_enter Try.func61, Try.ntmps61
  go_wp2_with fail
  go_loopw [5, 8] (fun s i wr => ∃ k : Nat, i = .int .i64 k ∧ k ≤ l.length ∧ Below w.heap.size w wr ∧ Hid (∀ j, j < k → (shAt l j).r ≠ 0)) (fun _ i _ => l.length - (intOf i).toNat)
  case atStart => exact ⟨0, rfl, by omega, Below.refl _ _, fun j hj => by omega⟩
  case round =>
    obtain ⟨k, rfl, hk, hb, hall⟩ := hrel
    by_cases hlt : k < l.length
    · have hkc : (k : Int) < (l.length : Int) := by omega
      have HS := Lib.hid (HR.out.below hb HR.out.lt)
      have HF := Lib.hid (fillclo_any (shAt l k) wr)
      by_cases hm : (shAt l k).r = 0
      · have HQ := Lib.hid (freeI_hit l k hlt hm hall.out)
        rw [show ((shAt l k).r == 0) = true by simpa using hm] at HF
        clear hm
        go_wp2_with (first
          | (with_reducible refine wpList_load_sh rfl 87 (.tmp 14) rfl A k (by with_unfolding_all rfl) 87 l HS.out hlt Try.underlying87 infoSheet ?_)
          | (go_at_call 62; with_reducible refine HF.out.mono ?_; rintro e w2 ⟨rfl, hb2⟩))
        go_ret
        exact ⟨by rw [HQ.out]; rfl, hb.trans (hb2.mono hb.size)⟩
      · have HA : Hid (∀ j, j < k + 1 → (shAt l j).r ≠ 0) := fun j hj => by
          by_cases e : j < k
          · exact hall.out j e
          · obtain rfl : j = k := by omega
            exact hm
        rw [show ((shAt l k).r == 0) = false by simpa using hm] at HF
        clear hm
        go_wp2_with (first
          | (with_reducible refine wpList_load_sh rfl 87 (.tmp 14) rfl A k (by with_unfolding_all rfl) 87 l HS.out hlt Try.underlying87 infoSheet ?_)
          | (go_at_call 62; with_reducible refine HF.out.mono ?_; rintro e w2 ⟨rfl, hb2⟩))
        have hb3 := hb.trans (hb2.mono hb.size)
        go_roundw
        case rel => exact ⟨k + 1, by go_num, by omega, hb3, HA⟩
        case measure => simp [intOf]; omega
    · obtain rfl : k = l.length := by omega
      have HQ := Lib.hid (freeI_miss l hall.out)
      go_wp2
      go_ret
      exact ⟨by rw [HQ.out]; rfl, hb⟩

theorem exec_load_r {P : Program} {S : World → Prop} {op : Oper} {a : Act} (ty : TypeId) (x : Operand) (ho : op.op = .load ty x)
    (b o : Nat) (hx : a.eval x = .pointer (some ⟨b, o, none⟩)) (cs : List Value) (hS : ∀ w, S w → w.rangeAt b o cs) {n : Nat} {e : TypeId} (hu : P.underlying ty = some (.array n e)) (hi : (P.info? ty).map (·.size) = some cs.length) (w : World) (hw : S w) :
    (execOp a.eval op).run P w = .ok (.value (.agg cs.toArray)) w := by
  have := run_loadVar_mid (P := P) w b o ty cs _ (hS w hw) hu rfl hi
  unfold execOp
  simp only [ho, hx, Instr.loadAt, Instr.sureAddr, Sem.run_bind, Sem.run_pure, Result.andThen_ok, this]
theorem built_sh (x0 x1 x2 x3 x4 x5 x6 x7 : Int) : Try.prog.built 87 [(0, .int .i64 1), (1, .agg #[.int .i32 x0, .int .i32 x1, .int .i32 x2, .int .i32 x3, .int .i32 x4, .int .i32 x5, .int .i32 x6, .int .i32 x7])] = some #[.int .i64 1, .int .i32 x0, .int .i32 x1, .int .i32 x2, .int .i32 x3, .int .i32 x4, .int .i32 x5, .int .i32 x6, .int .i32 x7] := by kernel_rfl
theorem exec_build_sh {op : Oper} {a : Act} (x : Operand) (ho : op.op = .build 87 #[(0, .const (.int .i64 1)), (1, x)]) (f : Nat → Int) (hx : a.eval x = .agg (onA f)) (w : World) :
    (execOp a.eval op).run Try.prog w = .ok (.value (.agg (shA ⟨1, f⟩))) w := by
  have hb := built_sh (f 0) (f 1) (f 2) (f 3) (f 4) (f 5) (f 6) (f 7)
  have hr := run_build (P := Try.prog) w 87 #[(0, .int .i64 1), (1, .agg (onA f))] _ hb
  have hc : a.eval (.const (.int .i64 1)) = .int .i64 1 := rfl
  unfold execOp
  simp only [ho, hx, hc, List.map_toArray, List.map_cons, List.map_nil, Sem.run_bind, hr, Result.andThen_ok, Sem.run_pure]
  rfl
theorem wp_store_sh {P : Program} {op : Oper} {a : Act} {w : World} {K : Act → World → Prop} {Q : Exit → Act → World → Prop} (ty : TypeId) (x y : Operand) (ho : op.op = .store ty x y)
    (b k : Nat) (hx : a.eval x = .pointer (some ⟨b, k * 9, none⟩)) (t : TypeId) (l : List Sh) (h : SR w b t l) (hk : k < l.length) (s : Sh) (hy : a.eval y = .agg (shA s)) (hi : (P.info? ty).map (·.size) = some 9)
    (hq : ∀ w', SR w' b t (l.set k s) → w'.heap.size = w.heap.size → w.grownBy w' (some b) → K (a.put op.dst undef) w') : op.wp P a w K Q :=
  wp_store_mid ty x y ho b (k * 9) (shA s) hx hy (h.there k hk) (by rw [hi, shA_size]) (shA_one s) (hq _ (h.setAll k hk s) (grown_setCells b _ _ w).2 (grown_setCells b _ _ w).1)
/-! ### fill, Take, Copy -/
theorem upd_all {w : World} {P A : Nat} {l : List Sh} {w' : World} {k : Nat} {s : Sh} (R : RM w P A l) (h : SR w' A 87 (l.set k s)) (g : w.grownBy w' (some A)) : Upd w w' P A (l.set k s) := by
  refine ⟨⟨?_, h, R.ne, by rw [List.length_set]; exact R.len⟩, g⟩
  rw [List.length_set]
  exact (World.cell?_of_block (w := w) (a := ⟨P, 0, none⟩) (g.block P R.lt (fun e => R.ne (Option.some.inj e)))).trans R.slot
theorem fill_nil (f : Nat → Int) (w : World) :
    Calls Try.prog 57 #[.pointer none, .agg (onA f)] w fun e w' => e = .returned (.tuple #[.int .i64 0, .bool false]) ∧ Below w.heap.size w w' := by
  have b0 : Below w.heap.size w (w.alloc (.cells (onA f) 85)) := (Below.refl _ _).alloc (Nat.le_refl _) _
  generalize onA f = C at *
  go_enter Try.func57, Try.ntmps57
  go_wp2
  go_ret2
  exact ⟨rfl, b0⟩
theorem fill_miss (w : World) (P A : Nat) (l : List Sh) (R : RM w P A l) (f : Nat → Int) (hb : ∀ j, j < l.length → (shAt l j).r ≠ 0) :
    Calls Try.prog 57 #[.pointer (some ⟨P, 0, none⟩), .agg (onA f)] w fun e w' => e = .returned (.tuple #[.int .i64 0, .bool false]) ∧ Below w.heap.size w w' := by
  have b0 : Below w.heap.size w (w.alloc (.cells (onA f) 85)) := (Below.refl _ _).alloc (Nat.le_refl _) _
  have R1 := R.belows b0
  have hs := R1.slot
  have HI := Lib.hid (indexsheet_any A l _ R1.row R.len)
  rw [freeI_miss l hb] at HI
  clear hb R R1
  generalize onA f = C at *
  go_enter Try.func57, Try.ntmps57
  go_wp2_with (go_at_call 61; with_reducible refine HI.out.mono ?_; rintro e w2 ⟨rfl, hb2⟩)
  go_ret2
  exact ⟨rfl, b0.trans (hb2.mono (by simp))⟩
set_option maxHeartbeats 2000000 in
theorem fill_hit (w : World) (P A : Nat) (l : List Sh) (R : RM w P A l) (f : Nat → Int) (k : Nat) (hk : k < l.length) (h0 : (shAt l k).r = 0) (hb : ∀ j, j < k → (shAt l j).r ≠ 0) (p : Int) (hp : p = k + 1) (l' : List Sh) (hl' : l' = l.set k ⟨1, f⟩) :
    Calls Try.prog 57 #[.pointer (some ⟨P, 0, none⟩), .agg (onA f)] w fun e w' => e = .returned (.tuple #[.int .i64 p, .bool true]) ∧ Upd w w' P A l' := by
  have b0 : Below w.heap.size w (w.alloc (.cells (onA f) 85)) := (Below.refl _ _).alloc (Nat.le_refl _) _
  have R1 := R.belows b0
  have hs := R1.slot
  have HI := Lib.hid (indexsheet_any A l _ R1.row R.len)
  rw [freeI_hit l k hk h0 hb] at HI
  subst hl'
  have hlen := R.len
  have HR1 := Lib.hid R1
  have HP := Lib.hid hp
  have hkc : (k : Int) < (l.length : Int) := by omega
  have hk2 : (k : Int) ≤ 200 := by omega
  clear hb h0 R1 hp
  go_enter Try.func57, Try.ntmps57
  go_wp2_with (go_at_call 61; with_reducible refine HI.out.mono ?_; rintro e w2 ⟨rfl, hb2⟩)
  have R2 := Lib.hid (HR1.out.belows hb2)
  have hrg : (w.alloc (.cells (onA f) 85)).rangeAt w.heap.size 0 (onL f) := fun j v hv => by rw [Nat.zero_add, cell_of_row _ _ _ _ _ _ (heap_alloc_last w _)]; simpa [onA] using hv
  have HG := Lib.hid (fun j v hv => (hb2.cell (p := ⟨w.heap.size, 0 + j, none⟩) (by simp)).trans (hrg j v hv) : w2.rangeAt w.heap.size 0 (onL f))
  have HB := Lib.hid (b0.trans (hb2.mono (by simp)))
  have hAw := R.row.lt; have hPw := R.lt; have hne := R.ne
  have hw2 : w.heap.size < w2.heap.size := by have := hb2.size; simp at this; omega
  clear hrg hb2 HI HR1 b0 hs
  refine wp_region_held_drew (S := fun w' => w'.cell? ⟨P, 0, none⟩ = some (.slice (some ⟨A, 0, none⟩) l.length l.length) ∧ w'.rangeAt w.heap.size 0 (onL f)) (by kernel_rfl) (⟨R2.out.drew.slot, HG.out⟩) (fun hHeld => ?_)
  refine held_take (i := 0) (v := ?_) rfl (by kernel_rfl) (by kernel_rfl) (by kernel_rfl) (fun _ _ _ h => h) (by rfl) hHeld ?_ ?_
  rotate_left 1
  · (intro w hSw; (try dsimp only at hSw); go_simp; try (with_reducible rfl))
  try simp only [Act.put, List.setIfInBounds_toArray, List.set_cons_zero, List.set_cons_succ]
  refine held_take (i := 1) (v := ?_) rfl (by kernel_rfl) (by kernel_rfl) (by kernel_rfl) (fun _ _ _ h => h) (by rfl) hHeld ?_ ?_
  rotate_left 1
  · (intro w hSw; (try dsimp only at hSw); go_simp; try (with_reducible rfl))
  try simp only [Act.put, List.setIfInBounds_toArray, List.set_cons_zero, List.set_cons_succ]
  refine held_take (i := 2) (v := ?_) rfl (by kernel_rfl) (by kernel_rfl) (by kernel_rfl) (fun _ _ _ h => h) (by rfl) hHeld ?_ ?_
  rotate_left 1
  · (intro w hSw; (try dsimp only at hSw); go_simp; try (with_reducible rfl))
  try simp only [Act.put, List.setIfInBounds_toArray, List.set_cons_zero, List.set_cons_succ]
  refine held_take (i := 3) (v := ?_) rfl (by kernel_rfl) (by kernel_rfl) (by kernel_rfl) (fun _ _ _ h => h) (by rfl) hHeld ?_ ?_
  rotate_left 1
  · (intro w hSw; (try dsimp only at hSw); go_simp; try (with_reducible rfl))
  try simp only [Act.put, List.setIfInBounds_toArray, List.set_cons_zero, List.set_cons_succ]
  refine held_take (i := 4) (v := ?_) rfl (by kernel_rfl) (by kernel_rfl) (by kernel_rfl) (fun _ _ _ h => h) (by rfl) hHeld ?_ ?_
  rotate_left 1
  · (intro w hSw; (try dsimp only at hSw); go_simp; try (with_reducible rfl))
  try simp only [Act.put, List.setIfInBounds_toArray, List.set_cons_zero, List.set_cons_succ]
  refine held_take (i := 5) (v := .agg (onA f)) rfl (by kernel_rfl) (by kernel_rfl) (by kernel_rfl) (fun _ _ _ h => h) (by rfl) hHeld (exec_load_r _ _ rfl w.heap.size 0 (by rfl) (onL f) (fun w h => h.2) Try.underlying85 (by rw [onL_len]; exact infoNumbers)) ?_
  try simp only [Act.put, List.setIfInBounds_toArray, List.set_cons_zero, List.set_cons_succ]
  refine held_take (i := 6) (v := .agg (shA ⟨1, f⟩)) rfl (by kernel_rfl) (by kernel_rfl) (by kernel_rfl) (fun _ _ _ h => h) (by rfl) hHeld (fun w _ => exec_build_sh _ rfl f (by rfl) w) ?_
  try simp only [Act.put, List.setIfInBounds_toArray, List.set_cons_zero, List.set_cons_succ]
  refine held_take (i := 7) (v := ?_) rfl (by kernel_rfl) (by kernel_rfl) (by kernel_rfl) (fun _ _ _ h => h) (by rfl) hHeld ?_ ?_
  rotate_left 1
  · (intro w hSw; (try dsimp only at hSw); go_simp; try (with_reducible rfl))
  try simp only [Act.put, List.setIfInBounds_toArray, List.set_cons_zero, List.set_cons_succ]
  refine held_one (i := 8) rfl (by kernel_rfl) (by rfl) (fun K hK => ?_)
  refine wp_store_sh _ _ _ rfl A k (by rfl) 87 l R2.out.drew.row hk ⟨1, f⟩ (by rfl) infoSheet ?_; intro w3 G3 S3 R3; have Q3 := Lib.hid (upd_all R2.out.drew G3 R3); have S3h := Lib.hid S3; have R3h := Lib.hid R3; clear G3 S3 R3
  refine hK.out _ _ (⟨Q3.out.1.slot |> fun h => by rw [List.length_set] at h; exact h, fun j v hv => (World.cell?_of_block (w := w2.drew) (a := ⟨w.heap.size, 0 + j, none⟩) (R3h.out.block w.heap.size (by show w.heap.size < w2.heap.size; omega) (fun e => by have := Option.some.inj e; omega))).trans (HG.out j v hv)⟩) (fun hHeld2 => ?_)
  clear hK K hHeld; have hHeld := hHeld2; clear hHeld2
  try simp only [Act.put, List.setIfInBounds_toArray, List.set_cons_zero, List.set_cons_succ]
  refine wpAnyH_done (by kernel_rfl) ?_ _
  go_wp2
  go_ret2
  exact ⟨by rw [HP.out]; rfl, Q3.out.1, grown_tr (grown_be HB.out.drew) R3h.out⟩
/-! ### Take -/
theorem take_nil (w : World) :
    Calls Try.prog 50 #[.pointer none] w fun e w' => e = .returned (.tuple #[.int .i64 0, .bool false]) ∧ Below w.heap.size w w' := by
  have HF : Hid (Calls Try.prog 57 #[.pointer none, .agg #[.int .i32 0, .int .i32 0, .int .i32 0, .int .i32 0, .int .i32 0, .int .i32 0, .int .i32 0, .int .i32 0]] w fun e w' => e = .returned (.tuple #[.int .i64 0, .bool false]) ∧ Below w.heap.size w w') := fill_nil zN w
  go_enter Try.func50, Try.ntmps50
  go_wp2_with (go_at_call 57; with_reducible refine HF.out.mono ?_; rintro e w1 ⟨rfl, hb⟩)
  go_ret2
  exact ⟨rfl, hb⟩
theorem take_miss (w : World) (P A : Nat) (l : List Sh) (R : RM w P A l) (hb : ∀ j, j < l.length → (shAt l j).r ≠ 0) :
    Calls Try.prog 50 #[.pointer (some ⟨P, 0, none⟩)] w fun e w' => e = .returned (.tuple #[.int .i64 0, .bool false]) ∧ Below w.heap.size w w' := by
  have HF : Hid (Calls Try.prog 57 #[.pointer (some ⟨P, 0, none⟩), .agg #[.int .i32 0, .int .i32 0, .int .i32 0, .int .i32 0, .int .i32 0, .int .i32 0, .int .i32 0, .int .i32 0]] w fun e w' => e = .returned (.tuple #[.int .i64 0, .bool false]) ∧ Below w.heap.size w w') := fill_miss w P A l R zN hb
  clear hb R
  go_enter Try.func50, Try.ntmps50
  go_wp2_with (go_at_call 57; with_reducible refine HF.out.mono ?_; rintro e w1 ⟨rfl, hb⟩)
  go_ret2
  exact ⟨rfl, hb⟩
theorem take_hit (w : World) (P A : Nat) (l : List Sh) (R : RM w P A l) (k : Nat) (hk : k < l.length) (h0 : (shAt l k).r = 0) (hb : ∀ j, j < k → (shAt l j).r ≠ 0) (p : Int) (hp : p = k + 1) (l' : List Sh) (hl' : l' = l.set k ⟨1, zN⟩) :
    Calls Try.prog 50 #[.pointer (some ⟨P, 0, none⟩)] w fun e w' => e = .returned (.tuple #[.int .i64 p, .bool true]) ∧ Upd w w' P A l' := by
  have HF : Hid (Calls Try.prog 57 #[.pointer (some ⟨P, 0, none⟩), .agg #[.int .i32 0, .int .i32 0, .int .i32 0, .int .i32 0, .int .i32 0, .int .i32 0, .int .i32 0, .int .i32 0]] w fun e w' => e = .returned (.tuple #[.int .i64 p, .bool true]) ∧ Upd w w' P A l') := fill_hit w P A l R zN k hk h0 hb p hp l' hl'
  clear hb R h0 hl' hp
  go_enter Try.func50, Try.ntmps50
  go_wp2_with (go_at_call 57; with_reducible refine HF.out.mono ?_; rintro e w1 ⟨rfl, hb⟩)
  go_ret2
  exact ⟨rfl, hb⟩
/-! ### Copy -/
theorem copy_out (w : World) (P A : Nat) (l : List Sh) (R : RM w P A l) (p : Int) (h : (pg l p).r = 0) :
    Calls Try.prog 52 #[.pointer (some ⟨P, 0, none⟩), .int .i64 p] w fun e w' => e = .returned (.tuple #[.int .i64 0, .bool false]) ∧ Below w.heap.size w w' := by
  have HU := Lib.hid (inuse_out w P A l R p h)
  clear h R
  go_enter Try.func52, Try.ntmps52
  go_wp2_with (go_at_call 49; with_reducible refine HU.out.mono ?_; rintro e w1 ⟨rfl, rfl⟩)
  go_ret2
  exact ⟨rfl, Below.refl _ _⟩
theorem copy_miss (w : World) (P A : Nat) (l : List Sh) (R : RM w P A l) (p : Int) (hb : ∀ j, j < l.length → (shAt l j).r ≠ 0) :
    Calls Try.prog 52 #[.pointer (some ⟨P, 0, none⟩), .int .i64 p] w fun e w' => e = .returned (.tuple #[.int .i64 0, .bool false]) ∧ Below w.heap.size w w' := by
  by_cases h : (pg l p).r = 0
  · exact copy_out w P A l R p h
  · obtain ⟨k, hk, hkl⟩ := pg_in h
    rw [pg_at l p k hk] at h
    have HU := Lib.hid (inuse_in w P A l R p k hk hkl h)
    have HF := Lib.hid (fill_miss w P A l R (shAt l k).on hb)
    have HR := Lib.hid R.row
    clear h R hb hk
    go_enter Try.func52, Try.ntmps52
    go_wp2_with (first
      | (go_at_call 49; with_reducible refine HU.out.mono ?_; rintro e w1 ⟨rfl, rfl⟩)
      | (with_reducible refine wpList_load_on rfl 85 (.tmp 15) rfl A k (by with_unfolding_all rfl) 87 l HR.out hkl Try.underlying85 infoNumbers ?_)
      | (go_at_call 57; with_reducible refine HF.out.mono ?_; rintro e w1 ⟨rfl, hb⟩))
    go_ret2
    exact ⟨rfl, hb⟩
theorem copy_hit (w : World) (P A : Nat) (l : List Sh) (R : RM w P A l) (p : Int) (c : Nat) (hc : p = c + 1) (hcl : c < l.length) (hr : (shAt l c).r ≠ 0) (k : Nat) (hk : k < l.length) (h0 : (shAt l k).r = 0) (hb : ∀ j, j < k → (shAt l j).r ≠ 0) (q : Int) (hq : q = k + 1) (l' : List Sh) (hl' : l' = l.set k ⟨1, (shAt l c).on⟩) :
    Calls Try.prog 52 #[.pointer (some ⟨P, 0, none⟩), .int .i64 p] w fun e w' => e = .returned (.tuple #[.int .i64 q, .bool true]) ∧ Upd w w' P A l' := by
  have HU := Lib.hid (inuse_in w P A l R p c hc hcl hr)
  have HF := Lib.hid (fill_hit w P A l R (shAt l c).on k hk h0 hb q hq l' hl')
  have HR := Lib.hid R.row
  clear hr R hb hc h0 hq hl'
  go_enter Try.func52, Try.ntmps52
  go_wp2_with (first
    | (go_at_call 49; with_reducible refine HU.out.mono ?_; rintro e w1 ⟨rfl, rfl⟩)
    | (with_reducible refine wpList_load_on rfl 85 (.tmp 15) rfl A c (by with_unfolding_all rfl) 87 l HR.out hcl Try.underlying85 infoNumbers ?_)
    | (go_at_call 57; with_reducible refine HF.out.mono ?_; rintro e w1 ⟨rfl, hb⟩))
  go_ret2
  exact ⟨rfl, hb⟩
end Go.Proofs.Ytkmkjfbbpeocdaa
