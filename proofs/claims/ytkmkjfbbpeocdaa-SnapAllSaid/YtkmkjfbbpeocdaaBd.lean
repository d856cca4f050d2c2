/- WALKS over package page: New, Used; no room. -/
import Derived.Test.YtkmkjfbbpeocdaaBc
namespace Go.Proofs.Ytkmkjfbbpeocdaa
set_option maxRecDepth 100000
open Go.RowKit
set_option linter.unusedVariables false
set_option linter.unusedSimpArgs false

/-- how many pages are in use -/
def usedN (l : List Sh) : Nat := (l.filter fun s => decide (0 < s.r)).length
theorem usedN_le (l : List Sh) : usedN l ≤ l.length := List.length_filter_le _ _
theorem usedN_step (l : List Sh) (k : Nat) (h : k < l.length) : usedN (l.take (k + 1)) = usedN (l.take k) + (if 0 < (shAt l k).r then 1 else 0) := by
  unfold usedN
  rw [List.take_add_one, shAt_lt h, List.filter_append, List.length_append]
  congr 1
  by_cases e : 0 < (shAt l k).r <;> simp [e]
theorem usedN_take_le (l : List Sh) (k : Nat) : usedN (l.take k) ≤ k := Nat.le_trans (usedN_le _) (by simp; omega)

theorem wpList_store_blk {P : Program} {ops : Array Oper} {rest : List Oper} {op : Oper} {a : Act} {w : World} {Q : Exit → Act → World → Prop} (hgd : op.guard = none) (ty : TypeId) (x y : Operand) (ho : op.op = .store ty x y)
    (b : Nat) (hx : a.eval x = .pointer (some ⟨b, 0, none⟩)) (t : TypeId) (C C' : Array Value) (h : w.heap[b]? = some (.cells C t (0, 0))) (hy : a.eval y = .agg C') (hl : C.size = C'.size) (hi : (P.info? ty).map (·.size) = some C'.size) (h1 : C'.all (·.oneCell') = true)
    (hk : ∀ w', w'.heap[b]? = some (.cells C' t (0, 0)) → w'.heap.size = w.heap.size → w.grownBy w' (some b) → wpList P ops Q rest (a.put op.dst undef) w') : wpList P ops Q (op :: rest) a w := by
  refine wpList_plain hgd fun K hK => ?_
  have hrun := run_storeVar_row (P := P) w b t ty C C' h hi hl h1
  unfold Oper.wp execOp
  simp only [ho, hx, hy, Instr.storeAt, Instr.sureAddr, Sem.run_bind, Sem.run_pure, Result.andThen_ok, hrun]
  exact hK _ _ (hk _ (setRow_heap w b _ _ t _ h) (by simp [World.setRow]) ⟨rfl, rfl, rfl, by simp [World.setRow], fun k hk hne => setRow_other w b k _ (fun e => hne (by rw [e]))⟩)

theorem z9_size : (#[.int .i64 0, .int .i32 0, .int .i32 0, .int .i32 0, .int .i32 0, .int .i32 0, .int .i32 0, .int .i32 0, .int .i32 0] : Array Value).size = 9 := rfl
theorem used_nil (w : World) :
    Calls Try.prog 22 #[.pointer none] w fun e w' => e = .returned (.int .i64 0) ∧ w = w' := by
  go_enter Try.func22, Try.ntmps22
  go_wp2
  go_ret
  exact ⟨rfl, rfl⟩
set_option maxHeartbeats 2000000 in
theorem used_any (w : World) (P A : Nat) (l : List Sh) (R : RM w P A l) (u : Int) (hu : u = (usedN l : Nat)) :
    Calls Try.prog 22 #[.pointer (some ⟨P, 0, none⟩)] w fun e w' => e = .returned (.int .i64 u) ∧ Below w.heap.size w w' := by
  subst hu
  have hs := R.slot
  have HR := Lib.hid R.row
  have hlen := R.len
  clear R
  go_enter Try.func22, Try.ntmps22
  go_wp2_with fail
  go_loopw [3, 13] (fun n i wr => ∃ (k : Nat) (m : Nat), i = .int .i64 k ∧ n = .int .i64 m ∧ k ≤ l.length ∧ m ≤ k ∧ Hid (m = usedN (l.take k)) ∧ Below w.heap.size w wr) (fun _ i _ => l.length - (intOf i).toNat)
  case atStart => exact ⟨0, 0, rfl, rfl, by omega, by omega, rfl, Below.refl _ _⟩
  case round =>
    obtain ⟨k, m, rfl, rfl, hk, hmk, hm, hb⟩ := hrel
    by_cases hlt : k < l.length
    · have hkc : (k : Int) < (l.length : Int) := by omega
      have HS := Lib.hid (HR.out.below hb HR.out.lt)
      have hst := usedN_step l k hlt
      have hb1 := hb.alloc hb.size (.cells #[.int .i64 0, .int .i32 0, .int .i32 0, .int .i32 0, .int .i32 0, .int .i32 0, .int .i32 0, .int .i32 0, .int .i32 0] 87)
      have HC : Hid ((shA (shAt l k))[0]? = some (.int .i64 (shAt l k).r)) := by unfold Hid; rfl
      have HO := Lib.hid (shA_one (shAt l k))
      have HSz := Lib.hid (shA_size (shAt l k))
      generalize hC : shA (shAt l k) = C at *
      generalize (shAt l k).r = x at *
      by_cases hp : 0 < x
      · rw [if_pos hp] at hst
        have HT : Hid (m + 1 = usedN (l.take (k + 1))) := by unfold Hid; rw [hst, hm.out]
        have hp2 : x > 0 := hp
        clear hst hp
        go_wp2_with (first
          | (with_reducible refine wpList_load_sh rfl 87 (.tmp 15) rfl A k (by with_unfolding_all rfl) 87 l HS.out hlt Try.underlying87 infoSheet ?_; rw [hC])
          | (with_reducible refine wpList_store_blk rfl 87 (.tmp 5) (.tmp 16) rfl wr.heap.size (by with_unfolding_all rfl) 87 _ C (heap_alloc_last _ _) (by with_unfolding_all rfl) (by rw [HSz.out]; exact z9_size) (by rw [HSz.out]; exact infoSheet) HO.out ?_; intro w3 H3 S3 R3; have c3 : w3.cell? ⟨wr.heap.size, 0, none⟩ = some (.int .i64 x) := (cell_of_row _ _ _ _ _ _ H3).trans HC.out; have hb3 := Lib.hid (hb1.grown R3 hb1.size (by simp [hb.size])); clear H3 S3 R3))
        go_roundw
        case rel => exact ⟨k + 1, m + 1, by go_num, by go_num, by omega, by omega, HT, hb3.out⟩
        case measure => simp [intOf]; omega
      · rw [if_neg hp] at hst
        have HT : Hid (m = usedN (l.take (k + 1))) := by unfold Hid; rw [hst, hm.out]; rfl
        have hp2 : ¬ x > 0 := hp
        clear hst hp
        go_wp2_with (first
          | (with_reducible refine wpList_load_sh rfl 87 (.tmp 15) rfl A k (by with_unfolding_all rfl) 87 l HS.out hlt Try.underlying87 infoSheet ?_; rw [hC])
          | (with_reducible refine wpList_store_blk rfl 87 (.tmp 5) (.tmp 16) rfl wr.heap.size (by with_unfolding_all rfl) 87 _ C (heap_alloc_last _ _) (by with_unfolding_all rfl) (by rw [HSz.out]; exact z9_size) (by rw [HSz.out]; exact infoSheet) HO.out ?_; intro w3 H3 S3 R3; have c3 : w3.cell? ⟨wr.heap.size, 0, none⟩ = some (.int .i64 x) := (cell_of_row _ _ _ _ _ _ H3).trans HC.out; have hb3 := Lib.hid (hb1.grown R3 hb1.size (by simp [hb.size])); clear H3 S3 R3))
        go_roundw
        case rel => exact ⟨k + 1, m, by go_num, by go_num, by omega, by omega, HT, hb3.out⟩
        case measure => simp [intOf]; omega
    · obtain rfl : k = l.length := by omega
      have HQ : Hid (m = usedN l) := by have := hm.out; rw [List.take_length] at this; exact this
      clear hm
      go_wp2
      go_ret
      exact ⟨by rw [← HQ.out]; rfl, hb⟩
/-! ### New -/
theorem run_make_rowM {P : Program} (t e : TypeId) (i : TypeInfo) (z : Value) (ht : P.underlying t = some (.slice e)) (hi : P.info? e = some i) (hz : i.zero = some z)
    (kl kc : IntKind) (n c : Nat) (hnc : n ≤ c) (hbytes : i.bytes * c ≤ 281474976710656) (h63 : c ≤ 9223372036854775807) (w : World) :
    (Instr.makeSlice t (.int kl (n : Int)) (.int kc (c : Int))).run P w = .ok (.slice (some ⟨w.heap.size, 0, none⟩) n c) (w.alloc (.cells (madeCells z.cells (c * i.size)) e)) := by
  have hb : (i.bytes : Int) * (c : Int) ≤ 281474976710656 := by
    have h : ((i.bytes * c : Nat) : Int) ≤ 281474976710656 := by omega
    rwa [Int.natCast_mul] at h
  have hr := run_make (P := P) w t e i z ht hi hz kl kc n c (by omega) (by omega) hb (by omega)
  simp only [Int.toNat_natCast] at hr
  exact hr
theorem made_sh (w : World) (n : Nat) (t : TypeId) : SR (w.alloc (.cells (madeCells (Value.agg (shA zS)).cells (n * 9)) t)) w.heap.size t (List.replicate n zS) := by
  unfold SR
  rw [List.length_replicate]
  refine ⟨_, heap_alloc_new w _, size_madeCells _ _, fun i hi => ?_⟩
  have h9 : i % 9 < 9 := by omega
  have e : (Value.agg (shA zS)).cells = (shL zS).toArray := rfl
  unfold madeCells shF
  rw [Array.getElem?_map, Array.getElem?_range, if_pos hi, List.getElem?_replicate, if_pos (by omega)]
  simp only [Option.map_some, Option.some.injEq]
  have e2 : ((shL zS).toArray)[i % 9]? = some (shv zS (i % 9)) := by rw [List.getElem?_toArray]; exact shL_at zS _ h9
  rw [e]
  show ((shL zS).toArray)[i % 9]! = _
  rw [getElem!_def, e2]
theorem sheet_info : (Try.prog.info? 87).map (fun i => (i.zero, i.size, i.bytes)) = some (some (.agg (shA zS)), 9, 40) := by kernel_rfl
def madeSh (t : TypeId) (n : Nat) : Obj := .cells (madeCells (Value.agg (shA zS)).cells (n * 9)) t
theorem make_sh (n : Nat) (hn : n ≤ 65536) (w : World) : (Instr.makeSlice 82 (.int .i64 (n : Int)) (.int .i64 (n : Int))).run Try.prog w = .ok (.slice (some ⟨w.heap.size, 0, none⟩) n n) (w.alloc (madeSh 87 n)) := by
  obtain ⟨i0, hi0, hz0, hz1, hz2⟩ := info_parts sheet_info
  have h := run_make_rowM (P := Try.prog) 82 87 i0 (.agg (shA zS)) Try.underlying82 hi0 hz0 .i64 .i64 n n (Nat.le_refl _) (by rw [hz2]; omega) (by omega) w
  rw [hz1] at h
  exact h
theorem new_nat (N : Nat) (hN : N ≤ 200) (w : World) (P A : Nat) (hA : A = w.heap.size) (hP : P = w.heap.size + 1) (W : World) (hW : W = (w.alloc (madeSh 87 N)).alloc (.cells #[.slice (some ⟨w.heap.size, 0, none⟩) N N] 84)) :
    RM W P A (List.replicate N zS) ∧ Below w.heap.size w W := by
  subst hW hA hP
  refine ⟨⟨?_, (made_sh w N _).alloc _, by omega, by simpa using hN⟩, ((Below.refl _ _).alloc (Nat.le_refl _) _).alloc (by simp) _⟩
  rw [List.length_replicate]
  have h := heap_alloc_last (w.alloc (madeSh 87 N)) (.cells #[.slice (some ⟨w.heap.size, 0, none⟩) N N] 84)
  rw [World.size_alloc] at h
  rw [cell_of_row _ _ _ _ _ _ h]; rfl
theorem new_any (n : Int) (N : Nat) (hN : (n < 0 ∧ N = 0) ∨ (0 ≤ n ∧ n ≤ 200 ∧ n = N) ∨ (200 < n ∧ N = 200)) (w : World) :
    Calls Try.prog 29 #[.int .i64 n] w fun e w' => ∃ P A, e = .returned (.pointer (some ⟨P, 0, none⟩)) ∧ w.heap.size ≤ A ∧ w.heap.size ≤ P ∧ RM w' P A (List.replicate N zS) ∧ Below w.heap.size w w' := by
  have h200 : N ≤ 200 := by omega
  have HQ := Lib.hid (new_nat N h200 w _ _ rfl rfl _ rfl)
  rcases hN with ⟨h, rfl⟩ | ⟨h0, h1, rfl⟩ | ⟨h, rfl⟩
  · have hm : (Instr.makeSlice 82 (.int .i64 0) (.int .i64 0)).run Try.prog w = .ok (.slice (some ⟨w.heap.size, 0, none⟩) 0 0) (w.alloc (madeSh 87 0)) := make_sh 0 (by omega) w
    go_enter Try.func29, Try.ntmps29
    go_wp2
    go_ret
    exact ⟨_, _, rfl, Nat.le_refl _, Nat.le_succ _, HQ.out.1, HQ.out.2⟩
  · have hm := make_sh N (by omega) w
    go_enter Try.func29, Try.ntmps29
    go_wp2
    go_ret
    exact ⟨_, _, rfl, Nat.le_refl _, Nat.le_succ _, HQ.out.1, HQ.out.2⟩
  · have hm : (Instr.makeSlice 82 (.int .i64 200) (.int .i64 200)).run Try.prog w = .ok (.slice (some ⟨w.heap.size, 0, none⟩) 200 200) (w.alloc (madeSh 87 200)) := make_sh 200 (by omega) w
    go_enter Try.func29, Try.ntmps29
    go_wp2
    go_ret
    exact ⟨_, _, rfl, Nat.le_refl _, Nat.le_succ _, HQ.out.1, HQ.out.2⟩
end Go.Proofs.Ytkmkjfbbpeocdaa
