/- MEMORY: mails, rows of mails that the call owns, a net. -/
import Derived.Test.YtolnafpicfemnaaKc
import Derived.Test.YtolnafpicfemnaaKd
import Derived.Test.YtolnafpicfemnaaKb
import Derived.Deep.DeepCutAuto
import Derived.Deep.OwnRows
import Derived.WalkSmall
namespace Go.Proofs.Ytolnafpicfemnaa
set_option maxRecDepth 100000
open Go.RowKit
set_option linter.unusedVariables false
set_option linter.unusedSimpArgs false

abbrev pB (b : Nat) : Value := .pointer (some ⟨b, 0, none⟩)
abbrev mlV (f t : Int) (A : Option Addr) (n c : Nat) : Value := .agg #[.int .i64 f, .int .i64 t, .slice A n c]
abbrev mlO (f t : Int) (A : Option Addr) (n c : Nat) : Obj := .cells #[.int .i64 f, .int .i64 t, .slice A n c] 29
/-- a mail lies at block P -/
def MlM (w : World) (P : Nat) (f t : Int) (A : Option Addr) (n c : Nat) : Prop := w.heap[P]? = some (mlO f t A n c)
section
variable {w w' : World} {P : Nat} {f t : Int} {A : Option Addr} {n cp : Nat}
theorem MlM.c (h : MlM w P f t A n cp) : w.cell? ⟨P, 0, none⟩ = some (.int .i64 f) ∧ w.cell? ⟨P, 1, none⟩ = some (.int .i64 t) ∧ w.cell? ⟨P, 2, none⟩ = some (.slice A n cp) := by
  refine ⟨?_, ?_, ?_⟩ <;> (rw [cell_of_row _ _ _ _ _ _ h]; rfl)
theorem MlM.fz (h : MlM w P f t A n cp) (j : Nat) : w.frozen? ⟨P, j, none⟩ = false := by
  unfold MlM at h
  simp [World.frozen?, h]
theorem MlM.lt (h : MlM w P f t A n cp) : P < w.heap.size := cell_lt h.c.1
theorem MlM.kept {g : Nat} (h : MlM w P f t A n cp) (hg : w.grownBy w' (some g)) (hne : P ≠ g) : MlM w' P f t A n cp := (hg.block P h.lt (fun e => hne (Option.some.inj e))).trans h
theorem MlM.below {B : Nat} (h : MlM w P f t A n cp) (hb : Below B w w') (hB : P < B) : MlM w' P f t A n cp := (hb.block P hB).trans h
theorem MlM.then_ (h : MlM w P f t A n cp) (hb : Below w.heap.size w w') : MlM w' P f t A n cp := h.below hb h.lt
theorem MlM.set_b (h : MlM w P f t A n cp) (A2 : Option Addr) (n2 c2 : Nat) : MlM (w.setCell ⟨P, 2, none⟩ (.slice A2 n2 c2)) P f t A2 n2 c2 := by
  unfold MlM at h ⊢
  simp only [World.setCell]
  rw [Array.getElem?_modify, if_pos rfl, h]
  rfl
end
theorem MlM.new (w : World) (f t : Int) (A : Option Addr) (n c : Nat) : MlM (w.alloc (mlO f t A n c)) w.heap.size f t A n c := heap_alloc_new w _
theorem ml_size : (Try.prog.info? 29).map (·.size) = some 3 := by kernel_rfl
theorem wp_store_ml {w : World} {o : Oper} {a : Act} {K : Act → World → Prop} {Q : Exit → Act → World → Prop} (x y : Operand) (ho : o.op = .store 29 x y)
    (b : Nat) (hx : a.eval x = .pointer (some ⟨b, 0, none⟩)) {f t : Int} {A : Option Addr} {n c : Nat} (h : MlM w b f t A n c)
    {f2 t2 : Int} {A2 : Option Addr} {n2 c2 : Nat} (hy : a.eval y = mlV f2 t2 A2 n2 c2)
    (hk : ∀ w', MlM w' b f2 t2 A2 n2 c2 → w'.heap.size = w.heap.size → w.grownBy w' (some b) → K (a.put o.dst undef) w') : o.wp Try.prog a w K Q := by
  have hrun := run_storeVar_row (P := Try.prog) w b 29 29 _ #[.int .i64 f2, .int .i64 t2, .slice A2 n2 c2] h (by rw [ml_size]; rfl) rfl (by simp [Value.oneCell'])
  unfold Oper.wp execOp
  simp only [ho, hx, hy, mlV, Instr.storeAt, Instr.sureAddr, Sem.run_bind, Sem.run_pure, Result.andThen_ok, hrun]
  exact hk _ (setRow_heap w b _ _ _ _ h) (by simp [World.setRow]) ⟨rfl, rfl, rfl, by simp [World.setRow], fun k hk hne => setRow_other w b k _ (fun e => hne (by rw [e]))⟩
theorem wpList_store_ml {w : World} {ops : Array Oper} {rest : List Oper} {o : Oper} {a : Act} {Q : Exit → Act → World → Prop} (hgd : o.guard = none) (x y : Operand) (ho : o.op = .store 29 x y)
    (b : Nat) (hx : a.eval x = .pointer (some ⟨b, 0, none⟩)) {f t : Int} {A : Option Addr} {n c : Nat} (h : MlM w b f t A n c)
    {f2 t2 : Int} {A2 : Option Addr} {n2 c2 : Nat} (hy : a.eval y = mlV f2 t2 A2 n2 c2)
    (hk : ∀ w', MlM w' b f2 t2 A2 n2 c2 → w'.heap.size = w.heap.size → w.grownBy w' (some b) → wpList Try.prog ops Q rest (a.put o.dst undef) w') : wpList Try.prog ops Q (o :: rest) a w :=
  wpList_plain hgd fun K hK => wp_store_ml x y ho b hx h hy fun w' h1 h2 h3 => hK _ _ (hk w' h1 h2 h3)
theorem run_load_ml (w : World) (b : Nat) {f t : Int} {A : Option Addr} {n c : Nat} (h : MlM w b f t A n c) :
    (loadVar 29 ⟨b, 0, none⟩).run Try.prog w = .ok (mlV f t A n c) w :=
  run_loadVar_row w b 29 29 _ (0, 0) _ h Try.underlying29 rfl (by rw [ml_size]; rfl)
theorem exec_load_ml {S : World → Prop} {op : Oper} {a : Act} (x : Operand) (ho : op.op = .load 29 x) (b : Nat) (hx : a.eval x = .pointer (some ⟨b, 0, none⟩)) {f t : Int} {A : Option Addr} {n c : Nat} (hS : ∀ w, S w → MlM w b f t A n c) (w : World) (hw : S w) :
    (execOp a.eval op).run Try.prog w = .ok (.value (mlV f t A n c)) w := by
  have := run_load_ml w b (hS w hw)
  unfold execOp
  simp only [ho, hx, Instr.loadAt, Instr.sureAddr, Sem.run_bind, Sem.run_pure, Result.andThen_ok, this]
theorem wpList_load_ml {w : World} {ops : Array Oper} {rest : List Oper} {o : Oper} {a : Act} {Q : Exit → Act → World → Prop} (hgd : o.guard = none) (x : Operand) (ho : o.op = .load 29 x)
    (b : Nat) (hx : a.eval x = .pointer (some ⟨b, 0, none⟩)) {f t : Int} {A : Option Addr} {n c : Nat} (h : MlM w b f t A n c)
    (hk : wpList Try.prog ops Q rest (a.put o.dst (mlV f t A n c)) w) : wpList Try.prog ops Q (o :: rest) a w := by
  refine wpList_plain hgd fun K hK => ?_
  have hrun := run_load_ml w b h
  unfold Oper.wp execOp
  simp only [ho, hx, Instr.loadAt, Instr.sureAddr, Sem.run_bind, Sem.run_pure, Result.andThen_ok, hrun]
  exact hK _ _ hk

/-! ### rows of mails -/
/-- a mail in a row: from, to, its bytes' slice, its bytes -/
structure Ml where
  f : Int
  t : Int
  v : Value
  l : List UInt8
def mlL (m : Ml) : List Value := [.int .i64 m.f, .int .i64 m.t, m.v]
def mlsL : List Ml → List Value
  | [] => []
  | m :: r => mlL m ++ mlsL r
theorem mlsL_len (ms : List Ml) : (mlsL ms).length = ms.length * 3 := by
  induction ms with
  | nil => rfl
  | cons o r ih => rw [mlsL, List.length_append, ih, List.length_cons]; show 3 + r.length * 3 = _; omega
theorem mlsL_append (os ps : List Ml) : mlsL (os ++ ps) = mlsL os ++ mlsL ps := by
  induction os with
  | nil => rfl
  | cons o r ih => rw [List.cons_append, mlsL, mlsL, ih, List.append_assoc]
theorem mlsL_take (ms : List Ml) (k : Nat) : (mlsL ms).take (k * 3) = mlsL (ms.take k) := by
  rcases Nat.lt_or_ge ms.length k with h | h
  · rw [List.take_of_length_le (by rw [mlsL_len]; omega), List.take_of_length_le (by omega)]
  · have e := mlsL_append (ms.take k) (ms.drop k)
    rw [List.take_append_drop] at e
    rw [e]
    have hl : (mlsL (ms.take k)).length = k * 3 := by rw [mlsL_len, List.length_take]; congr 1; omega
    rw [← hl, List.take_left]
theorem mlsL_drop (ms : List Ml) (k : Nat) : (mlsL ms).drop (k * 3) = mlsL (ms.drop k) := by
  rcases Nat.lt_or_ge ms.length k with h | h
  · rw [List.drop_of_length_le (by rw [mlsL_len]; omega), List.drop_of_length_le (by omega)]; rfl
  · have e := mlsL_append (ms.take k) (ms.drop k)
    rw [List.take_append_drop] at e
    rw [e]
    have hl : (mlsL (ms.take k)).length = k * 3 := by rw [mlsL_len, List.length_take]; congr 1; omega
    rw [← hl, List.drop_left]
theorem mlsL_at (ms : List Ml) (j : Nat) (h : j < ms.length) : (mlsL ms)[j * 3]? = some (.int .i64 ms[j].f) ∧ (mlsL ms)[j * 3 + 1]? = some (.int .i64 ms[j].t) ∧ (mlsL ms)[j * 3 + 2]? = some ms[j].v := by
  have e := mlsL_drop ms j
  rw [List.drop_eq_getElem_cons h] at e
  have e2 : ∀ c, (mlsL ms)[j * 3 + c]? = ((mlsL ms).drop (j * 3))[c]? := fun c => by rw [List.getElem?_drop]
  rw [← Nat.add_zero (j * 3), e2 0, Nat.add_zero, e2 1, e2 2, e]
  exact ⟨rfl, rfl, rfl⟩
theorem mlsL_plain {ms : List Ml} (hs : ∀ m ∈ ms, ∃ A n c, m.v = .slice A n c) {u : Value} (h : u ∈ mlsL ms) : u.oneCell' = true := by
  induction ms with
  | nil => cases h
  | cons o r ih =>
    rw [mlsL, List.mem_append] at h
    rcases h with h | h
    · simp only [mlL, List.mem_cons, List.not_mem_nil, or_false] at h
      rcases h with rfl | rfl | rfl
      · rfl
      · rfl
      · obtain ⟨A, n, c, e⟩ := hs o (List.mem_cons_self ..)
        rw [e]; rfl
    · exact ih (fun m hm => hs m (List.mem_cons_of_mem _ hm)) h
/-- v is a row of the mails ms: its cells may be more than its capacity says -/
def WR (w : World) (v : Value) (ms : List Ml) : Prop :=
  (v = .slice none 0 0 ∧ ms = []) ∨
  ∃ g cap cur, v = .slice (some ⟨g, 0, none⟩) ms.length cap ∧ w.heap[g]? = some (.cells cur 29 (0, 0)) ∧ ms.length ≤ cap ∧ cap ≤ maxLen ∧ cap * 3 ≤ cur.size ∧ cur.toList.take (ms.length * 3) = mlsL ms
theorem WR.nil (w : World) : WR w (.slice none 0 0) [] := .inl ⟨rfl, rfl⟩
theorem WR.same {w w' : World} {v : Value} {ms : List Ml} (h : WR w v ms) (hs : ∀ k, v.ownBlock = some k → w'.heap[k]? = w.heap[k]?) : WR w' v ms := by
  rcases h with h0 | ⟨g, cap, cur, rfl, hh, r⟩
  · exact .inl h0
  · exact .inr ⟨g, cap, cur, rfl, (hs g rfl).trans hh, r⟩
theorem WR.lt {w : World} {v : Value} {ms : List Ml} (h : WR w v ms) (k : Nat) (hk : v.ownBlock = some k) : k < w.heap.size := by
  rcases h with ⟨rfl, _⟩ | ⟨g, cap, cur, rfl, hh, r⟩
  · cases hk
  · obtain rfl := Option.some.inj hk
    exact (Array.getElem?_eq_some_iff.1 hh).1
theorem WR.form {w : World} {v : Value} {ms : List Ml} (h : WR w v ms) (n : Nat) (hn : ms.length = n) : ∃ A cap, v = .slice A n cap ∧ n ≤ cap ∧ cap ≤ maxLen := by
  subst hn
  rcases h with ⟨rfl, rfl⟩ | ⟨g, cap, cur, rfl, hh, r⟩
  · exact ⟨none, 0, rfl, Nat.le_refl _, by unfold maxLen; omega⟩
  · exact ⟨_, cap, rfl, r.1, r.2.1⟩
/-- its cells -/
theorem WR.cell {w : World} {g n cap : Nat} {ms : List Ml} (h : WR w (.slice (some ⟨g, 0, none⟩) n cap) ms) (j : Nat) (u : Value) (hu : (mlsL ms)[j]? = some u) : w.cell? ⟨g, j, none⟩ = some u := by
  rcases h with ⟨hv, _⟩ | ⟨g', cap', cur, hv, hh, h1, h2, h3, h4⟩
  · cases hv
  · injection hv with e1 e2 e3
    injection e1 with e1; injection e1 with e1
    subst e1
    rw [cell_of_row w g j cur _ _ hh, ← Array.getElem?_toList]
    rw [← h4, List.getElem?_take] at hu
    split at hu
    · exact hu
    · cases hu
theorem WR.at {w : World} {A : Option Addr} {n cap : Nat} {ms : List Ml} (h : WR w (.slice A n cap) ms) (j : Nat) (hj : j < ms.length) :
    ∃ g, A = some ⟨g, 0, none⟩ ∧ w.cell? ⟨g, j * 3, none⟩ = some (.int .i64 ms[j].f) ∧ w.cell? ⟨g, j * 3 + 1, none⟩ = some (.int .i64 ms[j].t) ∧ w.cell? ⟨g, j * 3 + 2, none⟩ = some ms[j].v := by
  have h' := h
  rcases h with ⟨_, rfl⟩ | ⟨g, cap', cur, hv, hh, h1, h2, h3, h4⟩
  · simp at hj
  · injection hv with e1 e2 e3
    subst e1
    obtain ⟨a0, a1, a2⟩ := mlsL_at ms j hj
    exact ⟨g, rfl, h'.cell _ _ a0, h'.cell _ _ a1, h'.cell _ _ a2⟩
theorem WR.fz {w : World} {g n cap : Nat} {ms : List Ml} (h : WR w (.slice (some ⟨g, 0, none⟩) n cap) ms) (j : Nat) : w.frozen? ⟨g, j, none⟩ = false := by
  rcases h with ⟨hv, _⟩ | ⟨g', cap', cur, hv, hh, h1, h2, h3, h4⟩
  · cases hv
  · injection hv with e1 e2 e3
    injection e1 with e1; injection e1 with e1
    subst e1
    exact frozen_of_row w g j cur _ hh
/-- cut to its first k, full -/
theorem WR.cut {w : World} {g n cap : Nat} {ms : List Ml} (h : WR w (.slice (some ⟨g, 0, none⟩) n cap) ms) (k c : Nat) (hk : k ≤ ms.length) (hkc : k ≤ c) (hc : c ≤ cap) : WR w (.slice (some ⟨g, 0, none⟩) k c) (ms.take k) := by
  rcases h with ⟨hv, _⟩ | ⟨g', cap', cur, hv, hh, h1, h2, h3, h4⟩
  · cases hv
  · injection hv with e1 e2 e3
    injection e1 with e1; injection e1 with e1
    subst e1 e3
    have hl : (ms.take k).length = k := by rw [List.length_take]; omega
    refine .inr ⟨g, c, cur, by rw [hl], hh, by rw [hl]; exact hkc, by omega, by have := Nat.mul_le_mul_right 3 hc; omega, ?_⟩
    rw [hl, ← mlsL_take, ← h4, List.take_take]
    congr 1
    have := Nat.mul_le_mul_right 3 hk
    omega
theorem mail_info : (Try.prog.info? 29).map (fun i => (i.zero, i.size, i.bytes)) = some (some (.agg #[.int .i64 0, .int .i64 0, .slice none 0 0]), 3, 40) := by kernel_rfl
end Go.Proofs.Ytolnafpicfemnaa
