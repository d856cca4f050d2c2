/- MEMORY: a packet in its block: loads, stores. -/
import Derived.Test.YtjbieehehgjnmaaDoorQg
import Derived.Deep.DeepCutAuto
namespace Go.Proofs.YtjbieehehgjnmaaDoor
set_option maxRecDepth 100000
open Go.RowKit
set_option linter.unusedVariables false
set_option linter.unusedSimpArgs false

/-- a packet lies at block P -/
def PkM (w : World) (P : Nat) (k f t id fi : Int) (A : Option Addr) (n c : Nat) (ac fr su : Int) : Prop := w.heap[P]? = some (pkO k f t id fi A n c ac fr su)
theorem PkM.c {w : World} {P : Nat} {k f t id fi : Int} {A : Option Addr} {n c : Nat} {ac fr su : Int} (h : PkM w P k f t id fi A n c ac fr su) :
    w.cell? ⟨P, 0, none⟩ = some (.int .i64 k) ∧ w.cell? ⟨P, 1, none⟩ = some (.int .i64 f) ∧ w.cell? ⟨P, 2, none⟩ = some (.int .i64 t) ∧ w.cell? ⟨P, 3, none⟩ = some (.int .i64 id) ∧ w.cell? ⟨P, 4, none⟩ = some (.int .i64 fi) ∧ w.cell? ⟨P, 5, none⟩ = some (.slice A n c) ∧ w.cell? ⟨P, 6, none⟩ = some (.int .i64 ac) ∧ w.cell? ⟨P, 7, none⟩ = some (.int .i64 fr) ∧ w.cell? ⟨P, 8, none⟩ = some (.int .u32 su) := by
  refine ⟨?_, ?_, ?_, ?_, ?_, ?_, ?_, ?_, ?_⟩ <;> (rw [cell_of_row _ _ _ _ _ _ h]; rfl)
theorem PkM.fz {w : World} {P : Nat} {k f t id fi : Int} {A : Option Addr} {n c : Nat} {ac fr su : Int} (h : PkM w P k f t id fi A n c ac fr su) (j : Nat) : w.frozen? ⟨P, j, none⟩ = false := by
  unfold PkM at h
  simp [World.frozen?, h]
theorem PkM.lt {w : World} {P : Nat} {k f t id fi : Int} {A : Option Addr} {n c : Nat} {ac fr su : Int} (h : PkM w P k f t id fi A n c ac fr su) : P < w.heap.size := cell_lt h.c.1
theorem PkM.kept {w w' : World} {P g : Nat} {k f t id fi : Int} {A : Option Addr} {n c : Nat} {ac fr su : Int} (h : PkM w P k f t id fi A n c ac fr su) (hg : w.grownBy w' (some g)) (hne : P ≠ g) : PkM w' P k f t id fi A n c ac fr su :=
  (hg.block P h.lt (fun e => hne (Option.some.inj e))).trans h
theorem PkM.below {w w' : World} {P B : Nat} {k f t id fi : Int} {A : Option Addr} {n c : Nat} {ac fr su : Int} (h : PkM w P k f t id fi A n c ac fr su) (hb : Below B w w') (hB : P < B) : PkM w' P k f t id fi A n c ac fr su := (hb.block P hB).trans h
theorem PkM.new (w : World) (k f t id fi : Int) (A : Option Addr) (n c : Nat) (ac fr su : Int) : PkM (w.alloc (pkO k f t id fi A n c ac fr su)) w.heap.size k f t id fi A n c ac fr su := heap_alloc_new w _
theorem PkM.set_fi {w : World} {P : Nat} {k f t id fi : Int} {A : Option Addr} {n c : Nat} {ac fr su : Int} (h : PkM w P k f t id fi A n c ac fr su) (v : Int) : PkM (w.setCell ⟨P, 4, none⟩ (.int .i64 v)) P k f t id v A n c ac fr su := by
  unfold PkM at h ⊢
  simp only [World.setCell]
  rw [Array.getElem?_modify, if_pos rfl, h]
  rfl
theorem PkM.set_ac {w : World} {P : Nat} {k f t id fi : Int} {A : Option Addr} {n c : Nat} {ac fr su : Int} (h : PkM w P k f t id fi A n c ac fr su) (v : Int) : PkM (w.setCell ⟨P, 6, none⟩ (.int .i64 v)) P k f t id fi A n c v fr su := by
  unfold PkM at h ⊢
  simp only [World.setCell]
  rw [Array.getElem?_modify, if_pos rfl, h]
  rfl
theorem PkM.set_fr {w : World} {P : Nat} {k f t id fi : Int} {A : Option Addr} {n c : Nat} {ac fr su : Int} (h : PkM w P k f t id fi A n c ac fr su) (v : Int) : PkM (w.setCell ⟨P, 7, none⟩ (.int .i64 v)) P k f t id fi A n c ac v su := by
  unfold PkM at h ⊢
  simp only [World.setCell]
  rw [Array.getElem?_modify, if_pos rfl, h]
  rfl
theorem PkM.set_su {w : World} {P : Nat} {k f t id fi : Int} {A : Option Addr} {n c : Nat} {ac fr su : Int} (h : PkM w P k f t id fi A n c ac fr su) (v : Int) : PkM (w.setCell ⟨P, 8, none⟩ (.int .u32 v)) P k f t id fi A n c ac fr v := by
  unfold PkM at h ⊢
  simp only [World.setCell]
  rw [Array.getElem?_modify, if_pos rfl, h]
  rfl
theorem PkM.set_pr {w : World} {P : Nat} {k f t id fi : Int} {A : Option Addr} {n c : Nat} {ac fr su : Int} (h : PkM w P k f t id fi A n c ac fr su) (A2 : Option Addr) (n2 c2 : Nat) : PkM (w.setCell ⟨P, 5, none⟩ (.slice A2 n2 c2)) P k f t id fi A2 n2 c2 ac fr su := by
  unfold PkM at h ⊢
  simp only [World.setCell]
  rw [Array.getElem?_modify, if_pos rfl, h]
  rfl
theorem PkM.set_k {w : World} {P : Nat} {k f t id fi : Int} {A : Option Addr} {n c : Nat} {ac fr su : Int} (h : PkM w P k f t id fi A n c ac fr su) (v : Int) : PkM (w.setCell ⟨P, 0, none⟩ (.int .i64 v)) P v f t id fi A n c ac fr su := by
  unfold PkM at h ⊢
  simp only [World.setCell]
  rw [Array.getElem?_modify, if_pos rfl, h]
  rfl
theorem PkM.set_id {w : World} {P : Nat} {k f t id fi : Int} {A : Option Addr} {n c : Nat} {ac fr su : Int} (h : PkM w P k f t id fi A n c ac fr su) (v : Int) : PkM (w.setCell ⟨P, 3, none⟩ (.int .i64 v)) P k f t v fi A n c ac fr su := by
  unfold PkM at h ⊢
  simp only [World.setCell]
  rw [Array.getElem?_modify, if_pos rfl, h]
  rfl
theorem pk_info : (Tryd.prog.info? 25).map (·.size) = some 9 := by kernel_rfl
theorem wp_store_pk {w : World} {o : Oper} {a : Act} {K : Act → World → Prop} {Q : Exit → Act → World → Prop} (x y : Operand) (ho : o.op = .store 25 x y)
    (b : Nat) (hx : a.eval x = .pointer (some ⟨b, 0, none⟩)) {k f t id fi : Int} {A : Option Addr} {n c : Nat} {ac fr su : Int} (h : PkM w b k f t id fi A n c ac fr su)
    {k2 f2 t2 id2 fi2 : Int} {A2 : Option Addr} {n2 c2 : Nat} {ac2 fr2 su2 : Int} (hy : a.eval y = pkV k2 f2 t2 id2 fi2 A2 n2 c2 ac2 fr2 su2)
    (hk : ∀ w', PkM w' b k2 f2 t2 id2 fi2 A2 n2 c2 ac2 fr2 su2 → w'.heap.size = w.heap.size → w.grownBy w' (some b) → K (a.put o.dst undef) w') : o.wp Tryd.prog a w K Q := by
  have hrun := run_storeVar_row (P := Tryd.prog) w b 25 25 _ #[.int .i64 k2, .int .i64 f2, .int .i64 t2, .int .i64 id2, .int .i64 fi2, .slice A2 n2 c2, .int .i64 ac2, .int .i64 fr2, .int .u32 su2] h (by rw [pk_info]; rfl) rfl (by simp [Value.oneCell'])
  unfold Oper.wp execOp
  simp only [ho, hx, hy, pkV, Instr.storeAt, Instr.sureAddr, Sem.run_bind, Sem.run_pure, Result.andThen_ok, hrun]
  exact hk _ (setRow_heap w b _ _ _ _ h) (by simp [World.setRow]) ⟨rfl, rfl, rfl, by simp [World.setRow], fun k hk hne => setRow_other w b k _ (fun e => hne (by rw [e]))⟩
theorem wpList_store_pk {w : World} {ops : Array Oper} {rest : List Oper} {o : Oper} {a : Act} {Q : Exit → Act → World → Prop} (hgd : o.guard = none) (x y : Operand) (ho : o.op = .store 25 x y)
    (b : Nat) (hx : a.eval x = .pointer (some ⟨b, 0, none⟩)) {k f t id fi : Int} {A : Option Addr} {n c : Nat} {ac fr su : Int} (h : PkM w b k f t id fi A n c ac fr su)
    {k2 f2 t2 id2 fi2 : Int} {A2 : Option Addr} {n2 c2 : Nat} {ac2 fr2 su2 : Int} (hy : a.eval y = pkV k2 f2 t2 id2 fi2 A2 n2 c2 ac2 fr2 su2)
    (hk : ∀ w', PkM w' b k2 f2 t2 id2 fi2 A2 n2 c2 ac2 fr2 su2 → w'.heap.size = w.heap.size → w.grownBy w' (some b) → wpList Tryd.prog ops Q rest (a.put o.dst undef) w') : wpList Tryd.prog ops Q (o :: rest) a w :=
  wpList_plain hgd fun K hK => wp_store_pk x y ho b hx h hy fun w' h1 h2 h3 => hK _ _ (hk w' h1 h2 h3)
theorem run_load_pk (w : World) (b : Nat) {k f t id fi : Int} {A : Option Addr} {n c : Nat} {ac fr su : Int} (h : PkM w b k f t id fi A n c ac fr su) :
    (loadVar 25 ⟨b, 0, none⟩).run Tryd.prog w = .ok (pkV k f t id fi A n c ac fr su) w :=
  run_loadVar_row w b 25 25 _ (0, 0) _ h Tryd.underlying25 rfl (by rw [pk_info]; rfl)
theorem exec_load_pk {S : World → Prop} {op : Oper} {a : Act} (x : Operand) (ho : op.op = .load 25 x) (b : Nat) (hx : a.eval x = .pointer (some ⟨b, 0, none⟩)) {k f t id fi : Int} {A : Option Addr} {n c : Nat} {ac fr su : Int} (hS : ∀ w, S w → PkM w b k f t id fi A n c ac fr su) (w : World) (hw : S w) :
    (execOp a.eval op).run Tryd.prog w = .ok (.value (pkV k f t id fi A n c ac fr su)) w := by
  have := run_load_pk w b (hS w hw)
  unfold execOp
  simp only [ho, hx, Instr.loadAt, Instr.sureAddr, Sem.run_bind, Sem.run_pure, Result.andThen_ok, this]
theorem wpList_load_pk {w : World} {ops : Array Oper} {rest : List Oper} {o : Oper} {a : Act} {Q : Exit → Act → World → Prop} (hgd : o.guard = none) (x : Operand) (ho : o.op = .load 25 x)
    (b : Nat) (hx : a.eval x = .pointer (some ⟨b, 0, none⟩)) {k f t id fi : Int} {A : Option Addr} {n c : Nat} {ac fr su : Int} (h : PkM w b k f t id fi A n c ac fr su)
    (hk : wpList Tryd.prog ops Q rest (a.put o.dst (pkV k f t id fi A n c ac fr su)) w) : wpList Tryd.prog ops Q (o :: rest) a w := by
  refine wpList_plain hgd fun K hK => ?_
  have hrun := run_load_pk w b h
  unfold Oper.wp execOp
  simp only [ho, hx, Instr.loadAt, Instr.sureAddr, Sem.run_bind, Sem.run_pure, Result.andThen_ok, hrun]
  exact hK _ _ hk
end Go.Proofs.YtjbieehehgjnmaaDoor
