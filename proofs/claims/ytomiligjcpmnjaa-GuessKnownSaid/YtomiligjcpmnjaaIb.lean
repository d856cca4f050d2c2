/- WALKS over package input: New, Len, At; the laws' Short. -/
import Derived.Test.YtomiligjcpmnjaaIa
import Derived.Test.YtomiligjcpmnjaaKv
import Derived.Test.YtomiligjcpmnjaaKw
namespace Go.Proofs.Ytomiligjcpmnjaa
set_option maxRecDepth 100000
open Go.RowKit
set_option linter.unusedVariables false
set_option linter.unusedSimpArgs false

/-- an address of block b -/
abbrev pB (b : Nat) : Value := .pointer (some ⟨b, 0, none⟩)
theorem wpList_build_line {ops : Array Oper} {rest : List Oper} {o : Oper} {a : Act} {w : World} {Q : Exit → Act → World → Prop} (hgd : o.guard = none) (x : Operand) (ho : o.op = .build 69 #[(0, x)])
    (n : Int) (hb : Try.prog.built 69 [(0, .int .i64 n)] = some (Array.mk (.int .i64 n :: List.replicate 1000 (.int .u8 0)))) (hx : a.eval x = .int .i64 n) (h : wpList Try.prog ops Q rest (a.put o.dst (.agg (Array.mk (.int .i64 n :: List.replicate 1000 (.int .u8 0))))) w) : wpList Try.prog ops Q (o :: rest) a w := by
  have he : (#[(0, x)].map fun (p : Nat × Operand) => (p.1, a.eval p.2)).toList = [(0, .int .i64 n)] := by simp [hx]
  refine wpList_build hgd 69 #[(0, x)] ho ?_ ?_
  · show (Try.prog.built 69 (#[(0, x)].map fun (p : Nat × Operand) => (p.1, a.eval p.2)).toList).isSome = true
    rw [he]
    exact (congrArg Option.isSome hb).trans rfl
  · show wpList Try.prog ops Q rest (a.put o.dst (.agg ((Try.prog.built 69 (#[(0, x)].map fun (p : Nat × Operand) => (p.1, a.eval p.2)).toList).getD #[]))) w
    rw [he, hb]; exact h
theorem wpList_box_line {ops : Array Oper} {rest : List Oper} {o : Oper} {a : Act} {w : World} {Q : Exit → Act → World → Prop} (hgd : o.guard = none) (x : Operand) (ho : o.op = .box 69 x)
    (c : Array Value) (hx : a.eval x = .agg c) (h : wpList Try.prog ops Q rest (a.put o.dst (pB w.heap.size)) (w.alloc (.cells c 69))) : wpList Try.prog ops Q (o :: rest) a w :=
  Go.Great.wpList_boxTo hgd 69 x ho _ rfl _ rfl c (by rw [hx]; rfl) h
theorem new_0 (w : World) : Calls Try.prog 23 #[.int .i64 0] w fun e w' => e = .returned (pB w.heap.size) ∧ LM w' w.heap.size 0 [] ∧ Below w.heap.size w w' := by
  go_enter Try.func23, Try.ntmps23
  go_wp2_with (first
    | (with_reducible refine wpList_build_line rfl (.tmp 5) rfl 0 built0 (by with_unfolding_all rfl) ?_)
    | (with_reducible refine wpList_box_line rfl (.tmp 6) rfl _ (by with_unfolding_all rfl) ?_))
  go_ret
  exact ⟨rfl, LM.new w 0 0 (by omega), (Below.refl _ _).alloc (Nat.le_refl _) _⟩
theorem new_1 (w : World) : Calls Try.prog 23 #[.int .i64 1] w fun e w' => e = .returned (pB w.heap.size) ∧ LM w' w.heap.size 1 [0] ∧ Below w.heap.size w w' := by
  go_enter Try.func23, Try.ntmps23
  go_wp2_with (first
    | (with_reducible refine wpList_build_line rfl (.tmp 5) rfl 1 built1 (by with_unfolding_all rfl) ?_)
    | (with_reducible refine wpList_box_line rfl (.tmp 6) rfl _ (by with_unfolding_all rfl) ?_))
  go_ret
  exact ⟨rfl, LM.new w 1 1 (by omega), (Below.refl _ _).alloc (Nat.le_refl _) _⟩
theorem len_any (w : World) (b : Nat) (n : Int) (l : List UInt8) (h : LM w b n l) : Calls Try.prog 35 #[pB b] w fun e w' => e = .returned (.int .i64 n) ∧ w = w' := by
  have c0 := h.known
  go_enter Try.func35, Try.ntmps35
  go_wp2
  go_ret
  exact ⟨rfl, rfl⟩
theorem len_nil (w : World) : Calls Try.prog 35 #[.pointer none] w fun e w' => e = .returned (.int .i64 0) ∧ w = w' := by
  go_enter Try.func35, Try.ntmps35
  go_wp2
  go_ret
  exact ⟨rfl, rfl⟩
theorem at_nil (w : World) : Calls Try.prog 40 #[.pointer none, .int .i64 0] w fun e w' => e = .returned (.tuple #[.int .u8 0, .bool false]) ∧ w = w' := by
  have HL := Lib.hid len_nil
  go_enter Try.func40, Try.ntmps40
  go_wp2_with (go_at_call 35; with_reducible refine (HL.out _).mono ?_; rintro e w1 ⟨rfl, rfl⟩)
  go_ret2
  exact ⟨rfl, rfl⟩
theorem at_2 (w : World) (b : Nat) (x y z : UInt8) (h : LM w b 3 [x, y, z]) : Calls Try.prog 40 #[pB b, .int .i64 2] w fun e w' => e = .returned (.tuple #[vb z, .bool true]) ∧ w = w' := by
  have HL := Lib.hid (len_any w b 3 [x, y, z] h)
  have c2 := h.byte 2 (by simp) (by simp)
  have e2 : [x, y, z][2] = z := rfl
  rw [e2] at c2
  clear e2 h
  go_enter Try.func40, Try.ntmps40
  go_wp2_with (go_at_call 35; with_reducible refine (HL.out).mono ?_; rintro e w1 ⟨rfl, rfl⟩)
  go_ret2
  exact ⟨rfl, rfl⟩
end Go.Proofs.Ytomiligjcpmnjaa
