/- THE WALKS of take, takeOp. -/
import Derived.Test.YtbmhdinaofepdaaOb
import Derived.LoopN
namespace Go.Proofs.Ytbmhdinaofepdaa
open Go.RowKit
set_option linter.unusedVariables false

theorem numN_ok {l : List UInt8} {u k : Nat} (h : getN l = .ok u k) : numN l = some (zag u, l.drop k) := by unfold numN; rw [h]
/-- an operation of which k numbers x were read -/
def opR (k : Nat) (x : Nat → Int) (l : List UInt8) : Option (O4 × List UInt8) := match k with
  | 0 => opN l
  | 1 => opK1 (x 0) l
  | 2 => opK2 (x 0) (x 1) l
  | 3 => opK3 (x 0) (x 1) (x 2) l
  | _ => some (⟨x 0, x 1, x 2, x 3⟩, l)
def upd (x : Nat → Int) (k : Nat) (n : Int) (j : Nat) : Int := if j = k then n else x j
theorem opR_some {k : Nat} (x : Nat → Int) {l r : List UInt8} {n : Int} (hk : k < 4) (h : numN l = some (n, r)) : opR k x l = opR (k + 1) (upd x k n) r := by
  obtain rfl | rfl | rfl | rfl : k = 0 ∨ k = 1 ∨ k = 2 ∨ k = 3 := by omega
  all_goals simp [opR, opN, opK1, opK2, opK3, h, upd]
theorem opR_none {k : Nat} (x : Nat → Int) {l : List UInt8} (hk : k < 4) (h : numN l = none) : opR k x l = none := by
  obtain rfl | rfl | rfl | rfl : k = 0 ∨ k = 1 ∨ k = 2 ∨ k = 3 := by omega
  all_goals simp [opR, opN, opK1, opK2, opK3, h]
theorem opR_all (x : Nat → Int) (l : List UInt8) : opR 4 x l = some (⟨x 0, x 1, x 2, x 3⟩, l) := rfl
def intF (x : Nat → Int) (i : Nat) : Value := .int .i64 (x i)
def zeroO : O4 := ⟨0, 0, 0, 0⟩
/-- takeOp's answer -/
def TakenOp (l : List UInt8) (B : Nat) (w : World) (e : Ending) (w' : World) : Prop := match opN l with
  | none => e = .returned (.tuple #[opV zeroO, .slice none 0 0, .bool false]) ∧ Below w.heap.size w w'
  | some (o, r) => ∃ A2 cap2, e = .returned (.tuple #[opV o, .slice A2 r.length cap2, .bool true]) ∧ RB w' B A2 r ∧ r.length ≤ cap2 ∧ cap2 ≤ maxLen ∧ Below w.heap.size w w'
theorem rowIs_below {w w' : World} {B b n : Nat} {t : TypeId} {f : Nat → Value} (h : w.rowIs b t n f) (hb : Below B w w') (hB : b < B) : w'.rowIs b t n f := h.of_block (hb.block b hB)
theorem zeros4 (w : World) (t : TypeId) : (w.alloc (.cells #[.int .i64 0, .int .i64 0, .int .i64 0, .int .i64 0] t)).rowIs w.heap.size t 4 (intF fun _ => 0) :=
  World.rowIs_alloc w _ t _ (fun i hi => by
    have hi : i < 4 := hi
    obtain rfl | rfl | rfl | rfl : i = 0 ∨ i = 1 ∨ i = 2 ∨ i = 3 := by omega
    all_goals rfl)
end Go.Proofs.Ytbmhdinaofepdaa
