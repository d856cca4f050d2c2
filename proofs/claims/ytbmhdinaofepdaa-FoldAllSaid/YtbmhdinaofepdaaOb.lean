/- MEMORY: operations. The walks of split, join, small, take. -/
import Derived.Test.YtbmhdinaofepdaaOc
import Derived.Deep.OwnRows
import Derived.BigQuiet
import Derived.RegionTactic
namespace Go.Proofs.Ytbmhdinaofepdaa
open Go.RowKit
set_option linter.unusedVariables false

def opV (o : O4) : Value := .agg #[.int .i64 o.k, .int .i64 o.a, .int .i64 o.b, .int .i64 o.c]
def opF (o : O4) (j : Nat) : Value := match j with
  | 0 => .int .i64 o.k
  | 1 => .int .i64 o.a
  | 2 => .int .i64 o.b
  | _ => .int .i64 o.c
/-- A slice value at A reads as the operations os, below block B. -/
def RO (w : World) (B : Nat) (A : Option Addr) (os : List O4) : Prop :=
  0 < os.length → ∃ b off, A = some ⟨b, off, none⟩ ∧ b < B ∧ ∀ j (h : j < os.length), w.cell? ⟨b, off + j * 4, none⟩ = some (.int .i64 os[j].k) ∧ w.cell? ⟨b, off + j * 4 + 1, none⟩ = some (.int .i64 os[j].a) ∧
    w.cell? ⟨b, off + j * 4 + 2, none⟩ = some (.int .i64 os[j].b) ∧ w.cell? ⟨b, off + j * 4 + 3, none⟩ = some (.int .i64 os[j].c)
theorem RO.nil (w : World) (B : Nat) (A : Option Addr) : RO w B A [] := fun h => absurd h (by simp)
theorem RO.below {w w' : World} {B : Nat} {A : Option Addr} {l : List O4} (h : RO w B A l) (hb : Below B w w') : RO w' B A l := fun h0 => by
  obtain ⟨b, off, e, hlt, hc⟩ := h h0
  refine ⟨b, off, e, hlt, fun j hj => ?_⟩
  obtain ⟨h1, h2, h3, h4⟩ := hc j hj
  exact ⟨(hb.cell (p := ⟨b, _, none⟩) hlt).trans h1, (hb.cell (p := ⟨b, _, none⟩) hlt).trans h2, (hb.cell (p := ⟨b, _, none⟩) hlt).trans h3, (hb.cell (p := ⟨b, _, none⟩) hlt).trans h4⟩
theorem RO.more {w : World} {B B' : Nat} {A : Option Addr} {l : List O4} (h : RO w B A l) (hB : B ≤ B') : RO w B' A l := fun h0 => by
  obtain ⟨b, off, e, hlt, hc⟩ := h h0
  exact ⟨b, off, e, by omega, hc⟩
theorem RO.take {w : World} {B : Nat} {A : Option Addr} {l : List O4} (h : RO w B A l) (k : Nat) : RO w B A (l.take k) := fun h0 => by
  rw [List.length_take] at h0
  obtain ⟨b, off, e, hlt, hc⟩ := h (by omega)
  refine ⟨b, off, e, hlt, fun j hj => ?_⟩
  rw [List.length_take] at hj
  rw [List.getElem_take]
  exact hc j (by omega)

set_option maxHeartbeats 400000 in
theorem split_any (o : O4) (w : World) :
    Calls Try.prog 51 #[opV o] w fun e w' => e = .returned (opV o) ∧ Below w.heap.size w w' := by
  obtain ⟨k, a, b, c⟩ := o
  unfold opV
  go_enter Try.func51, Try.ntmps51
  go_wp2
  refine bodyPost_ret (v := .agg #[.int .i64 k, .int .i64 a, .int .i64 b, .int .i64 c]) (by simp [results, Try.results51, go_sem]) rfl ⟨rfl, ((Below.refl _ _).alloc (Nat.le_refl _) _).alloc (by simp) _⟩
theorem small_any (n : Int) (w : World) :
    Calls Try.prog 35 #[.int .i64 n] w fun e w' => e = .returned (.bool (smlB n)) ∧ w = w' := by
  unfold smlB
  by_cases h1 : -2147483648 ≤ n
  all_goals by_cases h2 : n ≤ 2147483647
  all_goals
    go_enter Try.func35, Try.ntmps35
    go_wp2
    go_ret
    exact ⟨by simp [h1, h2], rfl⟩
end Go.Proofs.Ytbmhdinaofepdaa
