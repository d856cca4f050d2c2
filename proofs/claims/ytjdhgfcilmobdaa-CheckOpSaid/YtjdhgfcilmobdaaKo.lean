/- OWN OPERATIONS, programs' blocks, the laws' Cut under new names. (Taken out of XOp, XOq, XOr: of every seat that has api.Prog and lacks their laws.) -/
import Derived.Test.YtjdhgfcilmobdaaOo
namespace Go.Proofs.Ytjdhgfcilmobdaa
set_option maxRecDepth 100000
open Go.RowKit
set_option linter.unusedVariables false
attribute [local go_sem ↓] Go.wp_at_zero Go.wp_at_succ

theorem OO.form_n {w : World} {base : Nat} {v : Value} {os : List O4} (h : OO w base v os) (n : Nat) (hn : os.length = n) : ∃ A cap, v = .slice A n cap := by
  obtain ⟨A, cap, e, _⟩ := h.form
  rw [hn] at e
  exact ⟨A, cap, e⟩
theorem ret_bool {a b : Bool} (h : a = b) : Ending.returned (.bool a) = .returned (.bool b) := by rw [h]
theorem oObj_reads (w : World) (o : O4) : RO (w.alloc (oObj o)) (w.heap.size + 1) (some ⟨w.heap.size, 0, none⟩) [o] := fun _ => by
  have r : (w.alloc (oObj o)).rowIs w.heap.size 30 4 (opF o) := World.rowIs_alloc w _ _ _ (fun i hi => by
    have hi : i < 4 := hi
    obtain rfl | rfl | rfl | rfl : i = 0 ∨ i = 1 ∨ i = 2 ∨ i = 3 := by omega
    all_goals rfl)
  refine ⟨_, _, rfl, Nat.lt_succ_self _, fun j hj => ?_⟩
  have hj : j < 1 := hj
  obtain rfl : j = 0 := by omega
  exact ⟨r.cell (show 0 < 4 by omega), r.cell (show 1 < 4 by omega), r.cell (show 2 < 4 by omega), r.cell (show 3 < 4 by omega)⟩
def pF (t : ByteArray) (v : Value) (i : Nat) : Value := if i = 0 then .string t else v
theorem pRow (w : World) (t : ByteArray) (v : Value) : (w.alloc (.cells #[.string t, v] 24)).rowIs w.heap.size 24 2 (pF t v) := World.rowIs_alloc w _ _ _ (fun i hi => by
  have hi : i < 2 := hi
  obtain rfl | rfl : i = 0 ∨ i = 1 := by omega
  all_goals rfl)
/-- two stores into a program's block -/
theorem stored2 {w : World} {G : Nat} {u v u' v' : Value} (h0 : w.cell? ⟨G, 0, none⟩ = some u') (h1 : w.cell? ⟨G, 1, none⟩ = some v') (B : Nat) (hB : B ≤ G) :
    ((w.setCell ⟨G, 0, none⟩ u).setCell ⟨G, 1, none⟩ v).cell? ⟨G, 0, none⟩ = some u ∧ ((w.setCell ⟨G, 0, none⟩ u).setCell ⟨G, 1, none⟩ v).cell? ⟨G, 1, none⟩ = some v ∧
    Below B w ((w.setCell ⟨G, 0, none⟩ u).setCell ⟨G, 1, none⟩ v) ∧ ((w.setCell ⟨G, 0, none⟩ u).setCell ⟨G, 1, none⟩ v).heap.size = w.heap.size := by
  refine ⟨?_, ?_, ((Below.refl _ _).setCell hB _).setCell hB _, by simp⟩
  · go_simp
  · go_simp
theorem lcut_named (t : ByteArray) (A : Option Addr) (os : List O4) (cap k : Nat) (n : Int) (hn : Hid (n = k)) (w : World) (n0 : 0 ≤ n) (n1 : n ≤ 1000) (hc : os.length ≤ cap) (hm : cap ≤ maxLen) :
    Calls Try.prog 9 #[.agg #[.string t, .slice A os.length cap], .int .i64 n] w fun e w' => ∃ u os', Hid (u = cutT t) ∧ Hid (os' = os.take k) ∧ e = .returned (.agg #[.string u, .slice A os'.length cap]) ∧ Below w.heap.size w w' :=
  (lcut_any t A os cap k n hn w n0 n1 hc hm).mono fun e w' ⟨he, hw⟩ => ⟨_, _, rfl, rfl, he, hw⟩
end Go.Proofs.Ytjdhgfcilmobdaa
