/- WALKS of the laws CodeAny, CodeMost. -/
import Derived.Test.YtbmhdinaofepdaaOm
import Derived.Test.YtbmhdinaofepdaaKp
namespace Go.Proofs.Ytbmhdinaofepdaa
set_option maxRecDepth 100000
open Go.RowKit
set_option linter.unusedVariables false
attribute [local go_sem ↓] Go.wp_at_zero Go.wp_at_succ

theorem lshort_named (A : Option Addr) (l : List UInt8) (cap : Nat) (w : World) (hc : l.length ≤ cap) (hc2 : cap ≤ maxLen) :
    Calls Try.prog 17 #[.slice A l.length cap, .int .i64 100] w fun e w' => ∃ l', Hid (l' = l.take 100) ∧ e = .returned (.slice A l'.length cap) ∧ w = w' :=
  (lshort_any A l cap w hc hc2).mono fun e w' ⟨he, hw⟩ => ⟨_, rfl, he, hw⟩
def opL (o : O4) : List Value := [.int .i64 o.k, .int .i64 o.a, .int .i64 o.b, .int .i64 o.c]
def opsL : List O4 → List Value
  | [] => []
  | o :: r => opL o ++ opsL r
theorem opsL_len (os : List O4) : (opsL os).length = os.length * 4 := by
  induction os with
  | nil => rfl
  | cons o r ih => rw [opsL, List.length_append, ih, List.length_cons]; show 4 + r.length * 4 = _; omega
theorem opsL_snoc (os : List O4) (o : O4) : opsL (os ++ [o]) = opsL os ++ opL o := by
  induction os with
  | nil => simp [opsL]
  | cons p r ih => rw [List.cons_append, opsL, opsL, ih, List.append_assoc]
theorem opsL_at : ∀ (os : List O4) (j c : Nat) (h : j < os.length), c < 4 → (opsL os)[j * 4 + c]? = some (opF os[j] c)
  | [], j, c, h, _ => by simp at h
  | o :: r, 0, c, _, hc => by
    rw [opsL, List.getElem?_append_left (by show 0 * 4 + c < 4; omega)]
    obtain rfl | rfl | rfl | rfl : c = 0 ∨ c = 1 ∨ c = 2 ∨ c = 3 := by omega
    all_goals rfl
  | o :: r, j + 1, c, h, hc => by
    rw [opsL, List.getElem?_append_right (by show 4 ≤ (j + 1) * 4 + c; omega)]
    have e : (j + 1) * 4 + c - (opL o).length = j * 4 + c := by show (j + 1) * 4 + c - 4 = _; omega
    rw [e, opsL_at r j c (by simpa using h) hc]
    rfl
def OO (w : World) (base : Nat) (v : Value) (os : List O4) : Prop := w.ownsRow base 46 4 v os.length (opsL os)
theorem OO.nil (w : World) (base : Nat) : OO w base (.slice none 0 0) [] := World.ownsRow_nil _ _ _ _
theorem OO.form {w : World} {base : Nat} {v : Value} {os : List O4} (h : OO w base v os) : ∃ A cap, v = .slice A os.length cap ∧ os.length ≤ cap ∧ cap ≤ maxLen ∧ RO w w.heap.size A os := by
  have h' := h
  obtain ⟨hl, hd⟩ := h
  rcases hd with ⟨rfl, hn⟩ | ⟨g, cap, cur, rfl, _, hh, h1, h2, h3, h4⟩
  · have e := opsL_len os
    rw [hn] at e
    have h0 : os.length = 0 := by simp at e; omega
    obtain rfl := List.eq_nil_of_length_eq_zero h0
    exact ⟨none, 0, rfl, by simp, by unfold maxLen; omega, RO.nil _ _ _⟩
  · refine ⟨some ⟨g, 0, none⟩, cap, rfl, h1, h2, fun h0 => ⟨g, 0, rfl, ?_, fun j hj => ?_⟩⟩
    · rcases Nat.lt_or_ge g w.heap.size with hlt | hge
      · exact hlt
      · rw [Array.getElem?_eq_none hge] at hh; cases hh
    · have hc := World.ownsRow.cells h' (g := g) rfl
      have e : ∀ c, c < 4 → w.cell? ⟨g, 0 + j * 4 + c, none⟩ = some (opF os[j] c) := fun c hc4 => by
        have := hc (j * 4 + c) _ (opsL_at os j c hj hc4)
        rw [Addr.add_lit] at this
        rw [Nat.add_assoc]
        exact this
      exact ⟨e 0 (by omega), e 1 (by omega), e 2 (by omega), e 3 (by omega)⟩
def oObj (o : O4) : Obj := .cells #[.int .i64 o.k, .int .i64 o.a, .int .i64 o.b, .int .i64 o.c] 46
/-- append of one operation that lies at a block's head -/
theorem wpList_append_op {w : World} {ops : Array Oper} {rest : List Oper} {o : Oper} {a : Act} {Q : Exit → Act → World → Prop} (hgd : o.guard = none) (s x : Operand)
    (ho : o.op = .call { callee := .builtin .append, args := #[s, x], argTypes := #[22, 22] })
    (base : Nat) (v : Value) (os : List O4) (p : O4) (hs : a.eval s = v) (hown : OO w base v os)
    (g c : Nat) (hx : a.eval x = .slice (some ⟨g, 0, none⟩) 1 c) (hr : RO w w.heap.size (some ⟨g, 0, none⟩) [p]) (hlen : os.length ≤ 1000000) (hbase : base ≤ w.heap.size)
    (h : ∀ v' w', OO w' base v' (os ++ [p]) → w.grownBy w' v.ownBlock → wpList Try.prog ops Q rest (a.put o.dst v') w') : wpList Try.prog ops Q (o :: rest) a w := by
  obtain ⟨i0, hi0, hz0, hz1, hz2⟩ := info_parts op_info
  obtain ⟨b, off, e, _, hc⟩ := hr (by simp)
  injection e with e
  injection e with e1 e2
  subst e1 e2
  have hcell := hc 0 (by simp)
  refine wpList_append_own w hgd s x 22 ho base 46 i0 (opV zeroO) 4 32 Try.underlying22 hi0 hz0 hz1 hz2 rfl (by decide) v os.length (opsL os) hs hown ⟨g, 0, none⟩ 1 c (opL p) hx rfl (fun j u hj => ?_) (fun u hu => ?_) (by unfold maxLen; omega) (by omega) hbase (fun v' w' h1 h2 _ => h v' w' ?_ h2)
  · rw [Addr.add_lit]
    have hj4 : j < 4 := by
      rcases Nat.lt_or_ge j 4 with h | h
      · exact h
      · rw [List.getElem?_eq_none (by show 4 ≤ j; omega)] at hj; cases hj
    obtain rfl | rfl | rfl | rfl : j = 0 ∨ j = 1 ∨ j = 2 ∨ j = 3 := by omega
    · injection hj with hj; rw [← hj]; exact hcell.1
    · injection hj with hj; rw [← hj]; exact hcell.2.1
    · injection hj with hj; rw [← hj]; exact hcell.2.2.1
    · injection hj with hj; rw [← hj]; exact hcell.2.2.2
  · simp only [opL, List.mem_cons, List.not_mem_nil, or_false] at hu
    rcases hu with rfl | rfl | rfl | rfl <;> rfl
  · unfold OO
    rw [List.length_append, opsL_snoc]
    exact h1
end Go.Proofs.Ytbmhdinaofepdaa
