/- THE CHAIN's memory: guesses by the presses behind which they stand. -/
import Derived.Test.YtomiligjcpmnjaaFn
import Derived.Maps.OwnSet
import Derived.Maps.Keyed
namespace Go.Proofs.Ytomiligjcpmnjaa
set_option maxRecDepth 100000
open Go.RowKit Go.Maps
set_option linter.unusedVariables false
set_option linter.unusedSimpArgs false

def mset (mm : List UInt8 → Option UInt8) (e : List UInt8) (v : UInt8) : List UInt8 → Option UInt8 := fun x => if x = e then some v else mm x
/-- what is remembered is true still -/
def Memo (b : Kd) (p : List UInt8) (mm : List UInt8 → Option UInt8) : Prop :=
  (b.k = 1 → ∀ e v, mm e = some v → 0 < p.length ∧ lst p = v) ∧
  (b.k = 2 → ∀ e v, mm e = some v → e.length ≤ b.o ∧ (e.length < b.o → e.length < p.length) ∧ (e.length = b.o → ∀ u : UInt8, u ≠ v → wts b.o e p p.length u.toNat < wts b.o e p p.length v.toNat))
theorem memo_none (b : Kd) (p : List UInt8) : Memo b p (fun _ => none) := ⟨fun _ e v h => absurd h (by simp), fun _ e v h => absurd h (by simp)⟩
theorem endN_len (o : Nat) (p : List UInt8) : (endN o p).length = min o p.length := by unfold endN; rw [List.length_drop]; omega
theorem memo_hit {b : Kd} {p : List UInt8} {mm : List UInt8 → Option UInt8} (h : Memo b p mm) (hok : b.ok) (h3 : b.k ≠ 3) {v : UInt8} (hv : mm (endN b.o p) = some v) : nxt b p = v := by
  rcases hok with ⟨k1, _⟩ | ⟨k2, _⟩ | ⟨k3, _⟩
  · have := h.1 k1 _ _ hv
    rw [nxt_last k1 this.1, this.2]
  · obtain ⟨q1, q2, q3⟩ := h.2 k2 _ _ hv
    have hl := endN_len b.o p
    have e : (endN b.o p).length = b.o := by omega
    exact nxt_weight k2 (fun u hu => q3 e u hu)
  · exact absurd k3 h3
theorem lst_push (p : List UInt8) (x : UInt8) : lst (p ++ [x]) = x := by unfold lst; simp [List.getD]
theorem memo_push {b : Kd} {p : List UInt8} {mm : List UInt8 → Option UInt8} (h : Memo b p mm) (hok : b.ok) (mm' : List UInt8 → Option UInt8)
    (hm : mm' = mset mm (endN b.o p) (nxt b p) ∨ (mm' = mm ∧ b.k ≠ 3 ∧ mm (endN b.o p) = some (nxt b p))) : Memo b (p ++ [nxt b p]) mm' := by
  have hin : ∀ e v, mm' e = some v → (e = endN b.o p ∧ (mm e = none ∨ b.k = 3 ∨ mm e = some v) ∧ (v = nxt b p)) ∨ (e ≠ endN b.o p ∧ mm e = some v) := fun e v hv => by
    by_cases c : e = endN b.o p
    · left
      subst c
      have hvv : v = nxt b p := by
        rcases hm with rfl | ⟨rfl, _, h3⟩
        · unfold mset at hv; rw [if_pos rfl] at hv; exact (Option.some.inj hv).symm
        · rw [h3] at hv; exact (Option.some.inj hv).symm
      refine ⟨rfl, ?_, hvv⟩
      by_cases k3 : b.k = 3
      · exact .inr (.inl k3)
      · cases hq : mm (endN b.o p) with
        | none => exact .inl rfl
        | some x => exact .inr (.inr (by rw [hvv, memo_hit h hok k3 hq]))
    · right
      refine ⟨c, ?_⟩
      rcases hm with rfl | ⟨rfl, _, h3⟩
      · unfold mset at hv; rw [if_neg c] at hv; exact hv
      · exact hv
  refine ⟨fun k1 e v hv => ⟨by simp, ?_⟩, fun k2 e v hv => ?_⟩
  · rw [lst_push]
    rcases hin e v hv with ⟨_, _, hvv⟩ | ⟨_, h2⟩
    · exact hvv.symm
    · have := h.1 k1 e v h2
      rw [nxt_last k1 this.1, this.2]
  · have hP : ∀ u : UInt8, wts b.o e (p ++ [nxt b p]) (p ++ [nxt b p]).length u.toNat = wts b.o e p p.length u.toNat + (if b.o ≤ p.length ∧ endN b.o p = e ∧ (nxt b p).toNat = u.toNat then 1 else 0) := fun u => wts_push b.o e p (nxt b p) u.toNat
    rcases hin e v hv with ⟨c, _, hvv⟩ | ⟨c, h2⟩
    · have hl := endN_len b.o p
      rw [← c] at hl
      refine ⟨by omega, fun h4 => by simp; omega, fun h4 u hu => ?_⟩
      have hge : wts b.o e p p.length u.toNat ≤ wts b.o e p p.length v.toNat := by
        rw [c, hvv]; exact nxt_max k2 u
      rw [hP, hP, if_neg (fun hh => nat_ne hu (by rw [hvv]; exact hh.2.2)), if_pos ⟨by omega, c.symm, by rw [hvv]⟩]
      omega
    · obtain ⟨q1, q2, q3⟩ := h.2 k2 e v h2
      refine ⟨q1, fun h4 => by have := q2 h4; simp; omega, fun h4 u hu => ?_⟩
      rw [hP, hP, if_neg (fun hh => c hh.2.1.symm), if_neg (fun hh => c hh.2.1.symm)]
      have := q3 h4 u hu
      omega

/-! ### in memory -/
def ks (e : List UInt8) : Lit := .string e
theorem ks_ne {e f : List UInt8} (h : e ≠ f) : ks e ≠ ks f := fun x => h (by unfold ks at x; injection x)
/-- block M is the memory mm, of at most n entries -/
def MapS (w : World) (M n : Nat) (mm : List UInt8 → Option UInt8) : Prop :=
  ∃ D : DataW Nat, w.ownsMap Try.prog 9 (plainElem Try.prog 5) M n D ∧ (∀ e, mm e = none → has D (ks e) = false) ∧ (∀ e v, mm e = some v → has D (ks e) = true ∧ ∀ z, D.atKey (ks e) z = .lit (.int .u8 (v.toNat : Int)))
theorem MapS.lt {w : World} {M n : Nat} {mm : List UInt8 → Option UInt8} (h : MapS w M n mm) : M < w.heap.size := by obtain ⟨D, h1, _⟩ := h; exact h1.lt
theorem MapS.new (w : World) : MapS (w.alloc (.map #[] 0)) w.heap.size 0 (fun _ => none) :=
  ⟨.map [], World.ownsMap_made w _ _ _, fun e _ => rfl, fun e v h => absurd h (by simp)⟩
theorem MapS.kept {w w' : World} {M n : Nat} {mm : List UInt8 → Option UInt8} {row : Option Nat} (h : MapS w M n mm) (hg : w.grownBy w' row) (hne : some M ≠ row) : MapS w' M n mm := by
  obtain ⟨D, h1, h2, h3⟩ := h
  exact ⟨D, h1.kept hg hne, h2, h3⟩
theorem MapS.then_ {w w' : World} {M n : Nat} {mm : List UInt8 → Option UInt8} (h : MapS w M n mm) (hb : Below w.heap.size w w') : MapS w' M n mm := h.kept (only_of_below hb none) (by simp)
theorem key_str (e : List UInt8) (he : e.length ≤ 2000) : keyOf Try.prog 9 (.string (str e)) = some (ks e) :=
  WideMaps.keyOf_string_mk (P := Try.prog) Try.underlying9 (s := str e) (by rw [str_size]; unfold maxLen; omega)
theorem u8_wf (v : UInt8) : (Lit.int .u8 (v.toNat : Int)).wf = true := by
  have := v.toNat_lt
  have e0 : IntKind.u8.min = 0 := by decide
  have e1 : IntKind.u8.max = 255 := by decide
  show (decide (IntKind.u8.min ≤ (v.toNat : Int)) && decide ((v.toNat : Int) ≤ IntKind.u8.max)) = true
  rw [e0, e1]; simp; omega
theorem map_look {w : World} {M n : Nat} {mm : List UInt8 → Option UInt8} (h : MapS w M n mm) (e : List UInt8) (he : e.length ≤ 2000) :
    (Instr.lookup 79 (.map (some M)) (.string (str e)) true).run Try.prog w = .ok (.tuple #[.int .u8 (((mm e).getD 0).toNat : Int), .bool (mm e).isSome]) w := by
  obtain ⟨D, h1, h2, h3⟩ := h
  obtain ⟨v, ps, hr, hv⟩ := h1.look_ok (string_keyed Try.underlying9) Try.underlying79 (Try.zeroValue5 w) (zd := .lit (.int .u8 0)) (zp := []) (plainElem_int Try.underlying5 (by decide)) (key_str e he)
  obtain ⟨a, rfl, hz, hw⟩ := plainElem_int_inv Try.underlying5 hv
  have ha := congrArg Prod.fst hz
  cases hm : mm e with
  | none =>
    rw [atKey_of_not_has (h2 e hm)] at ha
    injection ha with ha
    injection ha with _ ha
    rw [h2 e hm, ← ha] at hr
    exact hr
  | some x =>
    obtain ⟨q1, q2⟩ := h3 e x hm
    rw [show D.atKey (ks e) _ = _ from q2 _] at ha
    injection ha with ha
    injection ha with _ ha
    rw [q1, ← ha] at hr
    exact hr
theorem wpList_map_put {w : World} {ops : Array Oper} {rest : List Oper} {o : Oper} {a : Act} {Q : Exit → Act → World → Prop} (hg : o.guard = none) (m x v : Operand) (hop : o.op = Op.mapUpdate 79 m x v)
    (M n : Nat) (mm : List UInt8 → Option UInt8) (hm : a.eval m = .map (some M)) (h : MapS w M n mm) (hn : n ≤ 2000) (e : List UInt8) (he : e.length ≤ 2000) (y : UInt8) (hx : a.eval x = .string (str e)) (hv : a.eval v = .int .u8 (y.toNat : Int))
    (hK : ∀ w', MapS w' M (n + 1) (mset mm e y) → w.grownBy w' (some M) → wpList Try.prog ops Q rest (a.put o.dst undef) w') : wpList Try.prog ops Q (o :: rest) a w := by
  obtain ⟨D, h1, h2, h3⟩ := h
  refine wpList_mapUpdate_in w hg m x v 79 hop 9 5 (string_keyed Try.underlying9) Try.underlying79 (plainElem Try.prog 5) M n D hm h1 (by unfold maxLen; omega) _ _ (ks e) hx hv (key_str e he)
    (.lit (.int .u8 (y.toNat : Int))) [] (plainElem_int Try.underlying5 (u8_wf y)) (fun w' hown ht => hK w' ⟨_, hown, fun f hf => ?_, fun f u hf => ?_⟩ ht.grown)
  · by_cases c : f = e
    · subst c; unfold mset at hf; rw [if_pos rfl] at hf; cases hf
    · unfold mset at hf; rw [if_neg c] at hf
      rw [has_put_other (ks_ne c)]; exact h2 f hf
  · by_cases c : f = e
    · subst c
      unfold mset at hf; rw [if_pos rfl] at hf
      injection hf with hf
      subst hf
      exact ⟨has_put_same h1.isMap (show WideAt.IsKeyLit (.string _) from trivial) _, fun z => atKey_put_same h1.isMap (show WideAt.IsKeyLit (.string _) from trivial) _ _⟩
    · unfold mset at hf; rw [if_neg c] at hf
      obtain ⟨q1, q2⟩ := h3 f u hf
      exact ⟨by rw [has_put_other (ks_ne c)]; exact q1, fun z => by rw [atKey_put_other (ks_ne c)]; exact q2 z⟩
end Go.Proofs.Ytomiligjcpmnjaa
