/- A NET in memory: its struct, its row of mails, their bytes. Package net: New, Len, has. -/
import Derived.Test.YtolnafpicfemnaaHb
namespace Go.Proofs.Ytolnafpicfemnaa
set_option maxRecDepth 100000
open Go.RowKit
set_option linter.unusedVariables false
set_option linter.unusedSimpArgs false

/-- one of the net's blocks -/
def NB (b : Nat) (v : Value) (ms : List Ml) (k : Nat) : Prop := k = b ∨ v.ownBlock = some k ∨ ∃ m ∈ ms, m.v.ownBlock = some k
abbrev apartM (m m' : Ml) : Prop := ∀ k, m.v.ownBlock = some k → m'.v.ownBlock ≠ some k
/-- block b is a net: its row v holds the mails ms, each with bytes of its own -/
structure NM (w : World) (b : Nat) (v : Value) (ms : List Ml) : Prop where
  row : w.heap[b]? = some (.cells #[v] 46 (0, 0))
  own : WR w v ms
  ne : v.ownBlock ≠ some b
  mail : ∀ m ∈ ms, OB w 0 m.v m.l ∧ m.l.length ≤ 1000 ∧ m.v.ownBlock ≠ some b ∧ ∀ k, m.v.ownBlock = some k → v.ownBlock ≠ some k
  inj : ms.Pairwise apartM
section
variable {w w' : World} {b : Nat} {v : Value} {ms : List Ml}
theorem NM.c0 (h : NM w b v ms) : w.cell? ⟨b, 0, none⟩ = some v := by rw [cell_of_row w b 0 _ _ _ h.row]; rfl
theorem NM.f0 (h : NM w b v ms) : w.frozen? ⟨b, 0, none⟩ = false := frozen_of_row w b 0 _ _ h.row
theorem NM.lt (h : NM w b v ms) {k : Nat} (hk : NB b v ms k) : k < w.heap.size := by
  rcases hk with rfl | hk | ⟨m, hm, hk⟩
  · exact cell_lt h.c0
  · exact h.own.lt k hk
  · exact ((h.mail m hm).1.lt k hk).2
theorem NM.same (h : NM w b v ms) (hs : ∀ k, NB b v ms k → w'.heap[k]? = w.heap[k]?) : NM w' b v ms :=
  ⟨(hs b (.inl rfl)).trans h.row, h.own.same fun k hk => hs k (.inr (.inl hk)), h.ne, fun m hm => ⟨(h.mail m hm).1.same fun k hk => hs k (.inr (.inr ⟨m, hm, hk⟩)), (h.mail m hm).2⟩, h.inj⟩
theorem NM.belows (h : NM w b v ms) (hb : Below w.heap.size w w') : NM w' b v ms := h.same fun k hk => hb.block k (h.lt hk)
theorem NM.drew (h : NM w b v ms) : NM w.drew b v ms := h.same fun k _ => rfl
theorem NM.mlen (h : NM w b v ms) (j : Nat) (hj : j < ms.length) : ms[j].l.length ≤ 1000 := (h.mail _ (List.getElem_mem hj)).2.1
theorem NM.ob (h : NM w b v ms) (j : Nat) (hj : j < ms.length) : OB w 0 ms[j].v ms[j].l := (h.mail _ (List.getElem_mem hj)).1
end
/-- what a call that turns the net leaves -/
structure NU (w w' : World) (b : Nat) (v : Value) (ms : List Ml) (v' : Value) (ms' : List Ml) : Prop where
  nm : NM w' b v' ms'
  os : w'.os = w.os
  tape : w'.tape = w.tape
  output : w'.output = w.output
  size : w.heap.size ≤ w'.heap.size
  block : ∀ k, k < w.heap.size → ¬ NB b v ms k → w'.heap[k]? = w.heap[k]?
  nw : ∀ k, NB b v' ms' k → NB b v ms k ∨ w.heap.size ≤ k
theorem NU.of_below {w w' : World} {b : Nat} {v : Value} {ms : List Ml} (h : NM w b v ms) (hb : Below w.heap.size w w') : NU w w' b v ms v ms := ⟨h.belows hb, hb.os, hb.tape, hb.output, hb.size, fun k hk _ => hb.block k hk, fun k hk => .inl hk⟩
theorem NU.after {w w1 w2 : World} {b : Nat} {v v2 : Value} {ms ms2 : List Ml} (hb : Below w.heap.size w w1) (h : NU w1 w2 b v ms v2 ms2) : NU w w2 b v ms v2 ms2 :=
  ⟨h.nm, h.os.trans hb.os, h.tape.trans hb.tape, h.output.trans hb.output, Nat.le_trans hb.size h.size, fun k hk hn => (h.block k (Nat.lt_of_lt_of_le hk hb.size) hn).trans (hb.block k hk), fun k hk => (h.nw k hk).imp id (fun h3 => Nat.le_trans hb.size h3)⟩
theorem NU.then_ {w w1 w2 : World} {b : Nat} {v v1 : Value} {ms ms1 : List Ml} (h : NU w w1 b v ms v1 ms1) (hb : Below w1.heap.size w1 w2) : NU w w2 b v ms v1 ms1 :=
  ⟨h.nm.belows hb, hb.os.trans h.os, hb.tape.trans h.tape, hb.output.trans h.output, Nat.le_trans h.size hb.size, fun k hk hn => (hb.block k (Nat.lt_of_lt_of_le hk h.size)).trans (h.block k hk hn), h.nw⟩
/-- another block than the net's, written behind -/
theorem NU.wrote {w w1 w2 : World} {b P : Nat} {v v1 : Value} {ms ms1 : List Ml} (h : NU w w1 b v ms v1 ms1) (hg : w1.grownBy w2 (some P)) (hP : w.heap.size ≤ P) (hn : ¬ NB b v1 ms1 P) : NU w w2 b v ms v1 ms1 :=
  ⟨h.nm.same fun k hk => hg.block k (h.nm.lt hk) (fun e => hn (Option.some.inj e ▸ hk)), hg.os.trans h.os, hg.tape.trans h.tape, hg.output.trans h.output, Nat.le_trans h.size hg.size, fun k hk hn => (hg.block k (Nat.lt_of_lt_of_le hk h.size) (fun e => by have := Option.some.inj e; omega)).trans (h.block k hk hn), h.nw⟩

/-! ### New, Len, has -/
theorem nnew_any (w : World) : Calls Try.prog 9 #[] w fun e w' => e = .returned (pB w.heap.size) ∧ NM w' w.heap.size (.slice none 0 0) [] ∧ Below w.heap.size w w' ∧ w'.heap.size = w.heap.size + 1 := by
  go_enter Try.func9, Try.ntmps9
  go_wp2
  go_ret
  exact ⟨rfl, ⟨heap_alloc_new w _, WR.nil _, by simp [Value.ownBlock], fun m hm => by simp at hm, List.Pairwise.nil⟩, (Below.refl _ _).alloc (Nat.le_refl _) _, by simp⟩
theorem nlen_nil (w : World) : Calls Try.prog 17 #[.pointer none] w fun e w' => e = .returned (.int .i64 0) ∧ w = w' := by
  go_enter Try.func17, Try.ntmps17
  go_wp2
  go_ret
  exact ⟨rfl, rfl⟩
theorem nlen_any (w : World) (b : Nat) (v : Value) (ms : List Ml) (h : NM w b v ms) (n : Nat) (hn : ms.length = n) : Calls Try.prog 17 #[pB b] w fun e w' => e = .returned (.int .i64 n) ∧ w = w' := by
  obtain ⟨A, cap, rfl, hc, hm⟩ := h.own.form n hn
  have c0 := h.c0
  clear h hn
  go_enter Try.func17, Try.ntmps17
  go_wp2
  go_ret
  exact ⟨rfl, rfl⟩
theorem has_nil (w : World) (i : Int) : Calls Try.prog 19 #[.pointer none, .int .i64 i] w fun e w' => e = .returned (.bool false) ∧ w = w' := by
  have HL := Lib.hid (nlen_nil w)
  by_cases h0 : 0 ≤ i
  · go_enter Try.func19, Try.ntmps19
    go_wp2_with (go_at_call 17; with_reducible refine (HL.out).mono ?_; rintro e w1 ⟨rfl, rfl⟩)
    go_ret
    exact ⟨by simp; omega, rfl⟩
  · go_enter Try.func19, Try.ntmps19
    go_wp2_with (go_at_call 17; with_reducible refine (HL.out).mono ?_; rintro e w1 ⟨rfl, rfl⟩)
    go_ret
    exact ⟨rfl, rfl⟩
theorem has_any (w : World) (b : Nat) (v : Value) (ms : List Ml) (h : NM w b v ms) (n : Nat) (hn : ms.length = n) (i : Int) (x : Bool) (hx : x = decide (0 ≤ i ∧ i < n)) : Calls Try.prog 19 #[pB b, .int .i64 i] w fun e w' => e = .returned (.bool x) ∧ w = w' := by
  have HL := Lib.hid (nlen_any w b v ms h n hn)
  subst hx
  clear h hn
  by_cases h0 : 0 ≤ i
  · go_enter Try.func19, Try.ntmps19
    go_wp2_with (go_at_call 17; with_reducible refine (HL.out).mono ?_; rintro e w1 ⟨rfl, rfl⟩)
    go_ret
    exact ⟨by simp [h0], rfl⟩
  · go_enter Try.func19, Try.ntmps19
    go_wp2_with (go_at_call 17; with_reducible refine (HL.out).mono ?_; rintro e w1 ⟨rfl, rfl⟩)
    go_ret
    exact ⟨by simp; omega, rfl⟩
end Go.Proofs.Ytolnafpicfemnaa
