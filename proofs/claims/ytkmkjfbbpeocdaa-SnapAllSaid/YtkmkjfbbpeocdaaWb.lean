/- A STORE of pictures in memory: its struct, its map, its pictures' blocks, its room of pages. -/
import Derived.Test.YtkmkjfbbpeocdaaWa
import Derived.Maps.OwnSet
import Derived.Maps.Keyed
namespace Go.Proofs.Ytkmkjfbbpeocdaa
set_option maxRecDepth 100000
open Go.RowKit Go.Maps
set_option linter.unusedVariables false
set_option linter.unusedSimpArgs false

/-- how a pointer in the map reads: its block -/
def ptrR (v : Value) : Option (DataW Nat × List MemPlace) := match v with
  | .pointer none => some (.nil, [])
  | .pointer (some ⟨b, 0, none⟩) => some (.lit (.int .u64 b), [])
  | _ => none
theorem ptrR_nil {v : Value} {ps : List MemPlace} (h : ptrR v = some (.nil, ps)) : v = .pointer none := by
  unfold ptrR at h
  split at h
  · rfl
  · simp at h
  · cases h
theorem ptrR_at {v : Value} {b : Nat} {ps : List MemPlace} (h : ptrR v = some (.lit (.int .u64 b), ps)) : v = .pointer (some ⟨b, 0, none⟩) := by
  unfold ptrR at h
  split at h
  · simp at h
  · simp at h; rw [Int.ofNat.inj h.1]
  · cases h
def kl (x : Int) : Lit := .int .i64 x
/-- the map's datum says which pictures are live -/
structure MapOf (D : DataW Nat) (L : List Pc) : Prop where
  live : ∀ (k : Nat) (c : Pc), L[k]? = some c → 0 < c.r → ∀ z, D.atKey (kl (k + 1)) z = .lit (.int .u64 c.b)
  dead : ∀ x : Int, (∀ (k : Nat) (c : Pc), x = k + 1 → L[k]? = some c → ¬ 0 < c.r) → has D (kl x) = false
theorem kl_ne {x y : Int} (h : x ≠ y) : kl x ≠ kl y := fun e => h (by unfold kl at e; injection e)
theorem kl_wf {x : Int} (h0 : -9223372036854775808 ≤ x) (h1 : x ≤ 9223372036854775807) : (kl x).wf = true := by
  have e0 : IntKind.i64.min = -9223372036854775808 := by decide
  have e1 : IntKind.i64.max = 9223372036854775807 := by decide
  show (decide (IntKind.i64.min ≤ x) && decide (x ≤ IntKind.i64.max)) = true
  rw [e0, e1]; simp; omega

theorem get_snoc {L : List Pc} {c d : Pc} {k : Nat} (h : (L ++ [c])[k]? = some d) : L[k]? = some d ∨ (k = L.length ∧ d = c) := by
  by_cases hl : k < L.length
  · rw [List.getElem?_append_left hl] at h; exact .inl h
  · have := (List.getElem?_eq_some_iff.1 h).1
    simp at this
    obtain rfl : k = L.length := by omega
    rw [List.getElem?_append_right (Nat.le_refl _), Nat.sub_self] at h
    exact .inr ⟨rfl, (Option.some.inj h).symm⟩
theorem get_old {L : List Pc} {d : Pc} {k : Nat} (c : Pc) (h : L[k]? = some d) : (L ++ [c])[k]? = some d := by
  rw [List.getElem?_append_left (List.getElem?_eq_some_iff.1 h).1]; exact h
theorem get_new (L : List Pc) (c : Pc) : (L ++ [c])[L.length]? = some c := by
  rw [List.getElem?_append_right (Nat.le_refl _), Nat.sub_self]; rfl
theorem get_set {L : List Pc} {c d e : Pc} {k j : Nat} (hk : L[k]? = some c) (h : (L.set k d)[j]? = some e) : (j = k ∧ e = d) ∨ (j ≠ k ∧ L[j]? = some e) := by
  have hl := (List.getElem?_eq_some_iff.1 hk).1
  by_cases hj : j = k
  · subst hj
    rw [List.getElem?_set_self hl] at h
    exact .inl ⟨rfl, (Option.some.inj h).symm⟩
  · rw [List.getElem?_set_ne (fun x => hj x.symm)] at h
    exact .inr ⟨hj, h⟩
theorem get_put {L : List Pc} {c : Pc} {k : Nat} (d : Pc) (hk : L[k]? = some c) : (L.set k d)[k]? = some d := List.getElem?_set_self (List.getElem?_eq_some_iff.1 hk).1
theorem get_oth {L : List Pc} {e : Pc} {k j : Nat} (d : Pc) (hj : j ≠ k) (h : L[j]? = some e) : (L.set k d)[j]? = some e := by
  rw [List.getElem?_set_ne (fun x => hj x.symm)]; exact h
theorem MapOf.put {D : DataW Nat} {L : List Pc} (h : MapOf D L) (hm : IsMap D) (c : Pc) (hc : 0 < c.r) (x : Int) (hx : x = L.length + 1) : MapOf (D.put (kl x) (.lit (.int .u64 c.b))) (L ++ [c]) := by
  subst hx
  constructor
  · intro k d hk hr z
    rcases get_snoc hk with h1 | ⟨rfl, rfl⟩
    · have hl := (List.getElem?_eq_some_iff.1 h1).1
      rw [atKey_put_other (kl_ne (by omega))]
      exact h.live k d h1 hr z
    · exact atKey_put_same hm (show WideAt.IsKeyLit (.int .i64 _) from trivial) _ _
  · intro x hx
    rw [has_put_other (kl_ne (fun e => hx L.length c e (get_new L c) hc))]
    exact h.dead x (fun k d e hk => hx k d e (get_old c hk))
theorem MapOf.del {D : DataW Nat} {L : List Pc} (h : MapOf D L) {k : Nat} {c : Pc} (hk : L[k]? = some c) (d : Pc) (hd : ¬ 0 < d.r) (x : Int) (hx : x = k + 1) : MapOf (D.del (kl x)) (L.set k d) := by
  subst hx
  constructor
  · intro j e hj hr z
    rcases get_set hk hj with ⟨rfl, rfl⟩ | ⟨hn, h1⟩
    · exact absurd hr hd
    · rw [atKey_del_other (kl_ne (by omega))]
      exact h.live j e h1 hr z
  · intro y hy
    by_cases e : y = k + 1
    · subst e; exact has_del_same
    · rw [has_del_other (kl_ne e)]
      exact h.dead y (fun j f e2 hj => hy j f e2 (get_oth d (by omega) hj))
theorem MapOf.turn {D : DataW Nat} {L : List Pc} (h : MapOf D L) {k : Nat} {c : Pc} (hk : L[k]? = some c) (hc : 0 < c.r) (d : Pc) (hd : 0 < d.r) (hb : d.b = c.b) : MapOf D (L.set k d) := by
  constructor
  · intro j e hj hr z
    rcases get_set hk hj with ⟨rfl, rfl⟩ | ⟨hn, h1⟩
    · rw [hb]; exact h.live _ c hk hc z
    · exact h.live j e h1 hr z
  · intro y hy
    refine h.dead y (fun j f e2 hj hf => ?_)
    by_cases e : j = k
    · subst e; exact hy j d e2 (get_put d hk) hd
    · exact hy j f e2 (get_oth d e hj) hf

/-! ### in memory -/
def q4L (f : Nat → Int) : List Value := [.int .i64 (f 0), .int .i64 (f 1), .int .i64 (f 2), .int .i64 (f 3)]
def q4A (f : Nat → Int) : Array Value := (q4L f).toArray
def pcA (r : Int) (f : Nat → Int) : Array Value := (.int .i64 r :: q4L f).toArray
theorem pcA_r (r : Int) (f : Nat → Int) : (pcA r f)[0]? = some (.int .i64 r) := rfl
theorem pcA_on (r : Int) (f : Nat → Int) (i : Nat) (h : i < 4) : (pcA r f)[1 + i]? = some (.int .i64 (f i)) := by
  obtain rfl | rfl | rfl | rfl : i = 0 ∨ i = 1 ∨ i = 2 ∨ i = 3 := by omega
  all_goals rfl
def stA (P M : Nat) (n k : Int) : Array Value := #[.pointer (some ⟨P, 0, none⟩), .int .i64 n, .int .i64 k, .map (some M)]
/-- block b is the picture c -/
def PB (w : World) (c : Pc) : Prop := w.heap[c.b]? = some (.cells (pcA c.r c.on) 78 (0, 0))
theorem PB.r {w : World} {c : Pc} (h : PB w c) : w.cell? ⟨c.b, 0, none⟩ = some (.int .i64 c.r) := by rw [cell_of_row w c.b 0 _ _ _ h]; rfl
theorem PB.on {w : World} {c : Pc} (h : PB w c) (i : Nat) (hi : i < 4) : w.cell? ⟨c.b, 1 + i, none⟩ = some (.int .i64 (c.on i)) := by rw [cell_of_row w c.b _ _ _ _ h]; exact pcA_on _ _ _ hi
theorem PB.fz {w : World} {c : Pc} (h : PB w c) (i : Nat) : w.frozen? ⟨c.b, i, none⟩ = false := by unfold PB at h; simp [World.frozen?, h]
theorem PB.lt {w : World} {c : Pc} (h : PB w c) : c.b < w.heap.size := (Array.getElem?_eq_some_iff.1 h).1
theorem PB.range {w : World} {c : Pc} (h : PB w c) : w.rangeAt c.b 1 (q4L c.on) := fun j v hv => by
  have hj : j < 4 := (List.getElem?_eq_some_iff.1 hv).1
  rw [h.on j hj]
  obtain rfl | rfl | rfl | rfl : j = 0 ∨ j = 1 ∨ j = 2 ∨ j = 3 := by omega
  all_goals simpa [q4L] using hv
/-- a store of pictures: its struct at S, its room at P with its pages in A, its map at M -/
structure SM (w : World) (S P A M : Nat) (l : List Sh) (L : List Pc) : Prop where
  row : w.heap[S]? = some (.cells (stA P M l.length L.length) 66 (0, 0))
  rm : RM w P A l
  map : ∃ D, w.ownsMap Try.prog 40 ptrR M L.length D ∧ MapOf D L
  pics : ∀ (k : Nat) (c : Pc), L[k]? = some c → 0 < c.r → PB w c ∧ c.b ≠ S ∧ c.b ≠ P ∧ c.b ≠ A ∧ c.b ≠ M
  inj : ∀ (j k : Nat) (c d : Pc), L[j]? = some c → L[k]? = some d → 0 < c.r → 0 < d.r → c.b = d.b → j = k
  ne : S ≠ P ∧ S ≠ A ∧ S ≠ M ∧ P ≠ M ∧ A ≠ M
theorem SM.c0 {w : World} {S P A M : Nat} {l : List Sh} {L : List Pc} (h : SM w S P A M l L) : w.cell? ⟨S, 0, none⟩ = some (.pointer (some ⟨P, 0, none⟩)) := by rw [cell_of_row w S 0 _ _ _ h.row]; rfl
theorem SM.c1 {w : World} {S P A M : Nat} {l : List Sh} {L : List Pc} (h : SM w S P A M l L) : w.cell? ⟨S, 1, none⟩ = some (.int .i64 (l.length : Int)) := by rw [cell_of_row w S 1 _ _ _ h.row]; rfl
theorem SM.c2 {w : World} {S P A M : Nat} {l : List Sh} {L : List Pc} (h : SM w S P A M l L) : w.cell? ⟨S, 2, none⟩ = some (.int .i64 (L.length : Int)) := by rw [cell_of_row w S 2 _ _ _ h.row]; rfl
theorem SM.c3 {w : World} {S P A M : Nat} {l : List Sh} {L : List Pc} (h : SM w S P A M l L) : w.cell? ⟨S, 3, none⟩ = some (.map (some M)) := by rw [cell_of_row w S 3 _ _ _ h.row]; rfl
theorem SM.fz {w : World} {S P A M : Nat} {l : List Sh} {L : List Pc} (h : SM w S P A M l L) (i : Nat) : w.frozen? ⟨S, i, none⟩ = false := by have := h.row; simp [World.frozen?, this]
/-- one of the store's blocks -/
def SB (S P A M : Nat) (L : List Pc) (b : Nat) : Prop := b = S ∨ b = P ∨ b = A ∨ b = M ∨ ∃ (k : Nat) (c : Pc), L[k]? = some c ∧ 0 < c.r ∧ b = c.b
theorem SM.ltS {w : World} {S P A M : Nat} {l : List Sh} {L : List Pc} (h : SM w S P A M l L) : S < w.heap.size := (Array.getElem?_eq_some_iff.1 h.row).1
theorem SM.ltM {w : World} {S P A M : Nat} {l : List Sh} {L : List Pc} (h : SM w S P A M l L) : M < w.heap.size := by obtain ⟨D, h1, _⟩ := h.map; exact h1.lt
theorem SM.lt {w : World} {S P A M : Nat} {l : List Sh} {L : List Pc} (h : SM w S P A M l L) {b : Nat} (hb : SB S P A M L b) : b < w.heap.size := by
  rcases hb with rfl | rfl | rfl | rfl | ⟨k, c, hk, hr, rfl⟩
  · exact h.ltS
  · exact h.rm.lt
  · exact h.rm.row.lt
  · exact h.ltM
  · exact (h.pics k c hk hr).1.lt
theorem RM.same {w w' : World} {P A : Nat} {l : List Sh} (h : RM w P A l) (h1 : w'.heap[P]? = w.heap[P]?) (h2 : w'.heap[A]? = w.heap[A]?) : RM w' P A l :=
  ⟨(World.cell?_of_block (w := w) (a := ⟨P, 0, none⟩) h1).trans h.slot, World.rowIs.of_block h.row h2, h.ne, h.len⟩
theorem ownsMap_same {w w' : World} {b n : Nat} {D : DataW Nat} (h : w.ownsMap Try.prog 40 ptrR b n D) (hb : w'.heap[b]? = w.heap[b]?) : w'.ownsMap Try.prog 40 ptrR b n D := by
  obtain ⟨es, clock, h1, r⟩ := h
  exact ⟨es, clock, hb.trans h1, r⟩
/-- the store's blocks are as they were -/
theorem SM.same {w w' : World} {S P A M : Nat} {l : List Sh} {L : List Pc} (h : SM w S P A M l L) (hs : ∀ b, SB S P A M L b → w'.heap[b]? = w.heap[b]?) : SM w' S P A M l L := by
  refine ⟨(hs S (.inl rfl)).trans h.row, h.rm.same (hs P (.inr (.inl rfl))) (hs A (.inr (.inr (.inl rfl)))), ?_, fun k c hk hr => ?_, h.inj, h.ne⟩
  · obtain ⟨D, h1, h2⟩ := h.map
    exact ⟨D, ownsMap_same h1 (hs M (.inr (.inr (.inr (.inl rfl))))), h2⟩
  · have := h.pics k c hk hr
    exact ⟨(hs c.b (.inr (.inr (.inr (.inr ⟨k, c, hk, hr, rfl⟩))))).trans this.1, this.2⟩
theorem SM.belows {w w' : World} {S P A M : Nat} {l : List Sh} {L : List Pc} (h : SM w S P A M l L) (hb : Below w.heap.size w w') : SM w' S P A M l L := h.same fun b hs => hb.block b (h.lt hs)
theorem SM.alloc {w : World} {S P A M : Nat} {l : List Sh} {L : List Pc} (h : SM w S P A M l L) (o : Obj) : SM (w.alloc o) S P A M l L := h.belows ((Below.refl _ w).alloc (Nat.le_refl _) o)
theorem SM.drew {w : World} {S P A M : Nat} {l : List Sh} {L : List Pc} (h : SM w S P A M l L) : SM w.drew S P A M l L := h.belows ((Below.refl _ w).drew)
/-- what has turned lies in blocks of X -/
structure Chg (w w' : World) (X : Nat → Prop) : Prop where
  os : w'.os = w.os
  tape : w'.tape = w.tape
  output : w'.output = w.output
  size : w.heap.size ≤ w'.heap.size
  block : ∀ k, k < w.heap.size → ¬ X k → w'.heap[k]? = w.heap[k]?
theorem Chg.of_below {w w' : World} {X : Nat → Prop} (h : Below w.heap.size w w') : Chg w w' X := ⟨h.os, h.tape, h.output, h.size, fun k hk _ => h.block k hk⟩
theorem Chg.of_grown {w w' : World} {X : Nat → Prop} {b : Nat} (h : w.grownBy w' (some b)) (hX : X b) : Chg w w' X :=
  ⟨h.os, h.tape, h.output, h.size, fun k hk hn => h.block k hk (fun e => hn (Option.some.inj e ▸ hX))⟩
theorem Chg.trans {w w1 w2 : World} {X Y : Nat → Prop} (h : Chg w w1 X) (h2 : Chg w1 w2 Y) (hXY : ∀ b, Y b → X b ∨ w.heap.size ≤ b) : Chg w w2 X :=
  ⟨h2.os.trans h.os, h2.tape.trans h.tape, h2.output.trans h.output, Nat.le_trans h.size h2.size, fun k hk hn => (h2.block k (Nat.lt_of_lt_of_le hk h.size) (fun hy => (hXY k hy).elim hn (fun h => by omega))).trans (h.block k hk hn)⟩
theorem Chg.below {w0 w w' : World} {X : Nat → Prop} {B : Nat} (h : Chg w w' X) (hb : Below B w0 w) (hX : ∀ b, X b → B ≤ b) (hB : B ≤ w.heap.size) : Below B w0 w' :=
  hb.trans ⟨h.os, h.tape, h.output, h.size, fun k hk => h.block k (by omega) (fun hx => by have := hX k hx; omega)⟩
/-- what a call that turns the store leaves -/
structure Upt (w w' : World) (S P A M : Nat) (L : List Pc) (l' : List Sh) (L' : List Pc) : Prop where
  sm : SM w' S P A M l' L'
  chg : Chg w w' (SB S P A M L)
  nw : ∀ b, SB S P A M L' b → SB S P A M L b ∨ w.heap.size ≤ b
theorem Upt.of_below {w w' : World} {S P A M : Nat} {l : List Sh} {L : List Pc} (h : SM w S P A M l L) (hb : Below w.heap.size w w') : Upt w w' S P A M L l L := ⟨h.belows hb, .of_below hb, fun _ h => .inl h⟩
theorem Upt.trans {w w1 w2 : World} {S P A M : Nat} {L L1 L2 : List Pc} {l1 l2 : List Sh} (h : Upt w w1 S P A M L l1 L1) (h2 : Upt w1 w2 S P A M L1 l2 L2) : Upt w w2 S P A M L l2 L2 :=
  ⟨h2.sm, h.chg.trans h2.chg h.nw, fun b hb => (h2.nw b hb).elim (h.nw b) (fun h3 => .inr (Nat.le_trans h.chg.size h3))⟩
theorem Upt.after {w w1 w2 : World} {S P A M : Nat} {L L2 : List Pc} {l2 : List Sh} (hb : Below w.heap.size w w1) (h2 : Upt w1 w2 S P A M L l2 L2) : Upt w w2 S P A M L l2 L2 :=
  ⟨h2.sm, (Chg.of_below hb).trans h2.chg (fun _ h => .inl h), fun b h => (h2.nw b h).imp id (fun h3 => Nat.le_trans hb.size h3)⟩
/-- the room turned -/
theorem SM.room {w w' : World} {S P A M : Nat} {l l' : List Sh} {L : List Pc} (h : SM w S P A M l L) (U : Upd w w' P A l') (hl : l'.length = l.length) : Upt w w' S P A M L l' L := by
  have hk : ∀ b, b ≠ A → b < w.heap.size → w'.heap[b]? = w.heap[b]? := fun b hb hlt => U.gr.block b hlt (fun e => hb (Option.some.inj e))
  refine ⟨⟨?_, U.rm, ?_, fun k c hk2 hr => ?_, h.inj, h.ne⟩, .of_grown U.gr (.inr (.inr (.inl rfl))), fun b h => .inl h⟩
  · rw [hk S h.ne.2.1 h.ltS, hl]; exact h.row
  · obtain ⟨D, h1, h2⟩ := h.map
    exact ⟨D, ownsMap_same h1 (hk M (fun e => h.ne.2.2.2.2 e.symm) h.ltM), h2⟩
  · have := h.pics k c hk2 hr
    exact ⟨(hk c.b this.2.2.2.1 this.1.lt).trans this.1, this.2⟩
/-- a picture turned -/
theorem SM.pic {w w' : World} {S P A M : Nat} {l : List Sh} {L : List Pc} (h : SM w S P A M l L) {k : Nat} {c : Pc} (hk : L[k]? = some c) (hr : 0 < c.r) (d : Pc) (hb : d.b = c.b) (hd : 0 < d.r) (hp : PB w' d) (g : w.grownBy w' (some c.b)) :
    Upt w w' S P A M L l (L.set k d) := by
  have hne := (h.pics k c hk hr).2
  have ho : ∀ b, b ≠ c.b → b < w.heap.size → w'.heap[b]? = w.heap[b]? := fun b hb hlt => g.block b hlt (fun e => hb (Option.some.inj e))
  refine ⟨⟨?_, ?_, ?_, fun j e hj hre => ?_, fun i j e f hi hj h1 h2 hef => ?_, h.ne⟩, .of_grown g (.inr (.inr (.inr (.inr ⟨k, c, hk, hr, rfl⟩)))), fun b hsb => .inl ?_⟩
  · rw [List.length_set, ho S (fun e => hne.1 e.symm) h.ltS]; exact h.row
  · exact h.rm.same (ho P (fun e => hne.2.1 e.symm) h.rm.lt) (ho A (fun e => hne.2.2.1 e.symm) h.rm.row.lt)
  · obtain ⟨D, h1, h2⟩ := h.map
    exact ⟨D, by rw [List.length_set]; exact ownsMap_same h1 (ho M (fun e => hne.2.2.2 e.symm) h.ltM), h2.turn hk hr d hd hb⟩
  · rcases get_set hk hj with ⟨rfl, rfl⟩ | ⟨hn, h1⟩
    · exact ⟨hp, by rw [hb]; exact hne⟩
    · have h2 := h.pics j e h1 hre
      exact ⟨(ho e.b (fun x => hn (h.inj j k e c h1 hk hre hr x)) h2.1.lt).trans h2.1, h2.2⟩
  · rcases get_set hk hi with ⟨rfl, rfl⟩ | ⟨hn, h3⟩
    · rcases get_set hk hj with ⟨rfl, rfl⟩ | ⟨hn2, h4⟩
      · rfl
      · exact h.inj _ j c f hk h4 hr h2 (hb ▸ hef)
    · rcases get_set hk hj with ⟨rfl, rfl⟩ | ⟨hn2, h4⟩
      · exact h.inj i _ e c h3 hk h1 hr (hb ▸ hef)
      · exact h.inj i j e f h3 h4 h1 h2 hef
  · rcases hsb with h1 | h1 | h1 | h1 | ⟨j, e, hj, hre, rfl⟩
    · exact .inl h1
    · exact .inr (.inl h1)
    · exact .inr (.inr (.inl h1))
    · exact .inr (.inr (.inr (.inl h1)))
    · rcases get_set hk hj with ⟨rfl, rfl⟩ | ⟨hn, h1⟩
      · exact .inr (.inr (.inr (.inr ⟨_, c, hk, hr, hb⟩)))
      · exact .inr (.inr (.inr (.inr ⟨j, e, h1, hre, rfl⟩)))
end Go.Proofs.Ytkmkjfbbpeocdaa
