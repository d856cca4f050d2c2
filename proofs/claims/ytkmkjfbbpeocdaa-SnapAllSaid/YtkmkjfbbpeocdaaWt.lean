/- The store in a law that has blocks of its own: what each call leaves. -/
import Derived.Test.YtkmkjfbbpeocdaaWp
namespace Go.Proofs.Ytkmkjfbbpeocdaa
set_option maxRecDepth 100000
open Go.RowKit Go.Maps
set_option linter.unusedVariables false
set_option linter.unusedSimpArgs false

/-- the blocks of X are as they were -/
def Same (X : List Nat) (w w' : World) : Prop := ∀ x ∈ X, w'.heap[x]? = w.heap[x]?
theorem Same.trans {X : List Nat} {a b c : World} (h : Same X a b) (k : Same X b c) : Same X a c := fun x hx => (k x hx).trans (h x hx)
/-- the store at w in a call that began at w0 and has the blocks X of its own -/
structure LX (w0 w : World) (S P A M : Nat) (l : List Sh) (L : List Pc) (X : List Nat) : Prop where
  ls : LS w0 w S P A M l L
  far : ∀ x ∈ X, w0.heap.size ≤ x ∧ x < w.heap.size ∧ ¬ SB S P A M L x
theorem LX.upt {w0 w w' : World} {S P A M : Nat} {l l' : List Sh} {L L' : List Pc} {X : List Nat} (h : LX w0 w S P A M l L X) (U : Upt w w' S P A M L l' L') (I : INV l' L') : LX w0 w' S P A M l' L' X ∧ Same X w w' :=
  ⟨⟨h.ls.upt U I, fun x hx => ⟨(h.far x hx).1, Nat.lt_of_lt_of_le (h.far x hx).2.1 U.chg.size, fun hs => (U.nw x hs).elim (h.far x hx).2.2 (fun h3 => by have := (h.far x hx).2.1; omega)⟩⟩, fun x hx => U.chg.block x (h.far x hx).2.1 (h.far x hx).2.2⟩
theorem LX.belows {w0 w w' : World} {S P A M : Nat} {l : List Sh} {L : List Pc} {X : List Nat} (h : LX w0 w S P A M l L X) (hb : Below w.heap.size w w') : LX w0 w' S P A M l L X ∧ Same X w w' :=
  ⟨⟨h.ls.belows hb, fun x hx => ⟨(h.far x hx).1, Nat.lt_of_lt_of_le (h.far x hx).2.1 hb.size, (h.far x hx).2.2⟩⟩, fun x hx => hb.block x (h.far x hx).2.1⟩
/-- a new block of the call's own -/
theorem LX.add {w0 w w' : World} {S P A M : Nat} {l : List Sh} {L : List Pc} {X : List Nat} (h : LX w0 w S P A M l L X) (hb : Below w.heap.size w w') (x : Nat) (hx : w.heap.size ≤ x) (hx2 : x < w'.heap.size) : LX w0 w' S P A M l L (x :: X) ∧ Same X w w' := by
  have h1 := h.belows hb
  refine ⟨⟨h1.1.ls, fun y hy => ?_⟩, h1.2⟩
  rcases List.mem_cons.1 hy with rfl | hy
  · exact ⟨Nat.le_trans h.ls.be.size hx, hx2, fun hs => by have := h.ls.sm.lt hs; omega⟩
  · exact h1.1.far y hy
/-- a block of the call's own is written -/
theorem LX.wrote {w0 w w' : World} {S P A M : Nat} {l : List Sh} {L : List Pc} {X : List Nat} (h : LX w0 w S P A M l L X) {x : Nat} (hx : x ∈ X) (g : w.grownBy w' (some x)) : LX w0 w' S P A M l L X ∧ ∀ y, y < w.heap.size → y ≠ x → w'.heap[y]? = w.heap[y]? := by
  have hk : ∀ y, y < w.heap.size → y ≠ x → w'.heap[y]? = w.heap[y]? := fun y hy hn => g.block y hy (fun e => hn (Option.some.inj e))
  refine ⟨⟨⟨h.ls.sm.same (fun b hb => hk b (h.ls.sm.lt hb) (fun e => (h.far x hx).2.2 (e ▸ hb))), h.ls.hi, h.ls.be.grown g h.ls.be.size (fun k e => by have := Option.some.inj e; have := (h.far x hx).1; omega), h.ls.inv⟩, fun y hy => ⟨(h.far y hy).1, Nat.lt_of_lt_of_le (h.far y hy).2.1 g.size, (h.far y hy).2.2⟩⟩, hk⟩
theorem LX.less {w0 w : World} {S P A M : Nat} {l : List Sh} {L : List Pc} {X Y : List Nat} (h : LX w0 w S P A M l L X) (hY : ∀ y ∈ Y, y ∈ X) : LX w0 w S P A M l L Y := ⟨h.ls, fun y hy => h.far y (hY y hy)⟩
theorem LX.inv {w0 w : World} {S P A M : Nat} {l : List Sh} {L : List Pc} {X : List Nat} (h : LX w0 w S P A M l L X) : INV l L := h.ls.inv
theorem LX.sm {w0 w : World} {S P A M : Nat} {l : List Sh} {L : List Pc} {X : List Nat} (h : LX w0 w S P A M l L X) : SM w S P A M l L := h.ls.sm
theorem x_new (n : Nat) (hn : n ≤ 50) (x : Int) (hx : x = n) (w : World) (N : Nat) (hN : N = 4 * n) :
    Calls Try.prog 12 #[.int .i64 x] w fun e w' => ∃ S P A M l, e = .returned (.pointer (some ⟨S, 0, none⟩)) ∧ LX w w' S P A M l [] [] ∧ usedN l = 0 ∧ l.length = N := by
  refine (t_new n hn x hx w N hN).mono fun e w' ⟨S, P, A, M, h1, l, h2, h3, h4⟩ => ⟨S, P, A, M, l, h1, ⟨h2, fun x hx => by simp at hx⟩, h3, h4⟩
section
variable {w0 w : World} {S P A M : Nat} {l : List Sh} {L : List Pc} {X : List Nat}
theorem x_make (h : LX w0 w S P A M l L X) (hu : usedN l + 4 ≤ l.length) (hL : L.length ≤ 900) (g : List Int) (hg : g.length = 32) (x : Int) (hx : x = L.length + 1) :
    Calls Try.prog 16 #[.pointer (some ⟨S, 0, none⟩), .agg (gC g)] w fun e w' => e = .returned (.tuple #[.int .i64 x, .bool true]) ∧ ∃ l' f b, LX w0 w' S P A M l' (L ++ [⟨b, 1, f⟩]) X ∧ Same X w w' ∧ MadeN l l' g f 4 := by
  refine (make_hit w S P A M l L h.sm h.inv hu (by omega) g hg x hx).mono fun e w' ⟨he, l', f, b, U, Md⟩ => ?_
  have := h.upt U (Md.inv h.inv b)
  exact ⟨he, l', f, b, this.1, this.2, Md⟩
theorem x_makeno (h : LX w0 w S P A M l L X) (hu : l.length < usedN l + 4) (g : List Int) :
    Calls Try.prog 16 #[.pointer (some ⟨S, 0, none⟩), .agg (gC g)] w fun e w' => e = .returned (.tuple #[.int .i64 0, .bool false]) ∧ LX w0 w' S P A M l L X ∧ Same X w w' :=
  (make_miss w S P A M l L h.sm hu g).mono fun e w' ⟨he, hb⟩ => ⟨he, h.belows hb⟩
theorem x_fork (h : LX w0 w S P A M l L X) (hL : L.length ≤ 900) (x : Int) (k : Nat) (c : Pc) (hk : x = k + 1) (hc : L[k]? = some c) (hr : 0 < c.r) (y : Int) (hy : y = L.length + 1) :
    Calls Try.prog 17 #[.pointer (some ⟨S, 0, none⟩), .int .i64 x] w fun e w' => e = .returned (.tuple #[.int .i64 y, .bool true]) ∧ ∃ l' b, LX w0 w' S P A M l' (L ++ [⟨b, 1, c.on⟩]) X ∧ Same X w w' ∧ TurnN 1 l l' c.on 4 := by
  have hkl := (List.getElem?_eq_some_iff.1 hc).1
  refine (fork_in w S P A M l L h.sm h.inv (by omega) x ⟨by omega, by omega⟩ k c hk hc hr y hy).mono fun e w' ⟨he, l', b, U, T⟩ => ?_
  have := h.upt U (fork_inv h.inv hc hr T b)
  exact ⟨he, l', b, this.1, this.2, T⟩
theorem x_forkno (h : LX w0 w S P A M l L X) (x : Int) (hx : rng x) (hd : Dead L x) :
    Calls Try.prog 17 #[.pointer (some ⟨S, 0, none⟩), .int .i64 x] w fun e w' => e = .returned (.tuple #[.int .i64 0, .bool false]) ∧ LX w0 w' S P A M l L X ∧ Same X w w' :=
  (fork_out w S P A M l L h.sm x hx hd).mono fun e w' ⟨he, hw⟩ => ⟨he, h.belows (hw ▸ Below.refl _ _)⟩
theorem x_hold (h : LX w0 w S P A M l L X) (hL : L.length ≤ 900) (x : Int) (k : Nat) (c : Pc) (hk : x = k + 1) (hc : L[k]? = some c) (hr : 0 < c.r) (hr1 : c.r ≤ 1000) :
    Calls Try.prog 24 #[.pointer (some ⟨S, 0, none⟩), .int .i64 x] w fun e w' => e = .returned (.bool true) ∧ LX w0 w' S P A M l (L.set k ⟨c.b, c.r + 1, c.on⟩) X ∧ Same X w w' := by
  have hkl := (List.getElem?_eq_some_iff.1 hc).1
  exact (shold_in w S P A M l L h.sm x ⟨by omega, by omega⟩ k c hk hc hr (by omega) _ rfl).mono fun e w' ⟨he, U⟩ => ⟨he, h.upt U (turn_inv h.inv hc hr (c.r + 1) (by omega) c.b)⟩
theorem x_holdno (h : LX w0 w S P A M l L X) (x : Int) (hx : rng x) (hd : Dead L x) :
    Calls Try.prog 24 #[.pointer (some ⟨S, 0, none⟩), .int .i64 x] w fun e w' => e = .returned (.bool false) ∧ LX w0 w' S P A M l L X ∧ Same X w w' :=
  (shold_out w S P A M l L h.sm x hx hd).mono fun e w' ⟨he, hw⟩ => ⟨he, h.belows (hw ▸ Below.refl _ _)⟩
/-- what a Drop leaves: one hold less, with none the pages less held -/
def DropR (l l' : List Sh) (c : Pc) : Prop := (1 < c.r ∧ l' = l) ∨ (c.r = 1 ∧ TurnN (-1) l l' c.on 4)
theorem x_drop (h : LX w0 w S P A M l L X) (hL : L.length ≤ 900) (x : Int) (k : Nat) (c : Pc) (hk : x = k + 1) (hc : L[k]? = some c) (hr : 0 < c.r) (hr1 : c.r ≤ 1000) :
    Calls Try.prog 20 #[.pointer (some ⟨S, 0, none⟩), .int .i64 x] w fun e w' => e = .returned (.bool true) ∧ ∃ l', LX w0 w' S P A M l' (L.set k ⟨c.b, c.r - 1, c.on⟩) X ∧ Same X w w' ∧ DropR l l' c := by
  have hkl := (List.getElem?_eq_some_iff.1 hc).1
  by_cases h1 : 1 < c.r
  · refine (sdrop_more w S P A M l L h.sm x ⟨by omega, by omega⟩ k c hk hc h1 (by omega) _ rfl).mono fun e w' ⟨he, U⟩ => ?_
    have := h.upt U (turn_inv h.inv hc hr (c.r - 1) (by omega) c.b)
    exact ⟨he, l, this.1, this.2, .inl ⟨h1, rfl⟩⟩
  · have hr2 : c.r = 1 := by omega
    refine (sdrop_last w S P A M l L h.sm h.inv (by omega) x ⟨by omega, by omega⟩ k c hk hc hr2).mono fun e w' ⟨he, l', U, T⟩ => ?_
    have := h.upt U (drop_inv h.inv hc hr T ⟨c.b, 0, c.on⟩ rfl)
    exact ⟨he, l', by rw [show c.r - 1 = 0 by omega]; exact this.1, this.2, .inr ⟨hr2, T⟩⟩
theorem x_dropno (h : LX w0 w S P A M l L X) (x : Int) (hx : rng x) (hd : Dead L x) :
    Calls Try.prog 20 #[.pointer (some ⟨S, 0, none⟩), .int .i64 x] w fun e w' => e = .returned (.bool false) ∧ LX w0 w' S P A M l L X ∧ Same X w w' :=
  (sdrop_out w S P A M l L h.sm x hx hd).mono fun e w' ⟨he, hw⟩ => ⟨he, h.belows (hw ▸ Below.refl _ _)⟩
theorem x_set (h : LX w0 w S P A M l L X) (hL : L.length ≤ 900) (x i v : Int) (k : Nat) (c : Pc) (hk : x = k + 1) (hc : L[k]? = some c) (hr : 0 < c.r) (n : Nat) (hi : i = n) (hn : n < 32) (hs : 1 < (pg l (c.on (n / 8))).r → usedN l < l.length) :
    Calls Try.prog 18 #[.pointer (some ⟨S, 0, none⟩), .int .i64 x, .int .i64 i, .int .i32 v] w fun e w' => e = .returned (.bool true) ∧ ∃ l' f, LX w0 w' S P A M l' (L.set k ⟨c.b, c.r, f⟩) X ∧ Same X w w' ∧ SetR l l' L k c f n v := by
  have hkl := (List.getElem?_eq_some_iff.1 hc).1
  have h0 := h.inv.has hc hr (i := n / 8) (by omega)
  have fin : ∀ e w', (e = Ending.returned (.bool true) ∧ ∃ l' f, Upt w w' S P A M L l' (L.set k ⟨c.b, c.r, f⟩) ∧ SetR l l' L k c f n v) → e = Ending.returned (.bool true) ∧ ∃ l' f, LX w0 w' S P A M l' (L.set k ⟨c.b, c.r, f⟩) X ∧ Same X w w' ∧ SetR l l' L k c f n v := fun e w' ⟨he, l', f, U, R⟩ => by
    have := h.upt U R.inv
    exact ⟨he, l', f, this.1, this.2, R⟩
  by_cases h1 : (pg l (c.on (n / 8))).r = 1
  · exact (sset_alone w S P A M l L h.sm h.inv x i v ⟨by omega, by omega⟩ k c hk hc hr n hi hn h1).mono fin
  · exact (sset_copy w S P A M l L h.sm h.inv (by omega) x i v ⟨by omega, by omega⟩ k c hk hc hr n hi hn (by omega) (hs (by omega))).mono fin
theorem x_setno (h : LX w0 w S P A M l L X) (hL : L.length ≤ 900) (x i v : Int) (hx : rng x)
    (hno : Dead L x ∨ ∃ (k : Nat) (c : Pc), x = k + 1 ∧ L[k]? = some c ∧ 0 < c.r ∧ (ceB i = false ∨ ∃ n : Nat, i = n ∧ n < 32 ∧ 1 < (pg l (c.on (n / 8))).r ∧ usedN l = l.length)) :
    Calls Try.prog 18 #[.pointer (some ⟨S, 0, none⟩), .int .i64 x, .int .i64 i, .int .i32 v] w fun e w' => e = .returned (.bool false) ∧ LX w0 w' S P A M l L X ∧ Same X w w' := by
  rcases hno with hd | ⟨k, c, hk, hc, hr, hi | ⟨n, hi, hn, h1, hf⟩⟩
  · exact (sset_out w S P A M l L h.sm x i v hx hd).mono fun e w' ⟨he, hw⟩ => ⟨he, h.belows (hw ▸ Below.refl _ _)⟩
  · exact (sset_none w S P A M l L h.sm x i v hx k c hk hc hr hi).mono fun e w' ⟨he, hw⟩ => ⟨he, h.belows (hw ▸ Below.refl _ _)⟩
  · exact (sset_full w S P A M l L h.sm x i v hx k c hk hc hr n hi hn (by omega) hf).mono fun e w' ⟨he, hb⟩ => ⟨he, h.belows hb⟩
/-! ### reading -/
theorem x_get (h : LX w0 w S P A M l L X) (x i : Int) (hx : rng x) (k : Nat) (c : Pc) (hk : x = k + 1) (hc : L[k]? = some c) (hr : 0 < c.r) (n : Nat) (hi : i = n) (hn : n < 32) (v : Int) (hv : (gmL l c.on)[n]? = some v) :
    Calls Try.prog 23 #[.pointer (some ⟨S, 0, none⟩), .int .i64 x, .int .i64 i] w fun e w' => e = .returned (.tuple #[.int .i32 v, .bool true]) ∧ LX w0 w' S P A M l L X ∧ Same X w w' :=
  (sget_in w S P A M l L h.sm h.inv x i hx k c hk hc hr n hi hn v (gm_at rfl hn hv)).mono fun e w' ⟨he, hb⟩ => ⟨he, h.belows hb⟩
theorem x_getno (h : LX w0 w S P A M l L X) (x i : Int) (hx : rng x) (hno : Dead L x ∨ ∃ (k : Nat) (c : Pc), x = k + 1 ∧ L[k]? = some c ∧ 0 < c.r ∧ ceB i = false) :
    Calls Try.prog 23 #[.pointer (some ⟨S, 0, none⟩), .int .i64 x, .int .i64 i] w fun e w' => e = .returned (.tuple #[.int .i32 0, .bool false]) ∧ LX w0 w' S P A M l L X ∧ Same X w w' := by
  rcases hno with hd | ⟨k, c, hk, hc, hr, hi⟩
  · exact (sget_out w S P A M l L h.sm x i hx hd).mono fun e w' ⟨he, hw⟩ => ⟨he, h.belows (hw ▸ Below.refl _ _)⟩
  · exact (sget_none w S P A M l L h.sm x i hx k c hk hc hr hi).mono fun e w' ⟨he, hw⟩ => ⟨he, h.belows (hw ▸ Below.refl _ _)⟩
theorem x_state (h : LX w0 w S P A M l L X) (x : Int) (hx : rng x) (k : Nat) (c : Pc) (hk : x = k + 1) (hc : L[k]? = some c) (hr : 0 < c.r) (g : List Int) (hg : gmL l c.on = g) :
    Calls Try.prog 19 #[.pointer (some ⟨S, 0, none⟩), .int .i64 x] w fun e w' => e = .returned (.tuple #[.agg (gC g), .bool true]) ∧ LX w0 w' S P A M l L X ∧ Same X w w' :=
  (sstate_in w S P A M l L h.sm h.inv x hx k c hk hc hr).mono fun e w' ⟨he, hb⟩ => ⟨by rw [he, hg], h.belows hb⟩
theorem x_stateno (h : LX w0 w S P A M l L X) (x : Int) (hx : rng x) (hd : Dead L x) :
    Calls Try.prog 19 #[.pointer (some ⟨S, 0, none⟩), .int .i64 x] w fun e w' => e = .returned (.tuple #[.agg (gC (zG 32)), .bool false]) ∧ LX w0 w' S P A M l L X ∧ Same X w w' :=
  (sstate_out w S P A M l L h.sm x hx hd).mono fun e w' ⟨he, hb⟩ => ⟨he, h.belows hb⟩
theorem x_room (h : LX w0 w S P A M l L X) :
    Calls Try.prog 21 #[.pointer (some ⟨S, 0, none⟩)] w fun e w' => e = .returned (.pointer (some ⟨P, 0, none⟩)) ∧ w = w' := room_any w S P A M l L h.sm
theorem x_used (h : LX w0 w S P A M l L X) (x : Int) (hx : x = (usedN l : Nat)) :
    Calls Try.prog 22 #[.pointer (some ⟨P, 0, none⟩)] w fun e w' => e = .returned (.int .i64 x) ∧ LX w0 w' S P A M l L X ∧ Same X w w' :=
  (used_any w P A l h.sm.rm x hx).mono fun e w' ⟨he, hb⟩ => ⟨he, h.belows hb⟩
end
end Go.Proofs.Ytkmkjfbbpeocdaa
