/- SnapAll: the law's state: the book in memory beside the store; what each call leaves of it. -/
import Derived.Test.YtkmkjfbbpeocdaaYc
import Derived.Test.YtkmkjfbbpeocdaaYk
import Derived.Test.YtkmkjfbbpeocdaaWy
namespace Go.Proofs.Ytkmkjfbbpeocdaa
set_option maxRecDepth 100000
open Go.RowKit Go.Maps
set_option linter.unusedVariables false
set_option linter.unusedSimpArgs false

def bookO (v : Value) (n N : Int) : Obj := .cells #[v, .int .i64 n, .int .i64 N] 29 (0, 0)
def opA (kd P c V : Int) (L : Value) : Array Value := #[.int .i64 kd, .int .i64 P, .int .i64 c, .int .i32 V, L]
def opO (kd P c V : Int) (L : Value) : Obj := .cells (opA kd P c V L) 33 (0, 0)
/-- program and book tell the same -/
def QB (N : Int) (B : List Bp) (n : Nat) (l : List Sh) (L : List Pc) : Prop := (∃ f, BK l L B n f) ∧ (l.length : Int) = N
/-- the book's blocks -/
def BO (Bb : Nat) (B : List Bp) (n : Nat) (N : Int) (v : Value) (O : List (Nat × Obj)) : Prop :=
  (B = [] ∧ v = .slice none 0 0 ∧ O = [(Bb, bookO v n N)]) ∨ ∃ b o, RowO 69 38 v B.length (picsL B) b o ∧ O = [(b, o), (Bb, bookO v n N)]
/-- its bounds behind m operations -/
structure BS (B : List Bp) (n m : Nat) : Prop where
  len : B.length ≤ m
  nx : n ≤ 4 * m
  each : ∀ (k : Nat) (p : Bp), B[k]? = some p → p.g.length = 32 ∧ p.r ≤ m
theorem BS.more {B : List Bp} {n m : Nat} (h : BS B n m) : BS B n (m + 1) := ⟨by have := h.len; omega, by have := h.nx; omega, fun k p hp => ⟨(h.each k p hp).1, by have := (h.each k p hp).2; omega⟩⟩
theorem BS.snoc {B : List Bp} {n m n' : Nat} (h : BS B n m) (p : Bp) (hg : p.g.length = 32) (hr : p.r = 1) (hn : n' ≤ n + 4) : BS (B ++ [p]) n' (m + 1) :=
  ⟨by have := h.len; simp; omega, by have := h.nx; omega, fun k q hq => by
    rcases bget_snoc hq with h1 | ⟨_, rfl⟩
    · exact h.more.each k q h1
    · exact ⟨hg, by omega⟩⟩
theorem BS.set {B : List Bp} {n m n' k : Nat} {p : Bp} (h : BS B n m) (hp : B[k]? = some p) (p' : Bp) (hg : p'.g.length = 32) (hr : p'.r ≤ m + 1) (hn : n' ≤ n + 4) : BS (B.set k p') n' (m + 1) :=
  ⟨by have := h.len; simp; omega, by have := h.nx; omega, fun j q hq => by
    rcases bget_set hp hq with ⟨_, rfl⟩ | ⟨_, h1⟩
    · exact ⟨hg, by omega⟩
    · exact h.more.each j q h1⟩
/-- the state between two operations -/
def DoR (w0 w : World) (S P A M Bb : Nat) (N : Int) (m : Nat) : Prop := ∃ B n v O, BO Bb B n N v O ∧ BS B n m ∧ Frm w0 w S P A M (QB N B n) O
section
variable {w0 w w' : World} {S P A M : Nat} {Q : List Sh → List Pc → Prop} {O O' : List (Nat × Obj)} {Bb n : Nat} {B : List Bp} {N : Int} {v : Value}
theorem Frm.perm (h : Frm w0 w S P A M Q O) (hp : O.Perm O') : Frm w0 w S P A M Q O' := by
  obtain ⟨l, L, h1, h2, h3, h4⟩ := h
  exact ⟨l, L, h1.less (fun y hy => (hp.map _).mem_iff.2 hy), h2, (hp.map _).nodup_iff.1 h3, fun o ho => h4 o (hp.mem_iff.2 ho)⟩
theorem BO.bm (h : BO Bb B n N v O) (hs : ∀ x ∈ O, x ∈ O') (F : Frm w0 w S P A M Q O') : BM w Bb v n N B := by
  rcases h with ⟨rfl, rfl, rfl⟩ | ⟨b, o, R, rfl⟩
  · have ho := F.own (hs _ (m0 _ _))
    exact ⟨cell_of_row _ _ _ _ _ _ ho, cell_of_row _ _ _ _ _ _ ho, cell_of_row _ _ _ _ _ _ ho, none, 0, rfl, fun k p hp => by simp at hp⟩
  · have ho := F.own (hs _ (m1 _ _ _))
    have hb := F.own (hs _ (m0 _ _))
    refine ⟨cell_of_row _ _ _ _ _ _ ho, cell_of_row _ _ _ _ _ _ ho, cell_of_row _ _ _ _ _ _ ho, ?_⟩
    have hR := R
    obtain ⟨h1, cap, cur, hv, _⟩ := R
    exact ⟨_, cap, hv, fun k p hp => ⟨b, rfl, (Array.getElem?_eq_some_iff.1 hb).1, fun j hj => hR.cell hb _ _ (picsL_at B k p hp j hj)⟩⟩
/-- a book with a picture has a row -/
theorem BO.row (h : BO Bb B n N v O) {k : Nat} {p : Bp} (hp : B[k]? = some p) : ∃ b o cap, v = .slice (some ⟨b, 0, none⟩) B.length cap ∧ RowO 69 38 v B.length (picsL B) b o ∧ O = [(b, o), (Bb, bookO v n N)] := by
  rcases h with ⟨rfl, _, _⟩ | ⟨b, o, R, rfl⟩
  · simp at hp
  · have hR := R
    obtain ⟨h1, cap, cur, hv, _⟩ := R
    exact ⟨b, o, cap, hv, hR, rfl⟩
theorem RowO.put {t : TypeId} {size n b : Nat} {xs : List Value} {o : Obj} (R : RowO t size v n xs b o) (hb : w.heap[b]? = some o) (j : Nat) (u : Value) : ∃ o', RowO t size v n (xs.set j u) b o' ∧ (w.setCell ⟨b, j, none⟩ u).heap[b]? = some o' := by
  obtain ⟨h1, cap, cur, hv, rfl, h2, h3, h4, h5⟩ := R
  refine ⟨.cells (cur.setIfInBounds j u) t (0, 0), ⟨by rw [List.length_set]; exact h1, cap, _, hv, rfl, h2, h3, by rw [Array.size_setIfInBounds]; exact h4, ?_⟩, heap_setCell_same _ _ _ _ _ _ hb⟩
  rw [Array.toList_setIfInBounds, List.take_set, h5]
theorem RowO.fz {t : TypeId} {size n b : Nat} {xs : List Value} {o : Obj} (R : RowO t size v n xs b o) (hb : w.heap[b]? = some o) (j : Nat) : w.frozen? ⟨b, j, none⟩ = false := by
  obtain ⟨h1, cap, cur, hv, rfl, h2, h3, h4, h5⟩ := R
  simp [World.frozen?, hb]
theorem bookO.fz {n N : Int} (hb : w.heap[Bb]? = some (bookO v n N)) (j : Nat) : w.frozen? ⟨Bb, j, none⟩ = false := by
  unfold bookO at hb
  simp [World.frozen?, hb]
theorem Frm.rowset {t : TypeId} {size n b : Nat} {xs : List Value} {o : Obj} (h : Frm w0 w S P A M Q ((b, o) :: O)) (R : RowO t size v n xs b o) (j : Nat) (u : Value) : ∃ o', RowO t size v n (xs.set j u) b o' ∧ Frm w0 (w.setCell ⟨b, j, none⟩ u) S P A M Q ((b, o') :: O) := by
  obtain ⟨o', R', ho⟩ := R.put (h.own (m0 _ _)) j u
  exact ⟨o', R', h.put (grown_st w ⟨b, j, none⟩ u) o' ho⟩
theorem Frm.swap {x y : Nat × Obj} (h : Frm w0 w S P A M Q (x :: y :: O)) : Frm w0 w S P A M Q (y :: x :: O) := h.perm (List.Perm.swap _ _ _)
theorem picsL_set (B : List Bp) (k : Nat) (p p' : Bp) (hp : B[k]? = some p) (j : Nat) (hj : j < 38) (hs : ∀ i, i < 38 → i ≠ j → picC k p' i = picC k p i) : (picsL B).set (k * 38 + j) (picC k p' j) = picsL (B.set k p') := by
  have hk := (List.getElem?_eq_some_iff.1 hp).1
  apply List.ext_getElem?
  intro i
  rw [List.getElem?_set]
  by_cases hi : i < B.length * 38
  · have e1 : (picsL (B.set k p'))[i]? = some (picF (B.set k p') i) := by unfold picsL; rw [List.getElem?_map, List.getElem?_range (by simpa using hi)]; rfl
    have e2 : (picsL B)[i]? = some (picF B i) := by unfold picsL; rw [List.getElem?_map, List.getElem?_range hi]; rfl
    rw [e1, e2]
    by_cases h1 : k * 38 + j = i
    · rw [if_pos h1, if_pos (by rw [picsL_len]; omega)]
      unfold picF
      rw [show i / 38 = k by omega, show i % 38 = j by omega, List.getElem?_set_self hk]; rfl
    · rw [if_neg h1]
      unfold picF
      by_cases h2 : i / 38 = k
      · rw [h2, List.getElem?_set_self hk, hp]
        show some (picC k p _) = some (picC k p' _)
        rw [hs (i % 38) (by omega) (by omega)]
      · rw [List.getElem?_set_ne (by omega)]
  · rw [if_neg (by omega), List.getElem?_eq_none (by rw [picsL_len]; omega), List.getElem?_eq_none (by rw [picsL_len, List.length_set]; omega)]
theorem picsL_r (B : List Bp) (k : Nat) (p : Bp) (hp : B[k]? = some p) (r : Int) : (picsL B).set (k * 38 + 1) (.int .i64 r) = picsL (B.set k ⟨r, p.g, p.pn⟩) :=
  picsL_set B k p ⟨r, p.g, p.pn⟩ hp 1 (by omega) (fun i hi hn => by unfold picC; rw [if_neg hn, if_neg hn])
theorem picsL_g (B : List Bp) (k : Nat) (p : Bp) (hp : B[k]? = some p) (hg : p.g.length = 32) (c : Nat) (hc : c < 32) (u : Int) : (picsL B).set (k * 38 + (2 + c)) (.int .i32 u) = picsL (B.set k ⟨p.r, p.g.set c u, p.pn⟩) := by
  have h1 : picC k ⟨p.r, p.g.set c u, p.pn⟩ (2 + c) = .int .i32 u := by
    unfold picC
    rw [if_neg (by omega), if_neg (by omega), if_pos (by omega), show 2 + c - 2 = c by omega]
    simp [List.getD, hg, hc]
  rw [← h1]
  refine picsL_set B k p ⟨p.r, p.g.set c u, p.pn⟩ hp (2 + c) (by omega) (fun i hi hn => ?_)
  unfold picC
  by_cases h0 : i = 0
  · rw [if_pos h0, if_pos h0]
  by_cases h2 : i = 1
  · rw [if_neg h0, if_neg h0, if_pos h2, if_pos h2]
  by_cases h3 : i < 34
  · rw [if_neg h0, if_neg h0, if_neg h2, if_neg h2, if_pos h3, if_pos h3]
    simp only [List.getD, List.getElem?_set_ne (show c ≠ i - 2 by omega)]
  · rw [if_neg h0, if_neg h0, if_neg h2, if_neg h2, if_neg h3, if_neg h3]
theorem picsL_pn (B : List Bp) (k : Nat) (p : Bp) (hp : B[k]? = some p) (a : Nat) (ha : a < 4) (q : Int) : (picsL B).set (k * 38 + (34 + a)) (.int .i64 q) = picsL (B.set k ⟨p.r, p.g, shPut p.pn a q⟩) := by
  have h1 : picC k ⟨p.r, p.g, shPut p.pn a q⟩ (34 + a) = .int .i64 q := by
    unfold picC
    rw [if_neg (by omega), if_neg (by omega), if_neg (by omega), show 34 + a - 34 = a by omega]
    show Value.int .i64 (if a = a then q else p.pn a) = _
    rw [if_pos rfl]
  rw [← h1]
  refine picsL_set B k p ⟨p.r, p.g, shPut p.pn a q⟩ hp (34 + a) (by omega) (fun i hi hn => ?_)
  unfold picC
  by_cases h0 : i = 0
  · rw [if_pos h0, if_pos h0]
  by_cases h2 : i = 1
  · rw [if_neg h0, if_neg h0, if_pos h2, if_pos h2]
  by_cases h3 : i < 34
  · rw [if_neg h0, if_neg h0, if_neg h2, if_neg h2, if_pos h3, if_pos h3]
  · rw [if_neg h0, if_neg h0, if_neg h2, if_neg h2, if_neg h3, if_neg h3]
    simp only [shPut]
    rw [if_neg (by omega)]
/-! ### the calls, by the book -/
/-- no live picture of the book has this number -/
def DeadB (B : List Bp) (X : Int) : Prop := rng X ∧ ∀ (k : Nat) (p : Bp), X = k + 1 → B[k]? = some p → ¬ 0 < p.r
theorem DeadB.dead {X : Int} (h : DeadB B X) {l : List Sh} {L : List Pc} (q : QB N B n l L) : Dead L X := fun k c hk hc => by
  obtain ⟨⟨f, K⟩, _⟩ := q
  have hl : k < B.length := by have := (List.getElem?_eq_some_iff.1 hc).1; rw [← K.len]; exact this
  have hp : B[k]? = some B[k] := List.getElem?_eq_getElem hl
  rw [(K.each k c _ hc hp).1]
  exact h.2 k _ hk hp
theorem BK.pic {l : List Sh} {L : List Pc} {f : Int → Int} (K : BK l L B n f) {k : Nat} {p : Bp} (hp : B[k]? = some p) (hr : 0 < p.r) : ∃ c, L[k]? = some c ∧ 0 < c.r ∧ c.r = p.r := by
  have hl : k < L.length := by rw [K.len]; exact (List.getElem?_eq_some_iff.1 hp).1
  have hc : L[k]? = some L[k] := List.getElem?_eq_getElem hl
  have := (K.each k _ p hc hp).1
  exact ⟨_, hc, by omega, this⟩
theorem b_make (h : Frm w0 w S P A M (QB N B n) O) (hB : B.length ≤ 60) (g : List Int) (hg : g.length = 32) (x : Int) (hx : x = B.length + 1) (hfit : (bused B n : Int) + 4 ≤ N) (pn : Nat → Int) (hpn : ∀ i, i < 4 → pn i = (n : Int) + 1 + i) :
    Calls Try.prog 16 #[.pointer (some ⟨S, 0, none⟩), .agg (gC g)] w fun e w' => e = .returned (.tuple #[.int .i64 x, .bool true]) ∧ Frm w0 w' S P A M (QB N (B ++ [⟨1, g, pn⟩]) (n + 4)) O :=
  f_make h g hg x (fun l L I ⟨⟨f, K⟩, hN⟩ => ⟨by have := K.len; omega, by have := K.used I; omega, by rw [hx, K.len], fun l' f' b Md => ⟨K.make I hg Md b pn hpn, by rw [Md.len]; exact hN⟩⟩)
theorem b_makeno (h : Frm w0 w S P A M (QB N B n) O) (g : List Int) (hfit : ¬ (bused B n : Int) + 4 ≤ N) :
    Calls Try.prog 16 #[.pointer (some ⟨S, 0, none⟩), .agg (gC g)] w fun e w' => e = .returned (.tuple #[.int .i64 0, .bool false]) ∧ Frm w0 w' S P A M (QB N B n) O := by
  obtain ⟨l, L, h1, ⟨⟨f, K⟩, hN⟩, h3, h4⟩ := h
  exact (x_makeno h1 (by have := K.used h1.inv; omega) g).mono fun e w' ⟨he, h5, h6⟩ => ⟨he, Frm.fin h3 h4 h5 h6 ⟨⟨f, K⟩, hN⟩⟩
theorem b_fork (h : Frm w0 w S P A M (QB N B n) O) (hB : B.length ≤ 60) {k : Nat} {p : Bp} (hp : B[k]? = some p) (hr : 0 < p.r) (X : Int) (hX : X = k + 1) (y : Int) (hy : y = B.length + 1) :
    Calls Try.prog 17 #[.pointer (some ⟨S, 0, none⟩), .int .i64 X] w fun e w' => e = .returned (.tuple #[.int .i64 y, .bool true]) ∧ Frm w0 w' S P A M (QB N (B ++ [⟨1, p.g, p.pn⟩]) n) O :=
  f_fork h X y (fun l L I ⟨⟨f, K⟩, hN⟩ => by
    obtain ⟨c, hc, hcr, _⟩ := K.pic hp hr
    exact ⟨by have := K.len; omega, by rw [hy, K.len], k, c, hX, hc, hcr, fun l' b T => ⟨⟨f, K.fork hc hp hcr T b⟩, by rw [T.len]; exact hN⟩⟩)
theorem b_forkno (h : Frm w0 w S P A M (QB N B n) O) (X : Int) (hd : DeadB B X) :
    Calls Try.prog 17 #[.pointer (some ⟨S, 0, none⟩), .int .i64 X] w fun e w' => e = .returned (.tuple #[.int .i64 0, .bool false]) ∧ Frm w0 w' S P A M (QB N B n) O := by
  obtain ⟨l, L, h1, h2, h3, h4⟩ := h
  exact (x_forkno h1 X hd.1 (hd.dead h2)).mono fun e w' ⟨he, h5, h6⟩ => ⟨he, Frm.fin h3 h4 h5 h6 h2⟩
theorem b_hold (h : Frm w0 w S P A M (QB N B n) O) (hB : B.length ≤ 60) {k : Nat} {p : Bp} (hp : B[k]? = some p) (hr : 0 < p.r) (hr1 : p.r ≤ 60) (X : Int) (hX : X = k + 1) :
    Calls Try.prog 24 #[.pointer (some ⟨S, 0, none⟩), .int .i64 X] w fun e w' => e = .returned (.bool true) ∧ Frm w0 w' S P A M (QB N (B.set k ⟨p.r + 1, p.g, p.pn⟩) n) O := by
  obtain ⟨l, L, h1, ⟨⟨f, K⟩, hN⟩, h3, h4⟩ := h
  obtain ⟨c, hc, hcr, he⟩ := K.pic hp hr
  exact (x_hold h1 (by have := K.len; omega) X k c hX hc hcr (by omega)).mono fun e w' ⟨he, h5, h6⟩ => ⟨he, Frm.fin h3 h4 h5 h6 ⟨⟨f, K.turn hc hp hcr (fun _ => rfl) (c.r + 1) (p.r + 1) (by omega)⟩, hN⟩⟩
theorem b_holdno (h : Frm w0 w S P A M (QB N B n) O) (X : Int) (hd : DeadB B X) :
    Calls Try.prog 24 #[.pointer (some ⟨S, 0, none⟩), .int .i64 X] w fun e w' => e = .returned (.bool false) ∧ Frm w0 w' S P A M (QB N B n) O := by
  obtain ⟨l, L, h1, h2, h3, h4⟩ := h
  exact (x_holdno h1 X hd.1 (hd.dead h2)).mono fun e w' ⟨he, h5, h6⟩ => ⟨he, Frm.fin h3 h4 h5 h6 h2⟩
theorem b_drop (h : Frm w0 w S P A M (QB N B n) O) (hB : B.length ≤ 60) {k : Nat} {p : Bp} (hp : B[k]? = some p) (hr : 0 < p.r) (hr1 : p.r ≤ 60) (X : Int) (hX : X = k + 1) :
    Calls Try.prog 20 #[.pointer (some ⟨S, 0, none⟩), .int .i64 X] w fun e w' => e = .returned (.bool true) ∧ Frm w0 w' S P A M (QB N (B.set k ⟨p.r - 1, p.g, p.pn⟩) n) O :=
  f_drop h X (fun l L I ⟨⟨f, K⟩, hN⟩ => by
    obtain ⟨c, hc, hcr, he⟩ := K.pic hp hr
    refine ⟨by have := K.len; omega, k, c, hX, hc, hcr, by omega, fun l' hd => ?_⟩
    have hl : l'.length = l.length ∧ ∀ f2, gmL l' f2 = gmL l f2 := by
      rcases hd with ⟨_, rfl⟩ | ⟨_, T⟩
      · exact ⟨rfl, fun _ => rfl⟩
      · exact ⟨T.len, T.gm⟩
    exact ⟨⟨f, K.turn hc hp hcr hl.2 (c.r - 1) (p.r - 1) (by omega)⟩, by rw [hl.1]; exact hN⟩)
theorem b_dropno (h : Frm w0 w S P A M (QB N B n) O) (X : Int) (hd : DeadB B X) :
    Calls Try.prog 20 #[.pointer (some ⟨S, 0, none⟩), .int .i64 X] w fun e w' => e = .returned (.bool false) ∧ Frm w0 w' S P A M (QB N B n) O :=
  f_dropno h X hd.1 (fun l L q => hd.dead q)
theorem b_setno (h : Frm w0 w S P A M (QB N B n) O) (hB : B.length ≤ 60) (X i u : Int) (hX : rng X)
    (hno : DeadB B X ∨ ∃ (k : Nat) (p : Bp), X = k + 1 ∧ B[k]? = some p ∧ 0 < p.r ∧ (ceB i = false ∨ ∃ c : Nat, i = c ∧ c < 32 ∧ 1 < bcnt B (p.pn (c / 8)) ∧ ¬ (bused B n : Int) < N)) :
    Calls Try.prog 18 #[.pointer (some ⟨S, 0, none⟩), .int .i64 X, .int .i64 i, .int .i32 u] w fun e w' => e = .returned (.bool false) ∧ Frm w0 w' S P A M (QB N B n) O := by
  obtain ⟨l, L, h1, h2, h3, h4⟩ := h
  refine (x_setno h1 (by obtain ⟨⟨f, K⟩, _⟩ := h2; have := K.len; omega) X i u hX ?_).mono fun e w' ⟨he, h5, h6⟩ => ⟨he, Frm.fin h3 h4 h5 h6 h2⟩
  rcases hno with hd | ⟨k, p, hk, hp, hr, hi⟩
  · exact .inl (hd.dead h2)
  · obtain ⟨⟨f, K⟩, hN⟩ := h2
    obtain ⟨c, hc, hcr, he⟩ := K.pic hp hr
    refine .inr ⟨k, c, hk, hc, hcr, ?_⟩
    rcases hi with hi | ⟨m, hi, hm, hcn, hful⟩
    · exact .inl hi
    · exact .inr ⟨m, hi, hm, by rw [K.refs h1.inv hc hp hcr (by omega)]; exact hcn, by have := K.used h1.inv; have := usedN_le l; omega⟩
theorem b_set (h : Frm w0 w S P A M (QB N B n) O) (hB : B.length ≤ 60) {k : Nat} {p : Bp} (hp : B[k]? = some p) (hr : 0 < p.r) (X i u : Int) (hX : X = k + 1) (c : Nat) (hi : i = c) (hc32 : c < 32) (hs : ¬ 1 < bcnt B (p.pn (c / 8))) :
    Calls Try.prog 18 #[.pointer (some ⟨S, 0, none⟩), .int .i64 X, .int .i64 i, .int .i32 u] w fun e w' => e = .returned (.bool true) ∧ Frm w0 w' S P A M (QB N (B.set k ⟨p.r, p.g.set c u, p.pn⟩) n) O :=
  f_set h X i u c hi hc32 (fun l L I ⟨⟨f, K⟩, hN⟩ => by
    obtain ⟨d, hd, hdr, he⟩ := K.pic hp hr
    have hrf := K.refs I hd hp hdr (i := c / 8) (by omega)
    exact ⟨by have := K.len; omega, k, d, hX, hd, hdr, fun h => absurd h (by rw [hrf]; exact hs), fun l' f' R => ⟨⟨f, K.setA hd hp hdr R (by rw [hrf]; exact hs)⟩, by rw [R.len]; exact hN⟩⟩)
theorem b_setS (h : Frm w0 w S P A M (QB N B n) O) (hB : B.length ≤ 60) {k : Nat} {p : Bp} (hp : B[k]? = some p) (hr : 0 < p.r) (X i u : Int) (hX : X = k + 1) (c : Nat) (hi : i = c) (hc32 : c < 32) (hs : 1 < bcnt B (p.pn (c / 8))) (hful : (bused B n : Int) < N) :
    Calls Try.prog 18 #[.pointer (some ⟨S, 0, none⟩), .int .i64 X, .int .i64 i, .int .i32 u] w fun e w' => e = .returned (.bool true) ∧ Frm w0 w' S P A M (QB N (B.set k ⟨p.r, p.g.set c u, shPut p.pn (c / 8) ((n : Int) + 1)⟩) (n + 1)) O :=
  f_set h X i u c hi hc32 (fun l L I ⟨⟨f, K⟩, hN⟩ => by
    obtain ⟨d, hd, hdr, he⟩ := K.pic hp hr
    have hrf := K.refs I hd hp hdr (i := c / 8) (by omega)
    exact ⟨by have := K.len; omega, k, d, hX, hd, hdr, fun _ => by have := K.used I; omega, fun l' f' R => ⟨K.setB I hd hp hdr R (by rw [hrf]; exact hs) _ rfl, by rw [R.len]; exact hN⟩⟩)
end
/-- where operation P stands in the book: k, x and whether it is in -/
def PreB (B : List Bp) (kP Z X : Int) (inr bb : Bool) : Prop :=
  (inr = false ∧ ¬ (0 ≤ kP ∧ kP < B.length) ∧ Z = -1 ∧ X = 0 ∧ bb = false) ∨ ∃ (k : Nat) (p : Bp), inr = true ∧ B[k]? = some p ∧ kP = k ∧ Z = k ∧ X = k + 1 ∧ bb = decide (0 < p.r)
theorem preB (B : List Bp) (kP : Int) : ∃ Z X inr bb, PreB B kP Z X inr bb := by
  by_cases h : 0 ≤ kP ∧ kP < B.length
  · obtain ⟨k, hk⟩ : ∃ k : Nat, kP = k := ⟨kP.toNat, by omega⟩
    have hl : k < B.length := by omega
    exact ⟨_, _, _, _, .inr ⟨k, B[k], rfl, List.getElem?_eq_getElem hl, hk, rfl, rfl, rfl⟩⟩
  · exact ⟨_, _, _, _, .inl ⟨rfl, h, rfl, rfl, rfl⟩⟩
theorem PreB.off {B : List Bp} {kP Z X : Int} {inr : Bool} (h : PreB B kP Z X inr false) (hB : B.length ≤ 60) : DeadB B X := by
  rcases h with ⟨_, _, _, rfl, _⟩ | ⟨k, p, _, hp, _, _, rfl, hb⟩
  · exact ⟨⟨by omega, by omega⟩, fun k p hk _ => by omega⟩
  · have hl := (List.getElem?_eq_some_iff.1 hp).1
    refine ⟨⟨by omega, by omega⟩, fun j q hj hq => ?_⟩
    obtain rfl : k = j := by omega
    rw [hp] at hq
    obtain rfl := Option.some.inj hq
    have := of_decide_eq_false hb.symm
    exact this
theorem PreB.on {B : List Bp} {kP Z X : Int} {inr : Bool} (h : PreB B kP Z X inr true) : ∃ (k : Nat) (p : Bp), B[k]? = some p ∧ 0 < p.r ∧ Z = k ∧ X = k + 1 := by
  rcases h with ⟨_, _, _, _, hb⟩ | ⟨k, p, _, hp, _, hz, hx, hb⟩
  · cases hb
  · exact ⟨k, p, hp, of_decide_eq_true hb.symm, hz, hx⟩
end Go.Proofs.Ytkmkjfbbpeocdaa
