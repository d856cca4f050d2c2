/- The store in a law: what each call leaves; no store (SnapNone's calls). -/
import Derived.Test.YtkmkjfbbpeocdaaWn
namespace Go.Proofs.Ytkmkjfbbpeocdaa
set_option maxRecDepth 100000
open Go.RowKit Go.Maps
set_option linter.unusedVariables false
set_option linter.unusedSimpArgs false

/-- the store at w in a call that began at w0 -/
structure LS (w0 w : World) (S P A M : Nat) (l : List Sh) (L : List Pc) : Prop where
  sm : SM w S P A M l L
  hi : ∀ b, SB S P A M L b → w0.heap.size ≤ b
  be : Below w0.heap.size w0 w
  inv : INV l L
theorem LS.upt {w0 w w' : World} {S P A M : Nat} {l l' : List Sh} {L L' : List Pc} (h : LS w0 w S P A M l L) (U : Upt w w' S P A M L l' L') (I : INV l' L') : LS w0 w' S P A M l' L' :=
  ⟨U.sm, fun b hb => (U.nw b hb).elim (h.hi b) (fun h2 => Nat.le_trans h.be.size h2), U.chg.below h.be h.hi h.be.size, I⟩
theorem LS.belows {w0 w w' : World} {S P A M : Nat} {l : List Sh} {L : List Pc} (h : LS w0 w S P A M l L) (hb : Below w.heap.size w w') : LS w0 w' S P A M l L :=
  ⟨h.sm.belows hb, h.hi, h.be.trans (hb.mono h.be.size), h.inv⟩
theorem INV.empty (n : Nat) : INV (List.replicate n zS) [] := by
  refine ⟨fun p => ?_, fun k c h => by simp at h, fun k c h => by simp at h⟩
  have : ∀ k, shAt (List.replicate n zS) k = zS := fun k => by
    unfold shAt
    by_cases e : k < n
    · rw [List.getElem?_replicate, if_pos e]; rfl
    · rw [List.getElem?_replicate, if_neg e]; rfl
  unfold pg
  split
  · rw [this]; rfl
  · rfl
theorem used_empty (n : Nat) : usedN (List.replicate n zS) = 0 := by
  unfold usedN
  rw [List.filter_replicate]
  rfl
/-- a store with no pictures at all -/
def Emp (w0 w : World) (S P A M N : Nat) : Prop := ∃ l, LS w0 w S P A M l [] ∧ usedN l = 0 ∧ l.length = N
theorem t_new (n : Nat) (hn : n ≤ 50) (x : Int) (hx : x = n) (w : World) (N : Nat) (hN : N = 4 * n) :
    Calls Try.prog 12 #[.int .i64 x] w fun e w' => ∃ S P A M, e = .returned (.pointer (some ⟨S, 0, none⟩)) ∧ Emp w w' S P A M N := by
  subst hN
  refine (snew_any n hn x hx w).mono fun e w' ⟨S, P, A, M, h1, h2, h3, h4⟩ => ?_
  exact ⟨S, P, A, M, h1, _, ⟨h3, h2, h4, INV.empty _⟩, used_empty _, by simp⟩
theorem Emp.belows {w0 w w' : World} {S P A M N : Nat} (h : Emp w0 w S P A M N) (hb : Below w.heap.size w w') : Emp w0 w' S P A M N := by
  obtain ⟨l, h1, h2⟩ := h
  exact ⟨l, h1.belows hb, h2⟩
theorem Emp.be {w0 w : World} {S P A M N : Nat} (h : Emp w0 w S P A M N) : Below w0.heap.size w0 w := by
  obtain ⟨l, h1, h2⟩ := h
  exact h1.be
/-- one picture, held r times, of the game g -/
def One (w0 w : World) (S P A M N : Nat) (r : Int) (g : List Int) : Prop := ∃ l b f, LS w0 w S P A M l [⟨b, r, f⟩] ∧ gmL l f = g ∧ l.length = N
theorem One.belows {w0 w w' : World} {S P A M N : Nat} {r : Int} {g : List Int} (h : One w0 w S P A M N r g) (hb : Below w.heap.size w w') : One w0 w' S P A M N r g := by
  obtain ⟨l, b, f, h1, h2⟩ := h
  exact ⟨l, b, f, h1.belows hb, h2⟩
theorem One.be {w0 w : World} {S P A M N : Nat} {r : Int} {g : List Int} (h : One w0 w S P A M N r g) : Below w0.heap.size w0 w := by
  obtain ⟨l, b, f, h1, h2⟩ := h
  exact h1.be
theorem one_alone {b : Nat} {r : Int} {f : Nat → Int} {l : List Sh} (I : INV l [⟨b, r, f⟩]) (hr : 0 < r) {i : Nat} (hi : i < 4) : (pg l (f i)).r = 1 := by
  rw [I.cnt]
  show pcN ⟨b, r, f⟩ (f i) + 0 = 1
  rw [show pcN ⟨b, r, f⟩ (f i) = hasN f (f i) 4 from if_pos hr, hasN_one f 4 (I.dist 0 ⟨b, r, f⟩ rfl hr) i hi]; rfl
theorem one_used {b : Nat} {r : Int} {f : Nat → Int} {l : List Sh} (I : INV l [⟨b, r, f⟩]) (hr : 0 < r) : usedN l = 4 :=
  I.used4 0 ⟨b, r, f⟩ rfl hr (fun j d hj _ => by
    have := (List.getElem?_eq_some_iff.1 hj).1
    simp at this; exact this)
theorem t_make1 {w0 w : World} {S P A M N : Nat} (h : Emp w0 w S P A M N) (hN : 4 ≤ N) (g : List Int) (hg : g.length = 32) :
    Calls Try.prog 16 #[.pointer (some ⟨S, 0, none⟩), .agg (gC g)] w fun e w' => e = .returned (.tuple #[.int .i64 1, .bool true]) ∧ One w0 w' S P A M N 1 g := by
  obtain ⟨l, h1, h2, h3⟩ := h
  refine (make_hit w S P A M l [] h1.sm h1.inv (by omega) (by simp) g hg 1 rfl).mono fun e w' ⟨he, l', f, b, U, Md⟩ => ⟨he, l', b, f, h1.upt U (Md.inv h1.inv b), Md.gm hg, Md.len.trans h3⟩
theorem t_set1 {w0 w : World} {S P A M N : Nat} {r : Int} {g : List Int} (h : One w0 w S P A M N r g) (hr : 0 < r) (i : Int) (n : Nat) (hi : i = n) (hn : n < 32) (v : Int) :
    Calls Try.prog 18 #[.pointer (some ⟨S, 0, none⟩), .int .i64 1, .int .i64 i, .int .i32 v] w fun e w' => e = .returned (.bool true) ∧ One w0 w' S P A M N r (g.set n v) := by
  obtain ⟨l, b, f, h1, h2, h3⟩ := h
  refine (sset_alone w S P A M l _ h1.sm h1.inv 1 i v ⟨by omega, by omega⟩ 0 ⟨b, r, f⟩ rfl rfl hr n hi hn (one_alone h1.inv hr (by omega))).mono fun e w' ⟨he, l', f', U, R⟩ => ⟨he, l', b, f', h1.upt U R.inv, R.gm.trans (by rw [h2]), R.len.trans h3⟩
theorem t_setno1 {w0 w : World} {S P A M N : Nat} {r : Int} {g : List Int} (h : One w0 w S P A M N r g) (hr : 0 < r) (i : Int) (hi : ceB i = false) (v : Int) :
    Calls Try.prog 18 #[.pointer (some ⟨S, 0, none⟩), .int .i64 1, .int .i64 i, .int .i32 v] w fun e w' => e = .returned (.bool false) ∧ One w0 w' S P A M N r g := by
  have h0 := h
  obtain ⟨l, b, f, h1, h2, h3⟩ := h
  refine (sset_none w S P A M l _ h1.sm 1 i v ⟨by omega, by omega⟩ 0 ⟨b, r, f⟩ rfl rfl hr hi).mono fun e w' ⟨he, hw⟩ => ⟨he, hw ▸ h0⟩
theorem gm_at {l : List Sh} {f : Nat → Int} {g : List Int} (h : gmL l f = g) {n : Nat} (hn : n < 32) {v : Int} (hv : g[n]? = some v) : v = (pg l (f (n / 8))).on (n % 8) := by
  have := gmL_at l f n hn
  rw [h, hv] at this
  exact Option.some.inj this
theorem t_get1 {w0 w : World} {S P A M N : Nat} {r : Int} {g : List Int} (h : One w0 w S P A M N r g) (hr : 0 < r) (i : Int) (n : Nat) (hi : i = n) (hn : n < 32) (v : Int) (hv : g[n]? = some v) :
    Calls Try.prog 23 #[.pointer (some ⟨S, 0, none⟩), .int .i64 1, .int .i64 i] w fun e w' => e = .returned (.tuple #[.int .i32 v, .bool true]) ∧ One w0 w' S P A M N r g := by
  have h0 := h
  obtain ⟨l, b, f, h1, h2, h3⟩ := h
  refine (sget_in w S P A M l _ h1.sm h1.inv 1 i ⟨by omega, by omega⟩ 0 ⟨b, r, f⟩ rfl rfl hr n hi hn v (gm_at h2 hn hv)).mono fun e w' ⟨he, hb⟩ => ⟨he, h0.belows hb⟩
theorem t_getno1 {w0 w : World} {S P A M N : Nat} {r : Int} {g : List Int} (h : One w0 w S P A M N r g) (hr : 0 < r) (i : Int) (hi : ceB i = false) :
    Calls Try.prog 23 #[.pointer (some ⟨S, 0, none⟩), .int .i64 1, .int .i64 i] w fun e w' => e = .returned (.tuple #[.int .i32 0, .bool false]) ∧ One w0 w' S P A M N r g := by
  have h0 := h
  obtain ⟨l, b, f, h1, h2, h3⟩ := h
  refine (sget_none w S P A M l _ h1.sm 1 i ⟨by omega, by omega⟩ 0 ⟨b, r, f⟩ rfl rfl hr hi).mono fun e w' ⟨he, hw⟩ => ⟨he, hw ▸ h0⟩
theorem t_state1 {w0 w : World} {S P A M N : Nat} {r : Int} {g : List Int} (h : One w0 w S P A M N r g) (hr : 0 < r) :
    Calls Try.prog 19 #[.pointer (some ⟨S, 0, none⟩), .int .i64 1] w fun e w' => e = .returned (.tuple #[.agg (gC g), .bool true]) ∧ One w0 w' S P A M N r g := by
  have h0 := h
  obtain ⟨l, b, f, h1, h2, h3⟩ := h
  refine (sstate_in w S P A M l _ h1.sm h1.inv 1 ⟨by omega, by omega⟩ 0 ⟨b, r, f⟩ rfl rfl hr).mono fun e w' ⟨he, hb⟩ => ⟨he.trans (by show Ending.returned (.tuple #[.agg (gC (gmL l f)), .bool true]) = _; rw [h2]), h0.belows hb⟩
theorem t_room1 {w0 w : World} {S P A M N : Nat} {r : Int} {g : List Int} (h : One w0 w S P A M N r g) :
    Calls Try.prog 21 #[.pointer (some ⟨S, 0, none⟩)] w fun e w' => e = .returned (.pointer (some ⟨P, 0, none⟩)) ∧ One w0 w' S P A M N r g := by
  have h0 := h
  obtain ⟨l, b, f, h1, h2, h3⟩ := h
  exact (room_any w S P A M l _ h1.sm).mono fun e w' ⟨he, hw⟩ => ⟨he, hw ▸ h0⟩
theorem t_used1 {w0 w : World} {S P A M N : Nat} {r : Int} {g : List Int} (h : One w0 w S P A M N r g) (hr : 0 < r) :
    Calls Try.prog 22 #[.pointer (some ⟨P, 0, none⟩)] w fun e w' => e = .returned (.int .i64 4) ∧ One w0 w' S P A M N r g := by
  have h0 := h
  obtain ⟨l, b, f, h1, h2, h3⟩ := h
  exact (used_any w P A l h1.sm.rm 4 (by rw [one_used h1.inv hr]; rfl)).mono fun e w' ⟨he, hb⟩ => ⟨he, h0.belows hb⟩
/-! ### two pictures -/
/-- two pictures, held once each, of the games g, h; u pages used; tw: they share all -/
def Two (w0 w : World) (S P A M N : Nat) (u : Nat) (tw : Prop) (g h : List Int) : Prop := ∃ l b f b2 f2, LS w0 w S P A M l [⟨b, 1, f⟩, ⟨b2, 1, f2⟩] ∧ gmL l f = g ∧ gmL l f2 = h ∧ usedN l = u ∧ l.length = N ∧ (tw → f2 = f)
theorem Two.belows {w0 w w' : World} {S P A M N u : Nat} {tw : Prop} {g g2 : List Int} (h : Two w0 w S P A M N u tw g g2) (hb : Below w.heap.size w w') : Two w0 w' S P A M N u tw g g2 := by
  obtain ⟨l, b, f, b2, f2, h1, h2⟩ := h
  exact ⟨l, b, f, b2, f2, h1.belows hb, h2⟩
theorem Two.be {w0 w : World} {S P A M N u : Nat} {tw : Prop} {g g2 : List Int} (h : Two w0 w S P A M N u tw g g2) : Below w0.heap.size w0 w := by
  obtain ⟨l, b, f, b2, f2, h1, h2⟩ := h
  exact h1.be
theorem t_fork1 {w0 w : World} {S P A M N : Nat} {g : List Int} (h : One w0 w S P A M N 1 g) :
    Calls Try.prog 17 #[.pointer (some ⟨S, 0, none⟩), .int .i64 1] w fun e w' => e = .returned (.tuple #[.int .i64 2, .bool true]) ∧ Two w0 w' S P A M N 4 True g g := by
  obtain ⟨l, b, f, h1, h2, h3⟩ := h
  refine (fork_in w S P A M l _ h1.sm h1.inv (by simp) 1 ⟨by omega, by omega⟩ 0 ⟨b, 1, f⟩ rfl rfl (show (0 : Int) < 1 by omega) 2 rfl).mono fun e w' ⟨he, l', b2, U, T⟩ => ?_
  exact ⟨he, l', b, f, b2, f, h1.upt U (fork_inv h1.inv (k := 0) rfl (show (0 : Int) < 1 by omega) T b2), (T.gm f).trans h2, (T.gm f).trans h2, (fork_used h1.inv (k := 0) (c := ⟨b, 1, f⟩) rfl (show (0 : Int) < 1 by omega) T).trans (one_used h1.inv (by omega)), T.len.trans h3, fun _ => rfl⟩
theorem two_shared {b b2 : Nat} {f : Nat → Int} {l : List Sh} (I : INV l [⟨b, 1, f⟩, ⟨b2, 1, f⟩]) {i : Nat} (hi : i < 4) : ¬ (pg l (f i)).r < 2 := by
  have h := cnt_ge2 [⟨b, 1, f⟩, ⟨b2, 1, f⟩] 0 1 ⟨b, 1, f⟩ ⟨b2, 1, f⟩ (f i) rfl rfl (by omega)
  rw [← I.cnt, show pcN ⟨b, 1, f⟩ (f i) = hasN f (f i) 4 from if_pos (show (0 : Int) < 1 by omega), show pcN ⟨b2, 1, f⟩ (f i) = hasN f (f i) 4 from if_pos (show (0 : Int) < 1 by omega)] at h
  have := (hasN_pos f (f i) 4).2 ⟨i, hi, rfl⟩
  omega
/-- the first write of a fork -/
theorem t_set2first {w0 w : World} {S P A M N : Nat} {g : List Int} {u : Nat} (h : Two w0 w S P A M N u True g g) (hu : u < N) (i : Int) (n : Nat) (hi : i = n) (hn : n < 32) (v : Int) :
    Calls Try.prog 18 #[.pointer (some ⟨S, 0, none⟩), .int .i64 2, .int .i64 i, .int .i32 v] w fun e w' => e = .returned (.bool true) ∧ Two w0 w' S P A M N (u + 1) False g (g.set n v) := by
  obtain ⟨l, b, f, b2, f2, h1, h2, h3, h4, h5, h6⟩ := h
  obtain rfl := h6 trivial
  have hs := two_shared h1.inv (i := n / 8) (by omega)
  refine (sset_copy w S P A M l _ h1.sm h1.inv (by simp) 2 i v ⟨by omega, by omega⟩ 1 ⟨b2, 1, f2⟩ rfl rfl (show (0 : Int) < 1 by omega) n hi hn hs (by omega)).mono fun e w' ⟨he, l', f', U, R⟩ => ?_
  have hu2 := R.used
  rw [if_pos (show 1 < (pg l (f2 (n / 8))).r by omega), h4] at hu2
  exact ⟨he, l', b, f2, b2, f', h1.upt U R.inv, (R.oth 0 ⟨b, 1, f2⟩ (by omega) rfl (show (0 : Int) < 1 by omega)).trans h2, R.gm.trans (by show (gmL l f2).set n v = _; rw [h2]), hu2, R.len.trans h5, fun x => x.elim⟩
/-- any write of the second where a page is free -/
theorem t_set2 {w0 w : World} {S P A M N : Nat} {g g2 : List Int} {u : Nat} {tw : Prop} (h : Two w0 w S P A M N u tw g g2) (hN : 8 < N) (i : Int) (n : Nat) (hi : i = n) (hn : n < 32) (v : Int) :
    Calls Try.prog 18 #[.pointer (some ⟨S, 0, none⟩), .int .i64 2, .int .i64 i, .int .i32 v] w fun e w' => e = .returned (.bool true) ∧ ∃ u', Two w0 w' S P A M N u' False g (g2.set n v) := by
  obtain ⟨l, b, f, b2, f2, h1, h2, h3, h4, h5, h6⟩ := h
  have hle := h1.inv.used_le
  have hat := h1.inv.has (k := 1) (c := ⟨b2, 1, f2⟩) rfl (show (0 : Int) < 1 by omega) (i := n / 8) (by omega)
  have fin : ∀ e w', (e = Ending.returned (.bool true) ∧ ∃ l' f', Upt w w' S P A M [⟨b, 1, f⟩, ⟨b2, 1, f2⟩] l' ([⟨b, 1, f⟩, ⟨b2, 1, f2⟩].set 1 ⟨b2, 1, f'⟩) ∧ SetR l l' [⟨b, 1, f⟩, ⟨b2, 1, f2⟩] 1 ⟨b2, 1, f2⟩ f' n v) →
      e = Ending.returned (.bool true) ∧ ∃ u', Two w0 w' S P A M N u' False g (g2.set n v) := fun e w' ⟨he, l', f', U, R⟩ =>
    ⟨he, _, l', b, f, b2, f', h1.upt U R.inv, (R.oth 0 ⟨b, 1, f⟩ (by omega) rfl (show (0 : Int) < 1 by omega)).trans h2, R.gm.trans (by show (gmL l f2).set n v = _; rw [h3]), rfl, R.len.trans h5, fun x => x.elim⟩
  by_cases hs : (pg l (f2 (n / 8))).r < 2
  · exact (sset_alone w S P A M l _ h1.sm h1.inv 2 i v ⟨by omega, by omega⟩ 1 ⟨b2, 1, f2⟩ rfl rfl (show (0 : Int) < 1 by omega) n hi hn (by have : 1 ≤ (pg l (f2 (n / 8))).r := hat; show (pg l (f2 (n / 8))).r = 1; omega)).mono fin
  · exact (sset_copy w S P A M l _ h1.sm h1.inv (by simp) 2 i v ⟨by omega, by omega⟩ 1 ⟨b2, 1, f2⟩ rfl rfl (show (0 : Int) < 1 by omega) n hi hn hs (by simp at hle; omega)).mono fin
/-- what is shared is not written where no page is free -/
theorem t_set2full {w0 w : World} {S P A M N : Nat} {g : List Int} (h : Two w0 w S P A M N N True g g) (x : Int) (hx : x = 1 ∨ x = 2) (i : Int) (n : Nat) (hi : i = n) (hn : n < 32) (v : Int) :
    Calls Try.prog 18 #[.pointer (some ⟨S, 0, none⟩), .int .i64 x, .int .i64 i, .int .i32 v] w fun e w' => e = .returned (.bool false) ∧ Two w0 w' S P A M N N True g g := by
  have h0 := h
  obtain ⟨l, b, f, b2, f2, h1, h2, h3, h4, h5, h6⟩ := h
  obtain rfl := h6 trivial
  have hs := two_shared h1.inv (i := n / 8) (by omega)
  rcases hx with rfl | rfl
  · exact (sset_full w S P A M l _ h1.sm 1 i v ⟨by omega, by omega⟩ 0 ⟨b, 1, f2⟩ rfl rfl (show (0 : Int) < 1 by omega) n hi hn hs (by omega)).mono fun e w' ⟨he, hb⟩ => ⟨he, h0.belows hb⟩
  · exact (sset_full w S P A M l _ h1.sm 2 i v ⟨by omega, by omega⟩ 1 ⟨b2, 1, f2⟩ rfl rfl (show (0 : Int) < 1 by omega) n hi hn hs (by omega)).mono fun e w' ⟨he, hb⟩ => ⟨he, h0.belows hb⟩
theorem t_get2 {w0 w : World} {S P A M N : Nat} {g g2 : List Int} {u : Nat} {tw : Prop} (h : Two w0 w S P A M N u tw g g2) (x : Int) (gx : List Int) (hx : (x = 1 ∧ gx = g) ∨ (x = 2 ∧ gx = g2)) (i : Int) (n : Nat) (hi : i = n) (hn : n < 32) (v : Int) (hv : gx[n]? = some v) :
    Calls Try.prog 23 #[.pointer (some ⟨S, 0, none⟩), .int .i64 x, .int .i64 i] w fun e w' => e = .returned (.tuple #[.int .i32 v, .bool true]) ∧ Two w0 w' S P A M N u tw g g2 := by
  have h0 := h
  obtain ⟨l, b, f, b2, f2, h1, h2, h3, h4, h5, h6⟩ := h
  rcases hx with ⟨rfl, rfl⟩ | ⟨rfl, rfl⟩
  · exact (sget_in w S P A M l _ h1.sm h1.inv 1 i ⟨by omega, by omega⟩ 0 ⟨b, 1, f⟩ rfl rfl (show (0 : Int) < 1 by omega) n hi hn v (gm_at h2 hn hv)).mono fun e w' ⟨he, hb⟩ => ⟨he, h0.belows hb⟩
  · exact (sget_in w S P A M l _ h1.sm h1.inv 2 i ⟨by omega, by omega⟩ 1 ⟨b2, 1, f2⟩ rfl rfl (show (0 : Int) < 1 by omega) n hi hn v (gm_at h3 hn hv)).mono fun e w' ⟨he, hb⟩ => ⟨he, h0.belows hb⟩
theorem t_state2 {w0 w : World} {S P A M N : Nat} {g g2 : List Int} {u : Nat} {tw : Prop} (h : Two w0 w S P A M N u tw g g2) (x : Int) (gx : List Int) (hx : (x = 1 ∧ gx = g) ∨ (x = 2 ∧ gx = g2)) :
    Calls Try.prog 19 #[.pointer (some ⟨S, 0, none⟩), .int .i64 x] w fun e w' => e = .returned (.tuple #[.agg (gC gx), .bool true]) ∧ Two w0 w' S P A M N u tw g g2 := by
  have h0 := h
  obtain ⟨l, b, f, b2, f2, h1, h2, h3, h4, h5, h6⟩ := h
  rcases hx with ⟨rfl, rfl⟩ | ⟨rfl, rfl⟩
  · exact (sstate_in w S P A M l _ h1.sm h1.inv 1 ⟨by omega, by omega⟩ 0 ⟨b, 1, f⟩ rfl rfl (show (0 : Int) < 1 by omega)).mono fun e w' ⟨he, hb⟩ => ⟨he.trans (by show Ending.returned (.tuple #[.agg (gC (gmL l f)), .bool true]) = _; rw [h2]), h0.belows hb⟩
  · exact (sstate_in w S P A M l _ h1.sm h1.inv 2 ⟨by omega, by omega⟩ 1 ⟨b2, 1, f2⟩ rfl rfl (show (0 : Int) < 1 by omega)).mono fun e w' ⟨he, hb⟩ => ⟨he.trans (by show Ending.returned (.tuple #[.agg (gC (gmL l f2)), .bool true]) = _; rw [h3]), h0.belows hb⟩
theorem t_room2 {w0 w : World} {S P A M N : Nat} {g g2 : List Int} {u : Nat} {tw : Prop} (h : Two w0 w S P A M N u tw g g2) :
    Calls Try.prog 21 #[.pointer (some ⟨S, 0, none⟩)] w fun e w' => e = .returned (.pointer (some ⟨P, 0, none⟩)) ∧ Two w0 w' S P A M N u tw g g2 := by
  have h0 := h
  obtain ⟨l, b, f, b2, f2, h1, h2⟩ := h
  exact (room_any w S P A M l _ h1.sm).mono fun e w' ⟨he, hw⟩ => ⟨he, hw ▸ h0⟩
theorem t_used2 {w0 w : World} {S P A M N : Nat} {g g2 : List Int} {u : Nat} {tw : Prop} (h : Two w0 w S P A M N u tw g g2) (x : Int) (hx : x = u) :
    Calls Try.prog 22 #[.pointer (some ⟨P, 0, none⟩)] w fun e w' => e = .returned (.int .i64 x) ∧ Two w0 w' S P A M N u tw g g2 := by
  have h0 := h
  obtain ⟨l, b, f, b2, f2, h1, h2, h3, h4, h5⟩ := h
  exact (used_any w P A l h1.sm.rm x (by rw [hx, h4])).mono fun e w' ⟨he, hb⟩ => ⟨he, h0.belows hb⟩
theorem t_has2 {w0 w : World} {S P A M N : Nat} {g g2 : List Int} {u : Nat} {tw : Prop} (h : Two w0 w S P A M N u tw g g2) (n : Int) (hn : -1000000 ≤ n ∧ n ≤ 1000000) (bb : Bool) (hb : bb = decide (n ≤ (N : Int) - u)) :
    Calls Try.prog 28 #[.pointer (some ⟨S, 0, none⟩), .int .i64 n] w fun e w' => e = .returned (.bool bb) ∧ Two w0 w' S P A M N u tw g g2 := by
  have h0 := h
  obtain ⟨l, b, f, b2, f2, h1, h2, h3, h4, h5, h6⟩ := h
  exact (has_any w S P A M l _ h1.sm n hn bb (by rw [hb, h4, h5])).mono fun e w' ⟨he, hb⟩ => ⟨he, h0.belows hb⟩
theorem t_refs2 {w0 w : World} {S P A M N : Nat} {g g2 : List Int} {u : Nat} {tw : Prop} (h : Two w0 w S P A M N u tw g g2) :
    Calls Try.prog 26 #[.pointer (some ⟨S, 0, none⟩), .int .i64 1] w fun e w' => e = .returned (.int .i64 1) ∧ Two w0 w' S P A M N u tw g g2 := by
  have h0 := h
  obtain ⟨l, b, f, b2, f2, h1, h2⟩ := h
  exact (srefs_in w S P A M l _ h1.sm 1 ⟨by omega, by omega⟩ 0 ⟨b, 1, f⟩ rfl rfl (show (0 : Int) < 1 by omega)).mono fun e w' ⟨he, hw⟩ => ⟨he, hw ▸ h0⟩
theorem t_pages2 {w0 w : World} {S P A M N : Nat} {g g2 : List Int} {u : Nat} {tw : Prop} (h : Two w0 w S P A M N u tw g g2) :
    Calls Try.prog 27 #[.pointer (some ⟨S, 0, none⟩), .int .i64 1] w fun e w' => ∃ gg cap, e = .returned (.slice (some ⟨gg, 0, none⟩) 4 cap) ∧ Two w0 w' S P A M N u tw g g2 := by
  have h0 := h
  obtain ⟨l, b, f, b2, f2, h1, h2⟩ := h
  exact (spages_in w S P A M l _ h1.sm 1 ⟨by omega, by omega⟩ 0 ⟨b, 1, f⟩ rfl rfl (show (0 : Int) < 1 by omega)).mono fun e w' ⟨v, he, ⟨gg, cap, hv, _⟩, hb⟩ => ⟨gg, cap, by rw [he, hv], h0.belows hb⟩
theorem t_live2 {w0 w : World} {S P A M N : Nat} {g g2 : List Int} {u : Nat} {tw : Prop} (h : Two w0 w S P A M N u tw g g2) :
    Calls Try.prog 25 #[.pointer (some ⟨S, 0, none⟩)] w fun e w' => ∃ gg cap, e = .returned (.slice (some ⟨gg, 0, none⟩) 2 cap) ∧ Two w0 w' S P A M N u tw g g2 := by
  have h0 := h
  obtain ⟨l, b, f, b2, f2, h1, h2⟩ := h
  refine (live_any w S P A M l _ h1.sm (by simp)).mono fun e w' ⟨v, he, ho, hb⟩ => ?_
  rcases ho.2 with ⟨_, h4⟩ | ⟨gg, cap, cur, hv, _⟩
  · exact absurd h4 (by show ¬ (2 : Nat) = 0; omega)
  · exact ⟨gg, cap, by rw [he, hv]; rfl, h0.belows hb⟩
/-! ### one of two gone -/
/-- the one of two that is left: x its number, of the game g -/
def Lone (w0 w : World) (S P A M N : Nat) (x : Int) (g : List Int) : Prop := ∃ (l : List Sh) (L : List Pc) (k : Nat) (c : Pc), LS w0 w S P A M l L ∧ x = (k : Int) + 1 ∧ L[k]? = some c ∧ c.r = 1 ∧ (∀ (j : Nat) (d : Pc), L[j]? = some d → 0 < d.r → j = k) ∧ gmL l c.on = g ∧ l.length = N ∧ L.length = 2
theorem Lone.belows {w0 w w' : World} {S P A M N : Nat} {x : Int} {g : List Int} (h : Lone w0 w S P A M N x g) (hb : Below w.heap.size w w') : Lone w0 w' S P A M N x g := by
  obtain ⟨l, L, k, c, h1, h2⟩ := h
  exact ⟨l, L, k, c, h1.belows hb, h2⟩
theorem Lone.be {w0 w : World} {S P A M N : Nat} {x : Int} {g : List Int} (h : Lone w0 w S P A M N x g) : Below w0.heap.size w0 w := by
  obtain ⟨l, L, k, c, h1, h2⟩ := h
  exact h1.be
theorem get_two {c d e : Pc} {j : Nat} (h : [c, d][j]? = some e) : (j = 0 ∧ e = c) ∨ (j = 1 ∧ e = d) := by
  have := (List.getElem?_eq_some_iff.1 h).1
  simp at this
  obtain rfl | rfl : j = 0 ∨ j = 1 := by omega
  · exact .inl ⟨rfl, (Option.some.inj h).symm⟩
  · exact .inr ⟨rfl, (Option.some.inj h).symm⟩
theorem t_drop2 {w0 w : World} {S P A M N : Nat} {g g2 : List Int} {u : Nat} {tw : Prop} (h : Two w0 w S P A M N u tw g g2) (x y : Int) (gy : List Int) (hx : (x = 1 ∧ y = 2 ∧ gy = g2) ∨ (x = 2 ∧ y = 1 ∧ gy = g)) :
    Calls Try.prog 20 #[.pointer (some ⟨S, 0, none⟩), .int .i64 x] w fun e w' => e = .returned (.bool true) ∧ Lone w0 w' S P A M N y gy := by
  obtain ⟨l, b, f, b2, f2, h1, h2, h3, h4, h5, h6⟩ := h
  rcases hx with ⟨rfl, rfl, rfl⟩ | ⟨rfl, rfl, rfl⟩
  · refine (sdrop_last w S P A M l _ h1.sm h1.inv (by simp) 1 ⟨by omega, by omega⟩ 0 ⟨b, 1, f⟩ rfl rfl rfl).mono fun e w' ⟨he, l', U, T⟩ => ?_
    refine ⟨he, l', [⟨b, 0, f⟩, ⟨b2, 1, f2⟩], 1, ⟨b2, 1, f2⟩, h1.upt U (drop_inv h1.inv (k := 0) (c := ⟨b, 1, f⟩) rfl (show (0 : Int) < 1 by omega) T ⟨b, 0, f⟩ rfl), rfl, rfl, rfl, fun j d hj hd => ?_, (T.gm f2).trans h3, T.len.trans h5, rfl⟩
    rcases get_two hj with ⟨rfl, rfl⟩ | ⟨rfl, rfl⟩
    · exact absurd hd (show ¬ (0 : Int) < 0 by omega)
    · rfl
  · refine (sdrop_last w S P A M l _ h1.sm h1.inv (by simp) 2 ⟨by omega, by omega⟩ 1 ⟨b2, 1, f2⟩ rfl rfl rfl).mono fun e w' ⟨he, l', U, T⟩ => ?_
    refine ⟨he, l', [⟨b, 1, f⟩, ⟨b2, 0, f2⟩], 0, ⟨b, 1, f⟩, h1.upt U (drop_inv h1.inv (k := 1) (c := ⟨b2, 1, f2⟩) rfl (show (0 : Int) < 1 by omega) T ⟨b2, 0, f2⟩ rfl), rfl, rfl, rfl, fun j d hj hd => ?_, (T.gm f).trans h2, T.len.trans h5, rfl⟩
    rcases get_two hj with ⟨rfl, rfl⟩ | ⟨rfl, rfl⟩
    · rfl
    · exact absurd hd (show ¬ (0 : Int) < 0 by omega)
theorem t_usedL {w0 w : World} {S P A M N : Nat} {x : Int} {g : List Int} (h : Lone w0 w S P A M N x g) :
    Calls Try.prog 22 #[.pointer (some ⟨P, 0, none⟩)] w fun e w' => e = .returned (.int .i64 4) ∧ Lone w0 w' S P A M N x g := by
  have h0 := h
  obtain ⟨l, L, k, c, h1, h2, h3, h4, h5, h6, h7⟩ := h
  exact (used_any w P A l h1.sm.rm 4 (by rw [h1.inv.used4 k c h3 (by omega) h5]; rfl)).mono fun e w' ⟨he, hb⟩ => ⟨he, h0.belows hb⟩
theorem t_roomL {w0 w : World} {S P A M N : Nat} {x : Int} {g : List Int} (h : Lone w0 w S P A M N x g) :
    Calls Try.prog 21 #[.pointer (some ⟨S, 0, none⟩)] w fun e w' => e = .returned (.pointer (some ⟨P, 0, none⟩)) ∧ Lone w0 w' S P A M N x g := by
  have h0 := h
  obtain ⟨l, L, k, c, h1, h2⟩ := h
  exact (room_any w S P A M l _ h1.sm).mono fun e w' ⟨he, hw⟩ => ⟨he, hw ▸ h0⟩
theorem Lone.rng {w0 w : World} {S P A M N : Nat} {x : Int} {g : List Int} (h : Lone w0 w S P A M N x g) : x = 1 ∨ x = 2 := by
  obtain ⟨l, L, k, c, h1, h2, h3, h4, h5, h6, h7, h8⟩ := h
  have := (List.getElem?_eq_some_iff.1 h3).1
  omega
theorem t_stateL {w0 w : World} {S P A M N : Nat} {x : Int} {g : List Int} (h : Lone w0 w S P A M N x g) :
    Calls Try.prog 19 #[.pointer (some ⟨S, 0, none⟩), .int .i64 x] w fun e w' => e = .returned (.tuple #[.agg (gC g), .bool true]) ∧ Lone w0 w' S P A M N x g := by
  have h0 := h
  have hr := h.rng
  obtain ⟨l, L, k, c, h1, h2, h3, h4, h5, h6, h7⟩ := h
  exact (sstate_in w S P A M l _ h1.sm h1.inv x ⟨by omega, by omega⟩ k c h2 h3 (by omega)).mono fun e w' ⟨he, hb⟩ => ⟨he.trans (by rw [h6]), h0.belows hb⟩
theorem t_getL {w0 w : World} {S P A M N : Nat} {x : Int} {g : List Int} (h : Lone w0 w S P A M N x g) (i : Int) (n : Nat) (hi : i = n) (hn : n < 32) (v : Int) (hv : g[n]? = some v) :
    Calls Try.prog 23 #[.pointer (some ⟨S, 0, none⟩), .int .i64 x, .int .i64 i] w fun e w' => e = .returned (.tuple #[.int .i32 v, .bool true]) ∧ Lone w0 w' S P A M N x g := by
  have h0 := h
  have hr := h.rng
  obtain ⟨l, L, k, c, h1, h2, h3, h4, h5, h6, h7⟩ := h
  exact (sget_in w S P A M l _ h1.sm h1.inv x i ⟨by omega, by omega⟩ k c h2 h3 (by omega) n hi hn v (gm_at h6 hn hv)).mono fun e w' ⟨he, hb⟩ => ⟨he, h0.belows hb⟩
theorem t_setL {w0 w : World} {S P A M N : Nat} {x : Int} {g : List Int} (h : Lone w0 w S P A M N x g) (i : Int) (n : Nat) (hi : i = n) (hn : n < 32) (v : Int) :
    Calls Try.prog 18 #[.pointer (some ⟨S, 0, none⟩), .int .i64 x, .int .i64 i, .int .i32 v] w fun e w' => e = .returned (.bool true) ∧ Lone w0 w' S P A M N x (g.set n v) := by
  have hr := h.rng
  obtain ⟨l, L, k, c, h1, h2, h3, h4, h5, h6, h7, h8⟩ := h
  have ha : (pg l (c.on (n / 8))).r = 1 := by
    have hh := h1.inv.has h3 (by omega) (i := n / 8) (by omega)
    refine Classical.byContradiction (fun hne => ?_)
    have hc := h1.inv.cnt (c.on (n / 8))
    have hset := cnt_set L k c ⟨c.b, 0, c.on⟩ (c.on (n / 8)) h3
    rw [show pcN c (c.on (n / 8)) = hasN c.on (c.on (n / 8)) 4 from if_pos (by omega), hasN_one c.on 4 (h1.inv.dist k c h3 (by omega)) (n / 8) (by omega), show pcN ⟨c.b, 0, c.on⟩ (c.on (n / 8)) = 0 from if_neg (show ¬ (0 : Int) < 0 by omega)] at hset
    obtain ⟨j, d, hj, hd, _⟩ := cnt_pos (L.set k ⟨c.b, 0, c.on⟩) (c.on (n / 8)) (by omega)
    rcases get_set h3 hj with ⟨_, rfl⟩ | ⟨hn2, hj2⟩
    · exact absurd hd (show ¬ (0 : Int) < 0 by omega)
    · exact hn2 (h5 j d hj2 hd)
  refine (sset_alone w S P A M l _ h1.sm h1.inv x i v ⟨by omega, by omega⟩ k c h2 h3 (by omega) n hi hn ha).mono fun e w' ⟨he, l', f', U, R⟩ => ⟨he, l', _, k, ⟨c.b, c.r, f'⟩, h1.upt U R.inv, h2, get_put _ h3, h4, fun j d hj hd => ?_, R.gm.trans (by rw [h6]), R.len.trans h7, by rw [List.length_set]; exact h8⟩
  rcases get_set h3 hj with ⟨hjk, _⟩ | ⟨_, hj2⟩
  · exact hjk
  · exact h5 j d hj2 hd
/-- a picture that is gone is not dropped again -/
theorem t_dropno {w0 w : World} {S P A M N : Nat} {x : Int} {g : List Int} (h : Lone w0 w S P A M N x g) (y : Int) (hy : y ≠ x) (hy0 : -1000000 ≤ y ∧ y ≤ 1000000) :
    Calls Try.prog 20 #[.pointer (some ⟨S, 0, none⟩), .int .i64 y] w fun e w' => e = .returned (.bool false) ∧ Lone w0 w' S P A M N x g := by
  have h0 := h
  obtain ⟨l, L, k, c, h1, h2, h3, h4, h5, h6⟩ := h
  exact (sdrop_out w S P A M l _ h1.sm y ⟨by omega, by omega⟩ (fun j d hj hd hr => by have := h5 j d hd hr; omega)).mono fun e w' ⟨he, hw⟩ => ⟨he, hw ▸ h0⟩
/-- no second picture where four pages are all -/
theorem t_makeno1 {w0 w : World} {S P A M : Nat} {g : List Int} (h : One w0 w S P A M 4 1 g) (g2 : List Int) :
    Calls Try.prog 16 #[.pointer (some ⟨S, 0, none⟩), .agg (gC g2)] w fun e w' => e = .returned (.tuple #[.int .i64 0, .bool false]) ∧ One w0 w' S P A M 4 1 g := by
  have h0 := h
  obtain ⟨l, b, f, h1, h2, h3⟩ := h
  exact (make_miss w S P A M l _ h1.sm (by have := one_used h1.inv (by omega); omega) g2).mono fun e w' ⟨he, hb⟩ => ⟨he, h0.belows hb⟩
end Go.Proofs.Ytkmkjfbbpeocdaa
