/- A ROOM of pages in memory; WALKS over package page: isNumber, inUse, Refs, Get, Set, Hold, Drop. -/
import Derived.Test.YtkmkjfbbpeocdaaBa
namespace Go.Proofs.Ytkmkjfbbpeocdaa
set_option maxRecDepth 100000
open Go.RowKit
set_option linter.unusedVariables false

/-- the room at P, its pages l in block A -/
structure RM (w : World) (P A : Nat) (l : List Sh) : Prop where
  slot : w.cell? ⟨P, 0, none⟩ = some (.slice (some ⟨A, 0, none⟩) l.length l.length)
  row : SR w A 87 l
  ne : P ≠ A
  len : l.length ≤ 200
theorem RM.lt {w : World} {P A : Nat} {l : List Sh} (h : RM w P A l) : P < w.heap.size := cell_lt h.slot
theorem RM.below {w w' : World} {P A B : Nat} {l : List Sh} (h : RM w P A l) (hb : Below B w w') (hP : P < B) (hA : A < B) : RM w' P A l :=
  ⟨(hb.cell (p := ⟨P, 0, none⟩) hP).trans h.slot, h.row.below hb hA, h.ne, h.len⟩
theorem RM.belows {w w' : World} {P A : Nat} {l : List Sh} (h : RM w P A l) (hb : Below w.heap.size w w') : RM w' P A l := h.below hb h.lt h.row.lt
theorem RM.grown {w w' : World} {P A : Nat} {row : Option Nat} {l : List Sh} (h : RM w P A l) (hg : w.grownBy w' row) (h1 : some P ≠ row) (h2 : some A ≠ row) : RM w' P A l :=
  ⟨(World.cell?_of_block (w := w) (a := ⟨P, 0, none⟩) (hg.block P h.lt h1)).trans h.slot, h.row.grown hg h2, h.ne, h.len⟩
theorem RM.alloc {w : World} {P A : Nat} {l : List Sh} (h : RM w P A l) (o : Obj) : RM (w.alloc o) P A l :=
  h.below ((Below.refl w.heap.size w).alloc (Nat.le_refl _) o) h.lt h.row.lt
theorem RM.drew {w : World} {P A : Nat} {l : List Sh} (h : RM w P A l) : RM w.drew P A l := ⟨h.slot, h.row, h.ne, h.len⟩
theorem grown_tr {a b c : World} {r : Option Nat} (h : a.grownBy b r) (k : b.grownBy c r) : a.grownBy c r :=
  ⟨k.os.trans h.os, k.tape.trans h.tape, k.output.trans h.output, Nat.le_trans h.size k.size, fun i hi hr => (k.block i (Nat.lt_of_lt_of_le hi h.size) hr).trans (h.block i hi hr)⟩
theorem grown_be {a b : World} {r : Option Nat} (h : Below a.heap.size a b) : a.grownBy b r := ⟨h.os, h.tape, h.output, h.size, fun i hi _ => h.block i hi⟩
theorem grown_st (w : World) (a : Addr) (v : Value) : w.grownBy (w.setCell a v) (some a.block) := ⟨rfl, rfl, rfl, by simp [World.setCell], fun k hk hne => Below.heap_setCell _ _ _ _ (fun e => hne (by rw [e]))⟩
/-- what a call that turns the room leaves: the room of the pages l, and nothing else turned -/
structure Upd (w w' : World) (P A : Nat) (l : List Sh) : Prop where
  rm : RM w' P A l
  gr : w.grownBy w' (some A)

/-- the page p -/
def pg (l : List Sh) (p : Int) : Sh := if 1 ≤ p then shAt l (p.toNat - 1) else zS
theorem pg_at (l : List Sh) (p : Int) (k : Nat) (hp : p = k + 1) : pg l p = shAt l k := by
  unfold pg; rw [if_pos (by omega), show p.toNat - 1 = k by omega]
theorem pg_out (l : List Sh) (p : Int) (h : p < 1 ∨ (l.length : Int) < p) : pg l p = zS := by
  unfold pg
  by_cases h1 : 1 ≤ p
  · rw [if_pos h1, shAt_ge (by omega)]
  · rw [if_neg h1]
theorem pg_in {l : List Sh} {p : Int} (h : (pg l p).r ≠ 0) : ∃ k : Nat, p = k + 1 ∧ k < l.length := by
  by_cases h1 : p < 1 ∨ (l.length : Int) < p
  · rw [pg_out l p h1] at h; exact absurd rfl h
  · exact ⟨p.toNat - 1, by omega, by omega⟩

/-- a number of a page -/
def nuB (i : Int) : Bool := decide (0 ≤ i) && decide (i < 8)
theorem ret_bo {a b : Bool} (h : a = b) : Ending.returned (.bool a) = .returned (.bool b) := by rw [h]
theorem isnumber_any (i : Int) (w : World) :
    Calls Try.prog 53 #[.int .i64 i] w fun e w' => e = .returned (.bool (nuB i)) ∧ w = w' := by
  by_cases h0 : 0 ≤ i
  · by_cases h1 : i < 8
    · have HP : Hid (nuB i = true) := by unfold Hid nuB; simp [h0, h1]
      go_enter Try.func53, Try.ntmps53
      go_wp2
      go_ret
      exact ⟨ret_bo HP.out.symm, rfl⟩
    · have HP : Hid (nuB i = false) := by unfold Hid nuB; simp [h1]
      go_enter Try.func53, Try.ntmps53
      go_wp2
      go_ret
      exact ⟨ret_bo HP.out.symm, rfl⟩
  · have HP : Hid (nuB i = false) := by unfold Hid nuB; simp [h0]
    go_enter Try.func53, Try.ntmps53
    go_wp2
    go_ret
    exact ⟨ret_bo HP.out.symm, rfl⟩

theorem inuse_nil (p : Int) (w : World) :
    Calls Try.prog 49 #[.pointer none, .int .i64 p] w fun e w' => e = .returned (.pointer none) ∧ w = w' := by
  go_enter Try.func49, Try.ntmps49
  go_wp2
  go_ret
  exact ⟨rfl, rfl⟩
theorem inuse_out (w : World) (P A : Nat) (l : List Sh) (R : RM w P A l) (p : Int) (h : (pg l p).r = 0) :
    Calls Try.prog 49 #[.pointer (some ⟨P, 0, none⟩), .int .i64 p] w fun e w' => e = .returned (.pointer none) ∧ w = w' := by
  have hs := R.slot
  by_cases h1 : p < 1
  · clear h
    go_enter Try.func49, Try.ntmps49
    go_wp2
    go_ret
    exact ⟨rfl, rfl⟩
  · by_cases h2 : p > (l.length : Int)
    · clear h
      go_enter Try.func49, Try.ntmps49
      go_wp2
      go_ret
      exact ⟨rfl, rfl⟩
    · obtain ⟨k, hk⟩ : ∃ k : Nat, p = k + 1 := ⟨p.toNat - 1, by omega⟩
      have hkl : k < l.length := by omega
      rw [pg_at l p k hk] at h
      have hc := R.row.ref k hkl
      rw [h] at hc
      have z0 : 0 ≤ p - 1 := by omega
      have z1 : p - 1 < (l.length : Int) := by omega
      have zk : (p - 1).toNat = k := by omega
      have hl := R.len
      have hu : p ≤ 200 := by omega
      have HK := Lib.hid hk
      clear hk h
      go_enter Try.func49, Try.ntmps49
      go_wp2
      go_ret
      exact ⟨rfl, rfl⟩
theorem inuse_in (w : World) (P A : Nat) (l : List Sh) (R : RM w P A l) (p : Int) (k : Nat) (hk : p = k + 1) (hkl : k < l.length) (h : (shAt l k).r ≠ 0) :
    Calls Try.prog 49 #[.pointer (some ⟨P, 0, none⟩), .int .i64 p] w fun e w' => e = .returned (.pointer (some ⟨A, k * 9, none⟩)) ∧ w = w' := by
  have hs := R.slot
  have hc := R.row.ref k hkl
  generalize (shAt l k).r = x at *
  have h1 : ¬ p < 1 := by omega
  have h2 : ¬ p > (l.length : Int) := by omega
  have z0 : 0 ≤ p - 1 := by omega
  have z1 : p - 1 < (l.length : Int) := by omega
  have zk : (p - 1).toNat = k := by omega
  have hl := R.len
  have hu : p ≤ 200 := by omega
  have HK := Lib.hid hk
  clear hk
  go_enter Try.func49, Try.ntmps49
  go_wp2
  go_ret
  exact ⟨rfl, rfl⟩
/-! ### Refs -/
theorem refs_any (w : World) (P A : Nat) (l : List Sh) (R : RM w P A l) (p : Int) (x : Int) (hx : x = (pg l p).r) :
    Calls Try.prog 33 #[.pointer (some ⟨P, 0, none⟩), .int .i64 p] w fun e w' => e = .returned (.int .i64 x) ∧ w = w' := by
  subst hx
  by_cases h : (pg l p).r = 0
  · have HU := Lib.hid (inuse_out w P A l R p h)
    rw [h]
    clear h R
    go_enter Try.func33, Try.ntmps33
    go_wp2_with (go_at_call 49; with_reducible refine HU.out.mono ?_; rintro e w1 ⟨rfl, rfl⟩)
    go_ret
    exact ⟨rfl, rfl⟩
  · obtain ⟨k, hk, hkl⟩ := pg_in h
    rw [pg_at l p k hk] at h ⊢
    have HU := Lib.hid (inuse_in w P A l R p k hk hkl h)
    have hc := R.row.ref k hkl
    generalize (shAt l k).r = x at *
    clear hk R
    go_enter Try.func33, Try.ntmps33
    go_wp2_with (go_at_call 49; with_reducible refine HU.out.mono ?_; rintro e w1 ⟨rfl, rfl⟩)
    go_ret
    exact ⟨rfl, rfl⟩
/-! ### Get -/
theorem get_out (w : World) (P A : Nat) (l : List Sh) (R : RM w P A l) (p i : Int) (h : (pg l p).r = 0 ∨ nuB i = false) :
    Calls Try.prog 45 #[.pointer (some ⟨P, 0, none⟩), .int .i64 p, .int .i64 i] w fun e w' => e = .returned (.tuple #[.int .i32 0, .bool false]) ∧ w = w' := by
  have HN := Lib.hid (isnumber_any i w)
  by_cases h0 : (pg l p).r = 0
  · have HU := Lib.hid (inuse_out w P A l R p h0)
    clear h h0 R
    go_enter Try.func45, Try.ntmps45
    go_wp2_with (go_at_call 49; with_reducible refine HU.out.mono ?_; rintro e w1 ⟨rfl, rfl⟩)
    go_ret2
    exact ⟨rfl, rfl⟩
  · have hn := h.resolve_left h0
    obtain ⟨k, hk, hkl⟩ := pg_in h0
    rw [pg_at l p k hk] at h0
    have HU := Lib.hid (inuse_in w P A l R p k hk hkl h0)
    rw [hn] at HN
    clear h h0 R hk hn
    go_enter Try.func45, Try.ntmps45
    go_wp2_with (first | (go_at_call 49; with_reducible refine HU.out.mono ?_; rintro e w1 ⟨rfl, rfl⟩) | (go_at_call 53; with_reducible refine HN.out.mono ?_; rintro e w1 ⟨rfl, rfl⟩))
    go_ret2
    exact ⟨rfl, rfl⟩
theorem nuB_nat (i : Int) (j : Nat) (hj : i = j) (h8 : j < 8) : nuB i = true := by unfold nuB; simp; omega
theorem get_in (w : World) (P A : Nat) (l : List Sh) (R : RM w P A l) (p i : Int) (k j : Nat) (hk : p = k + 1) (hkl : k < l.length) (hr : (shAt l k).r ≠ 0) (hj : i = j) (h8 : j < 8) (x : Int) (hx : x = (shAt l k).on j) :
    Calls Try.prog 45 #[.pointer (some ⟨P, 0, none⟩), .int .i64 p, .int .i64 i] w fun e w' => e = .returned (.tuple #[.int .i32 x, .bool true]) ∧ w = w' := by
  have HN := Lib.hid (isnumber_any i w)
  rw [nuB_nat i j hj h8] at HN
  have HU := Lib.hid (inuse_in w P A l R p k hk hkl hr)
  have hc := R.row.num k hkl j h8
  rw [← hx] at hc
  have z0 : 0 ≤ i := by omega
  have z1 : i < 8 := by omega
  have zk : i.toNat = j := by omega
  clear hx hr R hk hj
  go_enter Try.func45, Try.ntmps45
  go_wp2_with (first | (go_at_call 49; with_reducible refine HU.out.mono ?_; rintro e w1 ⟨rfl, rfl⟩) | (go_at_call 53; with_reducible refine HN.out.mono ?_; rintro e w1 ⟨rfl, rfl⟩))
  go_ret2
  exact ⟨rfl, rfl⟩
/-! ### Hold, Drop -/
theorem hold_out (w : World) (P A : Nat) (l : List Sh) (R : RM w P A l) (p : Int) (h : (pg l p).r = 0) :
    Calls Try.prog 38 #[.pointer (some ⟨P, 0, none⟩), .int .i64 p] w fun e w' => e = .returned (.bool false) ∧ w = w' := by
  have HU := Lib.hid (inuse_out w P A l R p h)
  clear h R
  go_enter Try.func38, Try.ntmps38
  go_wp2_with (go_at_call 49; with_reducible refine HU.out.mono ?_; rintro e w1 ⟨rfl, rfl⟩)
  go_ret
  exact ⟨rfl, rfl⟩
theorem drop_out (w : World) (P A : Nat) (l : List Sh) (R : RM w P A l) (p : Int) (h : (pg l p).r = 0) :
    Calls Try.prog 44 #[.pointer (some ⟨P, 0, none⟩), .int .i64 p] w fun e w' => e = .returned (.bool false) ∧ w = w' := by
  have HU := Lib.hid (inuse_out w P A l R p h)
  clear h R
  go_enter Try.func44, Try.ntmps44
  go_wp2_with (go_at_call 49; with_reducible refine HU.out.mono ?_; rintro e w1 ⟨rfl, rfl⟩)
  go_ret
  exact ⟨rfl, rfl⟩
theorem upd_ref {w : World} {P A : Nat} {l : List Sh} (R : RM w P A l) (k : Nat) (hkl : k < l.length) (r : Int) : Upd w (w.setCell ⟨A, k * 9, none⟩ (.int .i64 r)) P A (l.set k ⟨r, (shAt l k).on⟩) := by
  have g := grown_st w ⟨A, k * 9, none⟩ (.int .i64 r)
  refine ⟨⟨?_, R.row.setRef k hkl r, R.ne, by rw [List.length_set]; exact R.len⟩, g⟩
  rw [List.length_set]
  exact (World.cell?_of_block (w := w) (a := ⟨P, 0, none⟩) (g.block P R.lt (fun e => R.ne (Option.some.inj e)))).trans R.slot
theorem upd_num {w : World} {P A : Nat} {l : List Sh} (R : RM w P A l) (k : Nat) (hkl : k < l.length) (j : Nat) (h8 : j < 8) (v : Int) : Upd w (w.setCell ⟨A, k * 9 + 1 + j, none⟩ (.int .i32 v)) P A (l.set k ⟨(shAt l k).r, shPut (shAt l k).on j v⟩) := by
  have g := grown_st w ⟨A, k * 9 + 1 + j, none⟩ (.int .i32 v)
  refine ⟨⟨?_, R.row.setNum k hkl j h8 v, R.ne, by rw [List.length_set]; exact R.len⟩, g⟩
  rw [List.length_set]
  exact (World.cell?_of_block (w := w) (a := ⟨P, 0, none⟩) (g.block P R.lt (fun e => R.ne (Option.some.inj e)))).trans R.slot
theorem hold_in (w : World) (P A : Nat) (l : List Sh) (R : RM w P A l) (p : Int) (k : Nat) (hk : p = k + 1) (hkl : k < l.length) (hr : (shAt l k).r ≠ 0) (h0 : 0 ≤ (shAt l k).r) (h1 : (shAt l k).r ≤ 1000000) (l' : List Sh) (hl' : l' = l.set k ⟨(shAt l k).r + 1, (shAt l k).on⟩) :
    Calls Try.prog 38 #[.pointer (some ⟨P, 0, none⟩), .int .i64 p] w fun e w' => e = .returned (.bool true) ∧ Upd w w' P A l' := by
  subst hl'
  have HU := Lib.hid (inuse_in w P A l R p k hk hkl hr)
  have hc := R.row.ref k hkl
  have hf := R.row.frozen (k * 9)
  have HQ := Lib.hid (upd_ref R k hkl ((shAt l k).r + 1))
  generalize hx : (shAt l k).r = x at *
  clear hx hr R hk
  go_enter Try.func38, Try.ntmps38
  go_wp2_with (go_at_call 49; with_reducible refine HU.out.mono ?_; rintro e w1 ⟨rfl, rfl⟩)
  go_ret
  exact ⟨rfl, HQ.out⟩
theorem drop_in (w : World) (P A : Nat) (l : List Sh) (R : RM w P A l) (p : Int) (k : Nat) (hk : p = k + 1) (hkl : k < l.length) (hr : (shAt l k).r ≠ 0) (h0 : 0 ≤ (shAt l k).r) (h1 : (shAt l k).r ≤ 1000000) (l' : List Sh) (hl' : l' = l.set k ⟨(shAt l k).r - 1, (shAt l k).on⟩) :
    Calls Try.prog 44 #[.pointer (some ⟨P, 0, none⟩), .int .i64 p] w fun e w' => e = .returned (.bool true) ∧ Upd w w' P A l' := by
  subst hl'
  have HU := Lib.hid (inuse_in w P A l R p k hk hkl hr)
  have hc := R.row.ref k hkl
  have hf := R.row.frozen (k * 9)
  have HQ := Lib.hid (upd_ref R k hkl ((shAt l k).r - 1))
  generalize hx : (shAt l k).r = x at *
  clear hx hr R hk
  go_enter Try.func44, Try.ntmps44
  go_wp2_with (go_at_call 49; with_reducible refine HU.out.mono ?_; rintro e w1 ⟨rfl, rfl⟩)
  go_ret
  exact ⟨rfl, HQ.out⟩
/-! ### Set -/
theorem set_out (w : World) (P A : Nat) (l : List Sh) (R : RM w P A l) (p i v : Int) (h : (pg l p).r = 0 ∨ (pg l p).r > 1 ∨ nuB i = false) :
    Calls Try.prog 41 #[.pointer (some ⟨P, 0, none⟩), .int .i64 p, .int .i64 i, .int .i32 v] w fun e w' => e = .returned (.bool false) ∧ w = w' := by
  have HN := Lib.hid (isnumber_any i w)
  by_cases h0 : (pg l p).r = 0
  · have HU := Lib.hid (inuse_out w P A l R p h0)
    clear h h0 R
    go_enter Try.func41, Try.ntmps41
    go_wp2_with (go_at_call 49; with_reducible refine HU.out.mono ?_; rintro e w1 ⟨rfl, rfl⟩)
    go_ret
    exact ⟨rfl, rfl⟩
  · have h' := h.resolve_left h0
    obtain ⟨k, hk, hkl⟩ := pg_in h0
    rw [pg_at l p k hk] at h0 h'
    have HU := Lib.hid (inuse_in w P A l R p k hk hkl h0)
    have hc := R.row.ref k hkl
    generalize (shAt l k).r = x at *
    by_cases h1 : x > 1
    · clear h h0 R hk h'
      go_enter Try.func41, Try.ntmps41
      go_wp2_with (go_at_call 49; with_reducible refine HU.out.mono ?_; rintro e w1 ⟨rfl, rfl⟩)
      go_ret
      exact ⟨rfl, rfl⟩
    · have hn := h'.resolve_left h1
      rw [hn] at HN
      clear h h0 R hk hn h'
      go_enter Try.func41, Try.ntmps41
      go_wp2_with (first | (go_at_call 49; with_reducible refine HU.out.mono ?_; rintro e w1 ⟨rfl, rfl⟩) | (go_at_call 53; with_reducible refine HN.out.mono ?_; rintro e w1 ⟨rfl, rfl⟩))
      go_ret
      exact ⟨rfl, rfl⟩
theorem set_in (w : World) (P A : Nat) (l : List Sh) (R : RM w P A l) (p i v : Int) (k j : Nat) (hk : p = k + 1) (hkl : k < l.length) (hr : (shAt l k).r = 1) (hj : i = j) (h8 : j < 8) (l' : List Sh) (hl' : l' = l.set k ⟨(shAt l k).r, shPut (shAt l k).on j v⟩) :
    Calls Try.prog 41 #[.pointer (some ⟨P, 0, none⟩), .int .i64 p, .int .i64 i, .int .i32 v] w fun e w' => e = .returned (.bool true) ∧ Upd w w' P A l' := by
  subst hl'
  have HN := Lib.hid (isnumber_any i w)
  rw [nuB_nat i j hj h8] at HN
  have HU := Lib.hid (inuse_in w P A l R p k hk hkl (by omega))
  have hc := R.row.ref k hkl
  have hc2 := R.row.num k hkl j h8
  have hf := R.row.frozen (k * 9 + 1 + j)
  have HQ := Lib.hid (upd_num R k hkl j h8 v)
  generalize (shAt l k).on j = y at hc2
  rw [hr] at hc
  have z0 : 0 ≤ i := by omega
  have z1 : i < 8 := by omega
  have zk : i.toNat = j := by omega
  clear hr R hk hj
  go_enter Try.func41, Try.ntmps41
  go_wp2_with (first | (go_at_call 49; with_reducible refine HU.out.mono ?_; rintro e w1 ⟨rfl, rfl⟩) | (go_at_call 53; with_reducible refine HN.out.mono ?_; rintro e w1 ⟨rfl, rfl⟩))
  go_ret
  exact ⟨rfl, HQ.out⟩
end Go.Proofs.Ytkmkjfbbpeocdaa
