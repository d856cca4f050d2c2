/- WALKS over package snap: Get, own, Set. -/
import Derived.Test.YtkmkjfbbpeocdaaWg
namespace Go.Proofs.Ytkmkjfbbpeocdaa
set_option maxRecDepth 100000
open Go.RowKit Go.Maps
set_option linter.unusedVariables false
set_option linter.unusedSimpArgs false

theorem sget_nil (x i : Int) (w : World) :
    Calls Try.prog 23 #[.pointer none, .int .i64 x, .int .i64 i] w fun e w' => e = .returned (.tuple #[.int .i32 0, .bool false]) ∧ w = w' := by
  have HU := Lib.hid (picture_nil x w)
  go_enter Try.func23, Try.ntmps23
  go_wp2_with (go_at_call 37; with_reducible refine HU.out.mono ?_; rintro e w1 ⟨rfl, rfl⟩)
  go_ret2
  exact ⟨rfl, rfl⟩
theorem sget_out (w : World) (S P A M : Nat) (l : List Sh) (L : List Pc) (h : SM w S P A M l L) (x i : Int) (hx : rng x) (hd : Dead L x) :
    Calls Try.prog 23 #[.pointer (some ⟨S, 0, none⟩), .int .i64 x, .int .i64 i] w fun e w' => e = .returned (.tuple #[.int .i32 0, .bool false]) ∧ w = w' := by
  have HU := Lib.hid (picture_out w S P A M l L h x hx hd)
  clear h hd
  go_enter Try.func23, Try.ntmps23
  go_wp2_with (go_at_call 37; with_reducible refine HU.out.mono ?_; rintro e w1 ⟨rfl, rfl⟩)
  go_ret2
  exact ⟨rfl, rfl⟩
theorem sget_none (w : World) (S P A M : Nat) (l : List Sh) (L : List Pc) (h : SM w S P A M l L) (x i : Int) (hx : rng x) (k : Nat) (c : Pc) (hk : x = k + 1) (hc : L[k]? = some c) (hr : 0 < c.r) (hi : ceB i = false) :
    Calls Try.prog 23 #[.pointer (some ⟨S, 0, none⟩), .int .i64 x, .int .i64 i] w fun e w' => e = .returned (.tuple #[.int .i32 0, .bool false]) ∧ w = w' := by
  have HU := Lib.hid (picture_in w S P A M l L h x hx k c hk hc hr)
  have HN := Lib.hid (iscell_any i w)
  rw [hi] at HN
  clear h hk hc hr hi
  go_enter Try.func23, Try.ntmps23
  go_wp2_with (first
    | (go_at_call 37; with_reducible refine HU.out.mono ?_; rintro e w1 ⟨rfl, rfl⟩)
    | (go_at_call 39; with_reducible refine HN.out.mono ?_; rintro e w1 ⟨rfl, rfl⟩))
  go_ret2
  exact ⟨rfl, rfl⟩
theorem div8 {i : Int} {n : Nat} (hi : i = n) (hn : n < 32) : i.tdiv 8 = ((n / 8 : Nat) : Int) ∧ i.tmod 8 = ((n % 8 : Nat) : Int) ∧ IntKind.i64.wrap (i.tdiv 8) = ((n / 8 : Nat) : Int) ∧ IntKind.i64.wrap (i.tmod 8) = ((n % 8 : Nat) : Int) := by
  subst hi
  have e1 : (n : Int).tdiv 8 = ((n / 8 : Nat) : Int) := by rw [Int.tdiv_eq_ediv_of_nonneg (by omega)]; omega
  have e2 : (n : Int).tmod 8 = ((n % 8 : Nat) : Int) := by rw [Int.tmod_eq_emod_of_nonneg (by omega)]; omega
  refine ⟨e1, e2, ?_, ?_⟩
  · rw [e1, IntKind.wrap_i64]; omega
  · rw [e2, IntKind.wrap_i64]; omega
set_option maxHeartbeats 1000000 in
theorem sget_in (w : World) (S P A M : Nat) (l : List Sh) (L : List Pc) (h : SM w S P A M l L) (I : INV l L) (x i : Int) (hx : rng x) (k : Nat) (c : Pc) (hk : x = k + 1) (hc : L[k]? = some c) (hr : 0 < c.r) (n : Nat) (hi : i = n) (hn : n < 32) (v : Int) (hv : v = (pg l (c.on (n / 8))).on (n % 8)) :
    Calls Try.prog 23 #[.pointer (some ⟨S, 0, none⟩), .int .i64 x, .int .i64 i] w fun e w' => e = .returned (.tuple #[.int .i32 v, .bool true]) ∧ Below w.heap.size w w' := by
  have HU := Lib.hid (picture_in w S P A M l L h x hx k c hk hc hr)
  have HN := Lib.hid (iscell_any i w)
  rw [show ceB i = true by unfold ceB; simp; omega] at HN
  have c0 := h.c0
  have PB0 := (h.pics k c hc hr).1
  obtain ⟨q, hq, hql, hqe⟩ := I.at hc hr (i := n / 8) (by omega)
  have cp := PB0.on (n / 8) (by omega)
  have HG := Lib.hid (fun m => get_in (w.drewN m) P A l (h.rm.belows (below_drewNq (Below.refl _ _) m)) (c.on (n / 8)) ((n % 8 : Nat) : Int) q (n % 8) hq hql (by have := I.has hc hr (i := n / 8) (by omega); rw [hqe] at this; omega) rfl (by omega) v (by rw [hv, hqe]))
  generalize c.on (n / 8) = y at *
  obtain ⟨d1, d2, d3, d4⟩ := div8 hi hn
  have i0 : 0 ≤ i := by omega
  have i1 : i < 32 := by omega
  have z0 : n / 8 < 4 := by omega
  generalize n / 8 = a at *
  generalize n % 8 = b at *
  have zc : (a : Int) < 4 := by omega
  have HI2 := Lib.hid hi
  clear h I hk hc hr PB0 hi hv hq hqe hql
  go_enter Try.func23, Try.ntmps23
  go_wp2_with (first
    | (go_at_call 37; with_reducible refine HU.out.mono ?_; rintro e w1 ⟨rfl, rfl⟩)
    | (go_at_call 39; with_reducible refine HN.out.mono ?_; rintro e w1 ⟨rfl, rfl⟩))
  go_quiet ((go_at_call 45; with_reducible exact same_left (HG.out _)))
  go_wp2
  go_ret2
  exact ⟨rfl, below_drewNq (Below.refl _ _) _⟩
end Go.Proofs.Ytkmkjfbbpeocdaa
