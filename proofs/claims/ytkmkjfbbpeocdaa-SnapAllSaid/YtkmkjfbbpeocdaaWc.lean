/- WALKS over package snap: picture, isCell, Refs, Room, Hold, Has. -/
import Derived.Test.YtkmkjfbbpeocdaaWb
import Derived.BigQuiet
namespace Go.Proofs.Ytkmkjfbbpeocdaa
set_option maxRecDepth 100000
open Go.RowKit Go.Maps
set_option linter.unusedVariables false
set_option linter.unusedSimpArgs false

theorem picture_nil (x : Int) (w : World) :
    Calls Try.prog 37 #[.pointer none, .int .i64 x] w fun e w' => e = .returned (.pointer none) ∧ w = w' := by
  go_enter Try.func37, Try.ntmps37
  go_wp2
  go_ret
  exact ⟨rfl, rfl⟩
/-- x is no live picture's number -/
def Dead (L : List Pc) (x : Int) : Prop := ∀ (k : Nat) (c : Pc), x = k + 1 → L[k]? = some c → ¬ 0 < c.r
def rng (x : Int) : Prop := -9223372036854775808 ≤ x ∧ x ≤ 9223372036854775807
theorem look_out (w : World) (S P A M : Nat) (l : List Sh) (L : List Pc) (h : SM w S P A M l L) (x : Int) (hx : rng x) (hd : Dead L x) :
    (Instr.lookup 64 (.map (some M)) (.int .i64 x) false).run Try.prog w = .ok (.pointer none) w := by
  obtain ⟨D, h1, h2⟩ := h.map
  obtain ⟨v, ps, hr, hv⟩ := h1.lookup (int_keyed Try.underlying40) Try.underlying64 (Try.zeroValue75 w) (zd := .nil) (zp := []) rfl (keyOf_int_mk Try.underlying40 (kl_wf hx.1 hx.2))
  have e : D.atKey (kl x) .nil = .nil := atKey_of_not_has (h2.dead x hd) _
  rw [show Lit.int .i64 x = kl x from rfl, e] at hv
  obtain rfl := ptrR_nil hv
  exact hr
theorem look_in (w : World) (S P A M : Nat) (l : List Sh) (L : List Pc) (h : SM w S P A M l L) (x : Int) (hx : rng x) (k : Nat) (c : Pc) (hk : x = k + 1) (hc : L[k]? = some c) (hr : 0 < c.r) :
    (Instr.lookup 64 (.map (some M)) (.int .i64 x) false).run Try.prog w = .ok (.pointer (some ⟨c.b, 0, none⟩)) w := by
  obtain ⟨D, h1, h2⟩ := h.map
  obtain ⟨v, ps, hr2, hv⟩ := h1.lookup (int_keyed Try.underlying40) Try.underlying64 (Try.zeroValue75 w) (zd := .nil) (zp := []) rfl (keyOf_int_mk Try.underlying40 (kl_wf hx.1 hx.2))
  subst hk
  have e := h2.live k c hc hr .nil
  rw [show Lit.int .i64 ((k : Int) + 1) = kl (k + 1) from rfl, e] at hv
  obtain rfl := ptrR_at hv
  exact hr2
theorem picture_out (w : World) (S P A M : Nat) (l : List Sh) (L : List Pc) (h : SM w S P A M l L) (x : Int) (hx : rng x) (hd : Dead L x) :
    Calls Try.prog 37 #[.pointer (some ⟨S, 0, none⟩), .int .i64 x] w fun e w' => e = .returned (.pointer none) ∧ w = w' := by
  have hrun := look_out w S P A M l L h x hx hd
  have hc := h.c3
  clear h hd
  go_enter Try.func37, Try.ntmps37
  go_wp2
  go_ret
  exact ⟨rfl, rfl⟩
theorem picture_in (w : World) (S P A M : Nat) (l : List Sh) (L : List Pc) (h : SM w S P A M l L) (x : Int) (hx : rng x) (k : Nat) (c : Pc) (hk : x = k + 1) (hc : L[k]? = some c) (hr : 0 < c.r) :
    Calls Try.prog 37 #[.pointer (some ⟨S, 0, none⟩), .int .i64 x] w fun e w' => e = .returned (.pointer (some ⟨c.b, 0, none⟩)) ∧ w = w' := by
  have hrun := look_in w S P A M l L h x hx k c hk hc hr
  have hc3 := h.c3
  clear h hk hc
  go_enter Try.func37, Try.ntmps37
  go_wp2
  go_ret
  exact ⟨rfl, rfl⟩
/-- a number of a cell -/
def ceB (i : Int) : Bool := decide (0 ≤ i) && decide (i < 32)
theorem iscell_any (i : Int) (w : World) :
    Calls Try.prog 39 #[.int .i64 i] w fun e w' => e = .returned (.bool (ceB i)) ∧ w = w' := by
  by_cases h0 : 0 ≤ i
  · by_cases h1 : i < 32
    · have HP : Hid (ceB i = true) := by unfold Hid ceB; simp [h0, h1]
      go_enter Try.func39, Try.ntmps39
      go_wp2
      go_ret
      exact ⟨ret_bo HP.out.symm, rfl⟩
    · have HP : Hid (ceB i = false) := by unfold Hid ceB; simp [h1]
      go_enter Try.func39, Try.ntmps39
      go_wp2
      go_ret
      exact ⟨ret_bo HP.out.symm, rfl⟩
  · have HP : Hid (ceB i = false) := by unfold Hid ceB; simp [h0]
    go_enter Try.func39, Try.ntmps39
    go_wp2
    go_ret
    exact ⟨ret_bo HP.out.symm, rfl⟩
/-! ### Refs, Room -/
theorem srefs_nil (x : Int) (w : World) :
    Calls Try.prog 26 #[.pointer none, .int .i64 x] w fun e w' => e = .returned (.int .i64 0) ∧ w = w' := by
  have HU := Lib.hid (picture_nil x w)
  go_enter Try.func26, Try.ntmps26
  go_wp2_with (go_at_call 37; with_reducible refine HU.out.mono ?_; rintro e w1 ⟨rfl, rfl⟩)
  go_ret
  exact ⟨rfl, rfl⟩
theorem srefs_out (w : World) (S P A M : Nat) (l : List Sh) (L : List Pc) (h : SM w S P A M l L) (x : Int) (hx : rng x) (hd : Dead L x) :
    Calls Try.prog 26 #[.pointer (some ⟨S, 0, none⟩), .int .i64 x] w fun e w' => e = .returned (.int .i64 0) ∧ w = w' := by
  have HU := Lib.hid (picture_out w S P A M l L h x hx hd)
  clear h hd
  go_enter Try.func26, Try.ntmps26
  go_wp2_with (go_at_call 37; with_reducible refine HU.out.mono ?_; rintro e w1 ⟨rfl, rfl⟩)
  go_ret
  exact ⟨rfl, rfl⟩
theorem srefs_in (w : World) (S P A M : Nat) (l : List Sh) (L : List Pc) (h : SM w S P A M l L) (x : Int) (hx : rng x) (k : Nat) (c : Pc) (hk : x = k + 1) (hc : L[k]? = some c) (hr : 0 < c.r) :
    Calls Try.prog 26 #[.pointer (some ⟨S, 0, none⟩), .int .i64 x] w fun e w' => e = .returned (.int .i64 c.r) ∧ w = w' := by
  have HU := Lib.hid (picture_in w S P A M l L h x hx k c hk hc hr)
  have hp := (h.pics k c hc hr).1.r
  clear h hk hc
  generalize c.r = r at *
  go_enter Try.func26, Try.ntmps26
  go_wp2_with (go_at_call 37; with_reducible refine HU.out.mono ?_; rintro e w1 ⟨rfl, rfl⟩)
  go_ret
  exact ⟨rfl, rfl⟩
theorem room_nil (w : World) :
    Calls Try.prog 21 #[.pointer none] w fun e w' => e = .returned (.pointer none) ∧ w = w' := by
  go_enter Try.func21, Try.ntmps21
  go_wp2
  go_ret
  exact ⟨rfl, rfl⟩
theorem room_any (w : World) (S P A M : Nat) (l : List Sh) (L : List Pc) (h : SM w S P A M l L) :
    Calls Try.prog 21 #[.pointer (some ⟨S, 0, none⟩)] w fun e w' => e = .returned (.pointer (some ⟨P, 0, none⟩)) ∧ w = w' := by
  have hc := h.c0
  clear h
  go_enter Try.func21, Try.ntmps21
  go_wp2
  go_ret
  exact ⟨rfl, rfl⟩
/-! ### Hold -/
theorem shold_nil (x : Int) (w : World) :
    Calls Try.prog 24 #[.pointer none, .int .i64 x] w fun e w' => e = .returned (.bool false) ∧ w = w' := by
  have HU := Lib.hid (picture_nil x w)
  go_enter Try.func24, Try.ntmps24
  go_wp2_with (go_at_call 37; with_reducible refine HU.out.mono ?_; rintro e w1 ⟨rfl, rfl⟩)
  go_ret
  exact ⟨rfl, rfl⟩
theorem shold_out (w : World) (S P A M : Nat) (l : List Sh) (L : List Pc) (h : SM w S P A M l L) (x : Int) (hx : rng x) (hd : Dead L x) :
    Calls Try.prog 24 #[.pointer (some ⟨S, 0, none⟩), .int .i64 x] w fun e w' => e = .returned (.bool false) ∧ w = w' := by
  have HU := Lib.hid (picture_out w S P A M l L h x hx hd)
  clear h hd
  go_enter Try.func24, Try.ntmps24
  go_wp2_with (go_at_call 37; with_reducible refine HU.out.mono ?_; rintro e w1 ⟨rfl, rfl⟩)
  go_ret
  exact ⟨rfl, rfl⟩
theorem PB.setR {w : World} {c : Pc} (h : PB w c) (r : Int) : PB (w.setCell ⟨c.b, 0, none⟩ (.int .i64 r)) ⟨c.b, r, c.on⟩ := by
  unfold PB at *
  simp only [World.setCell, Array.getElem?_modify, h, if_true, Option.map_some]
  rfl
theorem pc_r {L : List Pc} {k : Nat} {c : Pc} (w : World) (S P A M : Nat) (l : List Sh) (h : SM w S P A M l L) (hc : L[k]? = some c) (hr : 0 < c.r) (r : Int) (h0 : 0 < r) :
    Upt w (w.setCell ⟨c.b, 0, none⟩ (.int .i64 r)) S P A M L l (L.set k ⟨c.b, r, c.on⟩) :=
  h.pic hc hr ⟨c.b, r, c.on⟩ rfl h0 ((h.pics k c hc hr).1.setR r) (grown_st w _ _)
theorem shold_in (w : World) (S P A M : Nat) (l : List Sh) (L : List Pc) (h : SM w S P A M l L) (x : Int) (hx : rng x) (k : Nat) (c : Pc) (hk : x = k + 1) (hc : L[k]? = some c) (hr : 0 < c.r) (hr1 : c.r ≤ 1000000) (L' : List Pc) (hL : L' = L.set k ⟨c.b, c.r + 1, c.on⟩) :
    Calls Try.prog 24 #[.pointer (some ⟨S, 0, none⟩), .int .i64 x] w fun e w' => e = .returned (.bool true) ∧ Upt w w' S P A M L l L' := by
  subst hL
  have HU := Lib.hid (picture_in w S P A M l L h x hx k c hk hc hr)
  have hp := (h.pics k c hc hr).1.r
  have hf := (h.pics k c hc hr).1.fz 0
  have HQ := Lib.hid (pc_r w S P A M l h hc hr (c.r + 1) (by omega))
  generalize c.r = r at *
  clear h hk hc
  go_enter Try.func24, Try.ntmps24
  go_wp2_with (go_at_call 37; with_reducible refine HU.out.mono ?_; rintro e w1 ⟨rfl, rfl⟩)
  go_ret
  exact ⟨rfl, HQ.out⟩
/-! ### Has -/
theorem below_drewNq {B : Nat} {w w' : World} (h : Below B w w') : ∀ n, Below B w (w'.drewN n)
  | 0 => h
  | n + 1 => (below_drewNq h n).drew
theorem has_nil (n : Int) (w : World) :
    Calls Try.prog 28 #[.pointer none, .int .i64 n] w fun e w' => e = .returned (.bool false) ∧ Below w.heap.size w w' := by
  go_enter Try.func28, Try.ntmps28
  go_wp2_with fail
  go_quiet (fail)
  go_wp2
  go_ret
  exact ⟨rfl, below_drewNq (Below.refl _ _) _⟩
theorem has_any (w : World) (S P A M : Nat) (l : List Sh) (L : List Pc) (h : SM w S P A M l L) (n : Int) (hn : -1000000 ≤ n ∧ n ≤ 1000000) (b : Bool) (hb : b = decide (n ≤ (l.length : Int) - (usedN l : Nat))) :
    Calls Try.prog 28 #[.pointer (some ⟨S, 0, none⟩), .int .i64 n] w fun e w' => e = .returned (.bool b) ∧ Below w.heap.size w w' := by
  have h200 := h.rm.len
  have hul := usedN_le l
  have HU := Lib.hid (used_any w.drew P A l h.rm.drew _ rfl)
  have c0 := h.drew.c0
  have c1 := h.drew.c1
  have HO := Lib.hid (fun W (hb : Below w.drew.heap.size w.drew W) => And.intro ((hb.cell (p := ⟨S, 0, none⟩) (cell_lt c0)).trans c0) ((hb.cell (p := ⟨S, 1, none⟩) (cell_lt c1)).trans c1))
  have hN : ((l.length : Nat) : Int) ≤ 200 := by omega
  have hN0 : (0 : Int) ≤ ((l.length : Nat) : Int) := by omega
  have hU : ((usedN l : Nat) : Int) ≤ 200 := by omega
  have hU0 : (0 : Int) ≤ ((usedN l : Nat) : Int) := by omega
  clear h h200 hul
  generalize ((l.length : Nat) : Int) = N at *
  generalize ((usedN l : Nat) : Int) = U at *
  have HB := Lib.hid hb
  have hwr : Hid (IntKind.i64.wrap (N - U) = N - U) := by rw [Hid, IntKind.wrap_i64]; omega
  clear hb
  go_enter Try.func28, Try.ntmps28
  go_wp2_with fail
  go_region_held3 (fun w' => w'.cell? ⟨S, 0, none⟩ = some (.pointer (some ⟨P, 0, none⟩)) ∧ w'.cell? ⟨S, 1, none⟩ = some (.int .i64 N)) (first | exact ⟨by assumption, by assumption⟩ | go_keep)
    (first | (go_at_call 22; with_reducible refine HU.out.mono ?_; rintro e w4 ⟨rfl, hbu⟩; obtain ⟨p0, p1⟩ := HO.out _ hbu))
  go_wp2
  go_ret
  exact ⟨by rw [HB.out, hwr.out]; rfl, (Below.refl _ w).drew.trans hbu⟩
end Go.Proofs.Ytkmkjfbbpeocdaa
