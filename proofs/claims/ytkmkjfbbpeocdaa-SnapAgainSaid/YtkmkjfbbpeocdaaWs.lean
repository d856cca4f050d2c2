/- WALKS: SnapHolds, SnapAgain. -/
import Derived.Test.YtkmkjfbbpeocdaaWp
namespace Go.Proofs.Ytkmkjfbbpeocdaa
set_option maxRecDepth 100000
open Go.RowKit Go.Maps
set_option linter.unusedVariables false
set_option linter.unusedSimpArgs false

/-- a store whose m pictures are all gone -/
def Gone (w0 w : World) (S P A M N m : Nat) : Prop := ∃ (l : List Sh) (L : List Pc), LS w0 w S P A M l L ∧ (∀ (j : Nat) (d : Pc), L[j]? = some d → ¬ 0 < d.r) ∧ l.length = N ∧ L.length = m
theorem Gone.belows {w0 w w' : World} {S P A M N m : Nat} (h : Gone w0 w S P A M N m) (hb : Below w.heap.size w w') : Gone w0 w' S P A M N m := by
  obtain ⟨l, L, h1, h2⟩ := h
  exact ⟨l, L, h1.belows hb, h2⟩
theorem Gone.be {w0 w : World} {S P A M N m : Nat} (h : Gone w0 w S P A M N m) : Below w0.heap.size w0 w := by
  obtain ⟨l, L, h1, h2⟩ := h
  exact h1.be
theorem Emp.gone {w0 w : World} {S P A M N : Nat} (h : Emp w0 w S P A M N) : Gone w0 w S P A M N 0 := by
  obtain ⟨l, h1, h2, h3⟩ := h
  exact ⟨l, [], h1, fun j d hj => by simp at hj, h3, rfl⟩
/-- m pictures gone, one there -/
def OneG (w0 w : World) (S P A M N m : Nat) : Prop := ∃ (l : List Sh) (L : List Pc) (c : Pc), LS w0 w S P A M l (L ++ [c]) ∧ (∀ (j : Nat) (d : Pc), L[j]? = some d → ¬ 0 < d.r) ∧ c.r = 1 ∧ l.length = N ∧ L.length = m
theorem t_makeG {w0 w : World} {S P A M N m : Nat} (h : Gone w0 w S P A M N m) (hN : 4 ≤ N) (hm : m ≤ 900) (g : List Int) (hg : g.length = 32) (x : Int) (hx : x = (m : Int) + 1) :
    Calls Try.prog 16 #[.pointer (some ⟨S, 0, none⟩), .agg (gC g)] w fun e w' => e = .returned (.tuple #[.int .i64 x, .bool true]) ∧ OneG w0 w' S P A M N m := by
  obtain ⟨l, L, h1, h2, h3, h4⟩ := h
  refine (make_hit w S P A M l L h1.sm h1.inv (by rw [h1.inv.used0 h2]; omega) (by omega) g hg x (by omega)).mono fun e w' ⟨he, l', f, b, U, Md⟩ => ?_
  exact ⟨he, l', L, ⟨b, 1, f⟩, h1.upt U (Md.inv h1.inv b), h2, rfl, Md.len.trans h3, h4⟩
theorem t_dropG {w0 w : World} {S P A M N m : Nat} (h : OneG w0 w S P A M N m) (hm : m ≤ 900) (x : Int) (hx : x = (m : Int) + 1) :
    Calls Try.prog 20 #[.pointer (some ⟨S, 0, none⟩), .int .i64 x] w fun e w' => e = .returned (.bool true) ∧ Gone w0 w' S P A M N (m + 1) := by
  obtain ⟨l, L, c, h1, h2, h3, h4, h5⟩ := h
  have hk : (L ++ [c])[m]? = some c := by rw [← h5]; exact get_new L c
  refine (sdrop_last w S P A M l _ h1.sm h1.inv (by simp; omega) x ⟨by omega, by omega⟩ m c hx hk h3).mono fun e w' ⟨he, l', U, T⟩ => ?_
  refine ⟨he, l', _, h1.upt U (drop_inv h1.inv hk (by omega) T ⟨c.b, 0, c.on⟩ rfl), fun j d hj hd => ?_, T.len.trans h4, by simp [h5]⟩
  rcases get_set hk hj with ⟨_, rfl⟩ | ⟨hn, hj2⟩
  · exact absurd hd (show ¬ (0 : Int) < 0 by omega)
  · rcases get_snoc hj2 with h6 | ⟨h6, _⟩
    · exact h2 j d h6 hd
    · omega
theorem t_roomG {w0 w : World} {S P A M N m : Nat} (h : Gone w0 w S P A M N m) :
    Calls Try.prog 21 #[.pointer (some ⟨S, 0, none⟩)] w fun e w' => e = .returned (.pointer (some ⟨P, 0, none⟩)) ∧ Gone w0 w' S P A M N m := by
  have h0 := h
  obtain ⟨l, L, h1, h2⟩ := h
  exact (room_any w S P A M l _ h1.sm).mono fun e w' ⟨he, hw⟩ => ⟨he, hw ▸ h0⟩
theorem t_usedG {w0 w : World} {S P A M N m : Nat} (h : Gone w0 w S P A M N m) :
    Calls Try.prog 22 #[.pointer (some ⟨P, 0, none⟩)] w fun e w' => e = .returned (.int .i64 0) ∧ Gone w0 w' S P A M N m := by
  have h0 := h
  obtain ⟨l, L, h1, h2⟩ := h
  exact (used_any w P A l h1.sm.rm 0 (by rw [h1.inv.used0 h2.1]; rfl)).mono fun e w' ⟨he, hb⟩ => ⟨he, h0.belows hb⟩
theorem Gone.dead {w0 w : World} {S P A M N m : Nat} {l : List Sh} {L : List Pc} (h2 : ∀ (j : Nat) (d : Pc), L[j]? = some d → ¬ 0 < d.r) (x : Int) : Dead L x := fun k c _ hk => h2 k c hk
theorem t_stateG {w0 w : World} {S P A M N m : Nat} (h : Gone w0 w S P A M N m) (x : Int) (hx : rng x) :
    Calls Try.prog 19 #[.pointer (some ⟨S, 0, none⟩), .int .i64 x] w fun e w' => e = .returned (.tuple #[.agg (gC (zG 32)), .bool false]) ∧ Gone w0 w' S P A M N m := by
  have h0 := h
  obtain ⟨l, L, h1, h2⟩ := h
  exact (sstate_out w S P A M l L h1.sm x hx (fun k c _ hk => h2.1 k c hk)).mono fun e w' ⟨he, hb⟩ => ⟨he, h0.belows hb⟩
theorem t_liveG {w0 w : World} {S P A M N m : Nat} (h : Gone w0 w S P A M N m) (hm : m ≤ 900) :
    Calls Try.prog 25 #[.pointer (some ⟨S, 0, none⟩)] w fun e w' => ∃ p cap, e = .returned (.slice p 0 cap) ∧ Gone w0 w' S P A M N m := by
  have h0 := h
  obtain ⟨l, L, h1, h2, h3, h4⟩ := h
  have hl : liveIds L = [] := by
    cases e : liveIds L with
    | nil => rfl
    | cons a t =>
      obtain ⟨k, c, _, h5, h6⟩ := (liveIds_mem L a).1 (by rw [e]; simp)
      exact absurd h6 (h2 k c h5)
  refine (live_any w S P A M l L h1.sm (by omega)).mono fun e w' ⟨v, he, ho, hb⟩ => ?_
  rw [hl] at ho
  rcases ho.2 with ⟨hv, _⟩ | ⟨gg, cap, cur, hv, _⟩
  · exact ⟨none, 0, by rw [he, hv], h0.belows hb⟩
  · exact ⟨_, cap, by rw [he, hv]; rfl, h0.belows hb⟩
theorem t_getG {w0 w : World} {S P A M N m : Nat} (h : Gone w0 w S P A M N m) (x i : Int) (hx : rng x) :
    Calls Try.prog 23 #[.pointer (some ⟨S, 0, none⟩), .int .i64 x, .int .i64 i] w fun e w' => e = .returned (.tuple #[.int .i32 0, .bool false]) ∧ Gone w0 w' S P A M N m := by
  have h0 := h
  obtain ⟨l, L, h1, h2⟩ := h
  exact (sget_out w S P A M l L h1.sm x i hx (fun k c _ hk => h2.1 k c hk)).mono fun e w' ⟨he, hw⟩ => ⟨he, hw ▸ h0⟩
theorem t_dropnoG {w0 w : World} {S P A M N m : Nat} (h : Gone w0 w S P A M N m) (x : Int) (hx : rng x) :
    Calls Try.prog 20 #[.pointer (some ⟨S, 0, none⟩), .int .i64 x] w fun e w' => e = .returned (.bool false) ∧ Gone w0 w' S P A M N m := by
  have h0 := h
  obtain ⟨l, L, h1, h2⟩ := h
  exact (sdrop_out w S P A M l L h1.sm x hx (fun k c _ hk => h2.1 k c hk)).mono fun e w' ⟨he, hw⟩ => ⟨he, hw ▸ h0⟩
theorem t_holdnoG {w0 w : World} {S P A M N m : Nat} (h : Gone w0 w S P A M N m) (x : Int) (hx : rng x) :
    Calls Try.prog 24 #[.pointer (some ⟨S, 0, none⟩), .int .i64 x] w fun e w' => e = .returned (.bool false) ∧ Gone w0 w' S P A M N m := by
  have h0 := h
  obtain ⟨l, L, h1, h2⟩ := h
  exact (shold_out w S P A M l L h1.sm x hx (fun k c _ hk => h2.1 k c hk)).mono fun e w' ⟨he, hw⟩ => ⟨he, hw ▸ h0⟩
theorem t_refsnoG {w0 w : World} {S P A M N m : Nat} (h : Gone w0 w S P A M N m) (x : Int) (hx : rng x) :
    Calls Try.prog 26 #[.pointer (some ⟨S, 0, none⟩), .int .i64 x] w fun e w' => e = .returned (.int .i64 0) ∧ Gone w0 w' S P A M N m := by
  have h0 := h
  obtain ⟨l, L, h1, h2⟩ := h
  exact (srefs_out w S P A M l L h1.sm x hx (fun k c _ hk => h2.1 k c hk)).mono fun e w' ⟨he, hw⟩ => ⟨he, hw ▸ h0⟩
theorem t_hasG {w0 w : World} {S P A M N m : Nat} (h : Gone w0 w S P A M N m) (n : Int) (hn : -1000000 ≤ n ∧ n ≤ 1000000) (bb : Bool) (hb : bb = decide (n ≤ (N : Int))) :
    Calls Try.prog 28 #[.pointer (some ⟨S, 0, none⟩), .int .i64 n] w fun e w' => e = .returned (.bool bb) ∧ Gone w0 w' S P A M N m := by
  have h0 := h
  obtain ⟨l, L, h1, h2, h3, h4⟩ := h
  exact (has_any w S P A M l _ h1.sm n hn bb (by rw [hb, h3, h1.inv.used0 h2]; simp)).mono fun e w' ⟨he, hb⟩ => ⟨he, h0.belows hb⟩
theorem t_hold1 {w0 w : World} {S P A M N : Nat} {r : Int} {g : List Int} (h : One w0 w S P A M N r g) (hr : 0 < r) (hr1 : r ≤ 1000) (r' : Int) (hr' : r' = r + 1) :
    Calls Try.prog 24 #[.pointer (some ⟨S, 0, none⟩), .int .i64 1] w fun e w' => e = .returned (.bool true) ∧ One w0 w' S P A M N r' g := by
  subst hr'
  obtain ⟨l, b, f, h1, h2, h3⟩ := h
  exact (shold_in w S P A M l _ h1.sm 1 ⟨by omega, by omega⟩ 0 ⟨b, r, f⟩ rfl rfl hr (show r ≤ 1000000 by omega) _ rfl).mono fun e w' ⟨he, U⟩ => ⟨he, l, b, f, h1.upt U (turn_inv h1.inv (k := 0) (c := ⟨b, r, f⟩) rfl hr (r + 1) (by omega) b), h2, h3⟩
theorem t_refs1 {w0 w : World} {S P A M N : Nat} {r : Int} {g : List Int} (h : One w0 w S P A M N r g) (hr : 0 < r) :
    Calls Try.prog 26 #[.pointer (some ⟨S, 0, none⟩), .int .i64 1] w fun e w' => e = .returned (.int .i64 r) ∧ One w0 w' S P A M N r g := by
  have h0 := h
  obtain ⟨l, b, f, h1, h2⟩ := h
  exact (srefs_in w S P A M l _ h1.sm 1 ⟨by omega, by omega⟩ 0 ⟨b, r, f⟩ rfl rfl hr).mono fun e w' ⟨he, hw⟩ => ⟨he, hw ▸ h0⟩
theorem t_dropm1 {w0 w : World} {S P A M N : Nat} {r : Int} {g : List Int} (h : One w0 w S P A M N r g) (hr : 1 < r) (hr1 : r ≤ 1000) (r' : Int) (hr' : r' = r - 1) :
    Calls Try.prog 20 #[.pointer (some ⟨S, 0, none⟩), .int .i64 1] w fun e w' => e = .returned (.bool true) ∧ One w0 w' S P A M N r' g := by
  subst hr'
  obtain ⟨l, b, f, h1, h2, h3⟩ := h
  exact (sdrop_more w S P A M l _ h1.sm 1 ⟨by omega, by omega⟩ 0 ⟨b, r, f⟩ rfl rfl hr (show r ≤ 1000000 by omega) _ rfl).mono fun e w' ⟨he, U⟩ => ⟨he, l, b, f, h1.upt U (turn_inv h1.inv (k := 0) (c := ⟨b, r, f⟩) rfl (show 0 < r by omega) (r - 1) (by omega) b), h2, h3⟩
theorem t_dropl1 {w0 w : World} {S P A M N : Nat} {g : List Int} (h : One w0 w S P A M N 1 g) :
    Calls Try.prog 20 #[.pointer (some ⟨S, 0, none⟩), .int .i64 1] w fun e w' => e = .returned (.bool true) ∧ Gone w0 w' S P A M N 1 := by
  obtain ⟨l, b, f, h1, h2, h3⟩ := h
  exact t_dropG (m := 0) ⟨l, [], ⟨b, 1, f⟩, h1, fun j d hj => by simp at hj, rfl, h3, rfl⟩ (by omega) 1 rfl
theorem made_new {W w3 : World} {o : Obj} (R : (W.alloc o).grownBy w3 (some W.heap.size)) : Below W.heap.size W w3 := ((Below.refl _ _).alloc (Nat.le_refl _) o).grown R (by simp) (fun k e => by have := Option.some.inj e; omega)
set_option maxHeartbeats 4000000 in
theorem holds_law (n : Int) (w : World) (n0 : -9223372036854775808 ≤ n) (n1 : n ≤ 9223372036854775807) :
    Calls Try.prog 10 #[.int .i64 n] w fun e w' => e = .returned (.bool true) ∧ Below w.heap.size w w' := by
  have HBg := Lib.hid (begun11_any w)
  by_cases hneg : n < 0
  · go_enter Try.func10, Try.ntmps10
    go_wp2_with (go_at_call 11; with_reducible refine HBg.out.mono ?_; rintro e wa ⟨rfl, hb⟩)
    go_ret
    exact ⟨rfl, hb⟩
  · by_cases hbig : n > 30
    · go_enter Try.func10, Try.ntmps10
      go_wp2_with (go_at_call 11; with_reducible refine HBg.out.mono ?_; rintro e wa ⟨rfl, hb⟩)
      go_ret
      exact ⟨rfl, hb⟩
    · have HNew := Lib.hid (fun W => t_new 2 (by omega) 2 rfl W 8 rfl)
      have HOn := Lib.hid of_nil
      have z32 := Lib.hid (zG_length 32)
      go_enter Try.func10, Try.ntmps10
      go_wp2_with (first
        | (go_at_call 11; with_reducible refine HBg.out.mono ?_; rintro e wa ⟨rfl, hb⟩; have HB0 := Lib.hid hb; clear hb)
        | (go_at_call 12; with_reducible refine (HNew.out _).mono ?_; rintro e w1 ⟨S, P, A, M, rfl, E⟩; have HE := Lib.hid E; clear E)
        | (go_at_call 15; with_reducible refine (HOn.out _).mono ?_; rintro e w2 ⟨rfl, hb⟩; replace HE := Lib.hid (HE.out.belows hb); clear hb)
        | (go_at_call 16; with_reducible refine (t_make1 HE.out (by omega) (zG 32) z32.out).mono ?_; rintro e w3 ⟨rfl, E⟩; have HO := Lib.hid E; clear E HE))
      go_loopw [7] (fun i wr => ∃ z : Int, i = .int .i64 z ∧ 0 ≤ z ∧ z ≤ n ∧ Hid (One wa wr S P A M 8 (z + 1) (zG 32))) (fun i _ => (n - numI i).toNat)
      case atStart => exact ⟨0, rfl, by omega, by omega, HO⟩
      case round =>
        obtain ⟨z, rfl, hz0, hz1, hO⟩ := hrel
        by_cases hlt : z < n
        · have HHo := Lib.hid (t_hold1 hO.out (by omega) (by omega) (z + 1 + 1) rfl)
          go_wp2_with (go_at_call 24; with_reducible refine HHo.out.mono ?_; rintro e w4 ⟨rfl, E⟩; have HO4 := Lib.hid E; clear E)
          go_roundw
          case rel => exact ⟨z + 1, rfl, by omega, by omega, HO4⟩
          case measure => simp [numI]; omega
        · obtain rfl : z = n := by omega
          clear hlt
          go_wp2_with fail
          go_loopw [8] (fun i wr2 => ∃ y : Int, i = .int .i64 y ∧ 0 ≤ y ∧ y ≤ z + 1 ∧ Hid ((y ≤ z ∧ One wa wr2 S P A M 8 (z + 1 - y) (zG 32)) ∨ (y = z + 1 ∧ Gone wa wr2 S P A M 8 1))) (fun i _ => (z + 1 - numI i).toNat)
          case atStart => exact ⟨0, rfl, by omega, by omega, .inl ⟨by omega, by rw [Int.sub_zero]; exact hO.out⟩⟩
          case round =>
            obtain ⟨y, rfl, hy0, hy1, hK⟩ := hrel
            by_cases hle : y ≤ z
            · have HO := Lib.hid ((hK.out.resolve_right (fun e => by omega)).2)
              have HRf := Lib.hid (t_refs1 HO.out (by omega))
              by_cases hlast : y = z
              · have HDr : Hid (∀ W, One wa W S P A M 8 (z + 1 - y) (zG 32) → Calls Try.prog 20 #[.pointer (some ⟨S, 0, none⟩), .int .i64 1] W fun e w' => e = .returned (.bool true) ∧ Gone wa w' S P A M 8 1) := fun W E => t_dropl1 (show One wa W S P A M 8 1 (zG 32) by rw [show (1 : Int) = z + 1 - y by omega]; exact E)
                have HY := Lib.hid hlast
                clear hlast
                go_wp2_with (first
                  | (go_at_call 26; with_reducible refine HRf.out.mono ?_; rintro e w4 ⟨rfl, E⟩; have HO4 := Lib.hid E; clear E)
                  | (go_at_call 20; with_reducible refine (HDr.out _ HO4.out).mono ?_; rintro e w5 ⟨rfl, E⟩; have HG5 := Lib.hid E; clear E))
                go_roundw
                case rel => exact ⟨y + 1, rfl, by omega, by omega, .inr ⟨by rw [HY.out], HG5.out⟩⟩
                case measure => simp [numI]; omega
              · have HDr := Lib.hid (fun W (E : One wa W S P A M 8 (z + 1 - y) (zG 32)) => t_dropm1 E (by omega) (by omega) (z + 1 - (y + 1)) (by omega))
                go_wp2_with (first
                  | (go_at_call 26; with_reducible refine HRf.out.mono ?_; rintro e w4 ⟨rfl, E⟩; have HO4 := Lib.hid E; clear E)
                  | (go_at_call 20; with_reducible refine (HDr.out _ HO4.out).mono ?_; rintro e w5 ⟨rfl, E⟩; have HG5 := Lib.hid E; clear E))
                go_roundw
                case rel => exact ⟨y + 1, rfl, by omega, by omega, .inl ⟨by omega, HG5.out⟩⟩
                case measure => simp [numI]; omega
            · have HG := Lib.hid ((hK.out.resolve_left (fun e => by omega)).2)
              have hr1 : rng 1 := ⟨by omega, by omega⟩
              go_wp2_with (first
                | (go_at_call 23; with_reducible refine (t_getG HG.out 1 0 hr1).mono ?_; rintro e w6 ⟨rfl, E⟩; replace HG := Lib.hid E; clear E)
                | (go_at_call 20; with_reducible refine (t_dropnoG HG.out 1 hr1).mono ?_; rintro e w6 ⟨rfl, E⟩; replace HG := Lib.hid E; clear E)
                | (go_at_call 24; with_reducible refine (t_holdnoG HG.out 1 hr1).mono ?_; rintro e w6 ⟨rfl, E⟩; replace HG := Lib.hid E; clear E)
                | (go_at_call 26; with_reducible refine (t_refsnoG HG.out 1 hr1).mono ?_; rintro e w6 ⟨rfl, E⟩; replace HG := Lib.hid E; clear E)
                | (go_at_call 25; with_reducible refine (t_liveG HG.out (by omega)).mono ?_; rintro e w6 ⟨lp, lc, rfl, E⟩; replace HG := Lib.hid E; clear E)
                | (go_at_call 21; with_reducible refine (t_roomG HG.out).mono ?_; rintro e w6 ⟨rfl, E⟩; replace HG := Lib.hid E; clear E)
                | (go_at_call 22; with_reducible refine (t_usedG HG.out).mono ?_; rintro e w6 ⟨rfl, E⟩; replace HG := Lib.hid E; clear E)
                | (go_at_call 28; with_reducible refine (t_hasG HG.out 8 (by omega) true rfl).mono ?_; rintro e w6 ⟨rfl, E⟩; replace HG := Lib.hid E; clear E))
              go_ret
              exact ⟨rfl, HB0.out.trans (HG.out.be.mono HB0.out.size)⟩

set_option maxHeartbeats 4000000 in
theorem again_law (n : Int) (w : World) (n0 : -9223372036854775808 ≤ n) (n1 : n ≤ 9223372036854775807) :
    Calls Try.prog 7 #[.int .i64 n] w fun e w' => e = .returned (.bool true) ∧ Below w.heap.size w w' := by
  have HBg := Lib.hid (begun11_any w)
  by_cases hneg : n < 0
  · go_enter Try.func7, Try.ntmps7
    go_wp2_with (go_at_call 11; with_reducible refine HBg.out.mono ?_; rintro e wa ⟨rfl, hb⟩)
    go_ret
    exact ⟨rfl, hb⟩
  · by_cases hbig : n > 60
    · go_enter Try.func7, Try.ntmps7
      go_wp2_with (go_at_call 11; with_reducible refine HBg.out.mono ?_; rintro e wa ⟨rfl, hb⟩)
      go_ret
      exact ⟨rfl, hb⟩
    · have HNew := Lib.hid (fun W => t_new 1 (by omega) 1 rfl W 4 rfl)
      have hbd := buildState
      have hz := zeroState
      have z32 := Lib.hid (zG_length 32)
      go_enter Try.func7, Try.ntmps7
      go_wp2_with (first
        | (go_at_call 11; with_reducible refine HBg.out.mono ?_; rintro e wa ⟨rfl, hb⟩; have HB0 := Lib.hid hb; clear hb)
        | (go_at_call 12; with_reducible refine (HNew.out _).mono ?_; rintro e w1 ⟨S, P, A, M, rfl, E⟩; have HE := Lib.hid E.gone; clear E))
      go_loopw [5, 6] (fun la i wr => ∃ (z : Int) (m : Nat), i = .int .i64 z ∧ la = .int .i64 z ∧ 0 ≤ z ∧ z ≤ n ∧ Hid (z = m) ∧ Hid (Gone wa wr S P A M 4 m)) (fun _ i _ => (n - numI i).toNat)
      case atStart => exact ⟨0, 0, rfl, rfl, by omega, by omega, rfl, HE⟩
      case round =>
        obtain ⟨z, m, rfl, rfl, hz0, hz1, HZ, hG⟩ := hrel
        by_cases hlt : z < n
        · have hm9 : Hid (m ≤ 900) := by rw [Hid]; have := HZ.out; omega
          have HMk := Lib.hid (t_makeG hG.out (by omega) hm9.out (zG 32) z32.out (z + 1) (by rw [HZ.out]))
          have HDr := Lib.hid (fun W (E : OneG wa W S P A M 4 m) => t_dropG E hm9.out (z + 1) (by rw [HZ.out]))
          have hrz : rng z := ⟨by omega, by omega⟩
          have hne : (z + 1 == z) = false := by simp; omega
          have hpos : decide (z + 1 ≤ 0) = false := by simp; omega
          go_wp2_with (first
            | (go_at_call 16; with_reducible refine HMk.out.mono ?_; rintro e w4 ⟨rfl, E⟩; have HO4 := Lib.hid E; clear E)
            | (go_at_call 20; with_reducible refine (HDr.out _ HO4.out).mono ?_; rintro e w5 ⟨rfl, E⟩; have HG := Lib.hid E; clear E)
            | (go_at_call 21; with_reducible refine (t_roomG HG.out).mono ?_; rintro e w6 ⟨rfl, E⟩; replace HG := Lib.hid E; clear E)
            | (go_at_call 22; with_reducible refine (t_usedG HG.out).mono ?_; rintro e w6 ⟨rfl, E⟩; replace HG := Lib.hid E; clear E)
            | (go_at_call 19; with_reducible refine (t_stateG HG.out z hrz).mono ?_; rintro e w6 ⟨rfl, E⟩; replace HG := Lib.hid E; clear E)
            | (with_reducible refine wpList_store_g rfl 38 (.tmp 9) (.tmp 59) rfl _ (by with_unfolding_all rfl) 38 (zG 32) (zG 32) (GA.new _ _ _) (by with_unfolding_all rfl) rfl (by rw [z32.out]; exact infoState) ?_; intro w7 G7 S7 R7; replace HG := Lib.hid (HG.out.belows (made_new R7)); clear G7 S7 R7))
          go_roundw
          case rel => exact ⟨z + 1, m + 1, rfl, rfl, by omega, by omega, by rw [Hid, HZ.out]; simp, HG⟩
          case measure => simp [numI]; omega
        · have hm9 : Hid (m ≤ 900) := by rw [Hid]; have := HZ.out; omega
          have HL := Lib.hid (t_liveG hG.out hm9.out)
          go_wp2_with (go_at_call 25; with_reducible refine HL.out.mono ?_; rintro e w6 ⟨lp, lc, rfl, E⟩; have HG6 := Lib.hid E; clear E)
          go_ret
          exact ⟨rfl, HB0.out.trans (HG6.out.be.mono HB0.out.size)⟩
end Go.Proofs.Ytkmkjfbbpeocdaa
