/- WALKS over package snap: Fork, Drop. -/
import Derived.Test.YtkmkjfbbpeocdaaWf
namespace Go.Proofs.Ytkmkjfbbpeocdaa
set_option maxRecDepth 100000
open Go.RowKit Go.Maps
set_option linter.unusedVariables false
set_option linter.unusedSimpArgs false

/-- the pages f 0 .. f (i - 1) are held d more -/
structure TurnN (d : Int) (l l' : List Sh) (f : Nat → Int) (i : Nat) : Prop where
  len : l'.length = l.length
  all : ∀ p, pg l' p = ⟨(pg l p).r + d * hasN f p i, (pg l p).on⟩
theorem TurnN.start (d : Int) (l : List Sh) (f : Nat → Int) : TurnN d l l f 0 := ⟨rfl, fun p => by
  show pg l p = ⟨(pg l p).r + d * 0, _⟩
  rw [Int.mul_zero, Int.add_zero]⟩
theorem TurnN.step {d : Int} {l l' : List Sh} {f : Nat → Int} {i : Nat} (h : TurnN d l l' f i) (k : Nat) (hk : k < l'.length) (hf : f i = k + 1) (r : Int) (hr : r = (shAt l' k).r + d) : TurnN d l (l'.set k ⟨r, (shAt l' k).on⟩) f (i + 1) := by
  subst hr
  refine ⟨by rw [List.length_set]; exact h.len, fun p => ?_⟩
  rw [pg_set hk _ (f i) hf]
  unfold hasN
  by_cases e : p = f i
  · subst e
    rw [if_pos rfl, if_pos rfl]
    have := h.all (f i)
    rw [pg_at l' _ k hf] at this
    rw [this]
    simp only [Int.mul_add]
    rw [Int.mul_one, Int.add_assoc]
  · rw [if_neg e, if_neg (fun x => e x.symm), Int.add_zero]
    exact h.all p
theorem TurnN.gm {d : Int} {l l' : List Sh} {f : Nat → Int} {i : Nat} (h : TurnN d l l' f i) (f2 : Nat → Int) : gmL l' f2 = gmL l f2 := gmL_congr _ _ _ _ (fun a _ j _ => by rw [h.all])
theorem fork_inv {l l' : List Sh} {L : List Pc} (I : INV l L) {k : Nat} {c : Pc} (hk : L[k]? = some c) (hr : 0 < c.r) (h : TurnN 1 l l' c.on 4) (b : Nat) : INV l' (L ++ [⟨b, 1, c.on⟩]) := by
  refine ⟨fun p => ?_, fun j d hj hd => ?_, fun j d hj => ?_⟩
  · rw [cnt_append, h.all, show pcN ⟨b, 1, c.on⟩ p = hasN c.on p 4 from if_pos (show (0 : Int) < 1 by omega), ← I.cnt, Int.one_mul]
  · rcases get_snoc hj with h1 | ⟨_, rfl⟩
    · exact I.dist j d h1 hd
    · exact I.dist k c hk hr
  · rcases get_snoc hj with h1 | ⟨_, rfl⟩
    · exact I.nn j d h1
    · show (0 : Int) ≤ 1; omega
theorem fork_used {l l' : List Sh} {L : List Pc} (I : INV l L) {k : Nat} {c : Pc} (hk : L[k]? = some c) (hr : 0 < c.r) (h : TurnN 1 l l' c.on 4) : usedN l' = usedN l := by
  rw [usedP_len l]
  refine used_eq l' _ (usedP_nodup l) (fun p => ?_)
  rw [usedP_mem, h.all]
  have hn := hasN_nn c.on p 4
  simp only [Int.one_mul]
  constructor
  · intro h1; omega
  · intro h1
    by_cases e : 0 < hasN c.on p 4
    · obtain ⟨i, hi, rfl⟩ := (hasN_pos c.on p 4).1 e
      have := I.has hk hr hi; omega
    · omega
theorem drop_inv {l l' : List Sh} {L : List Pc} (I : INV l L) {k : Nat} {c : Pc} (hk : L[k]? = some c) (hr : 0 < c.r) (h : TurnN (-1) l l' c.on 4) (d : Pc) (hd : d.r = 0) : INV l' (L.set k d) := by
  refine ⟨fun p => ?_, fun j e hj he => ?_, fun j e hj => ?_⟩
  · rw [cnt_set L k c d p hk, h.all, show pcN c p = hasN c.on p 4 from if_pos hr, show pcN d p = 0 from if_neg (by omega), ← I.cnt]
    simp only; omega
  · rcases get_set hk hj with ⟨_, rfl⟩ | ⟨_, h1⟩
    · omega
    · exact I.dist j e h1 he
  · rcases get_set hk hj with ⟨_, rfl⟩ | ⟨_, h1⟩
    · omega
    · exact I.nn j e h1
/-- a picture held more or less, still live -/
theorem turn_inv {l : List Sh} {L : List Pc} (I : INV l L) {k : Nat} {c : Pc} (hk : L[k]? = some c) (hr : 0 < c.r) (r : Int) (h0 : 0 < r) (b : Nat) : INV l (L.set k ⟨b, r, c.on⟩) := by
  refine ⟨fun p => ?_, fun j e hj he => ?_, fun j e hj => ?_⟩
  · rw [cnt_set L k c _ p hk, show pcN c p = hasN c.on p 4 from if_pos hr, show pcN ⟨b, r, c.on⟩ p = hasN c.on p 4 from if_pos h0, ← I.cnt]; omega
  · rcases get_set hk hj with ⟨_, rfl⟩ | ⟨_, h1⟩
    · exact I.dist k c hk hr
    · exact I.dist j e h1 he
  · rcases get_set hk hj with ⟨_, rfl⟩ | ⟨_, h1⟩
    · show (0 : Int) ≤ r; omega
    · exact I.nn j e h1
theorem fork_nil (x : Int) (w : World) :
    Calls Try.prog 17 #[.pointer none, .int .i64 x] w fun e w' => e = .returned (.tuple #[.int .i64 0, .bool false]) ∧ w = w' := by
  have HU := Lib.hid (picture_nil x w)
  go_enter Try.func17, Try.ntmps17
  go_wp2_with (go_at_call 37; with_reducible refine HU.out.mono ?_; rintro e w1 ⟨rfl, rfl⟩)
  go_ret2
  exact ⟨rfl, rfl⟩
theorem fork_out (w : World) (S P A M : Nat) (l : List Sh) (L : List Pc) (h : SM w S P A M l L) (x : Int) (hx : rng x) (hd : Dead L x) :
    Calls Try.prog 17 #[.pointer (some ⟨S, 0, none⟩), .int .i64 x] w fun e w' => e = .returned (.tuple #[.int .i64 0, .bool false]) ∧ w = w' := by
  have HU := Lib.hid (picture_out w S P A M l L h x hx hd)
  clear h hd
  go_enter Try.func17, Try.ntmps17
  go_wp2_with (go_at_call 37; with_reducible refine HU.out.mono ?_; rintro e w1 ⟨rfl, rfl⟩)
  go_ret2
  exact ⟨rfl, rfl⟩
theorem upd_tr {w w1 w2 : World} {P A : Nat} {l1 l2 : List Sh} (U : Upd w w1 P A l1) (V : Upd w1 w2 P A l2) : Hid (Upd w w2 P A l2) := ⟨V.rm, grown_tr U.gr V.gr⟩
set_option maxHeartbeats 2000000 in
theorem fork_in (w : World) (S P A M : Nat) (l : List Sh) (L : List Pc) (h : SM w S P A M l L) (I : INV l L) (hL : L.length ≤ 1000) (x : Int) (hx : rng x) (k : Nat) (c : Pc) (hk : x = k + 1) (hc : L[k]? = some c) (hr : 0 < c.r) (y : Int) (hy : y = L.length + 1) :
    Calls Try.prog 17 #[.pointer (some ⟨S, 0, none⟩), .int .i64 x] w fun e w' => e = .returned (.tuple #[.int .i64 y, .bool true]) ∧ ∃ l' b, Upt w w' S P A M L l' (L ++ [⟨b, 1, c.on⟩]) ∧ TurnN 1 l l' c.on 4 := by
  have HU := Lib.hid (picture_in w S P A M l L h x hx k c hk hc hr)
  have HH := Lib.hid h
  have HI := Lib.hid I
  have HL := Lib.hid hL
  have HY := Lib.hid hy
  have HPB := Lib.hid (h.pics k c hc hr).1
  have HC := Lib.hid hc
  have HR := Lib.hid hr
  clear h I hL hk hc hr hy
  go_enter Try.func17, Try.ntmps17
  go_wp2_with (first
    | (go_at_call 37; with_reducible refine HU.out.mono ?_; rintro e w1 ⟨rfl, rfl⟩)
    | (with_reducible refine wpList_load_q4 rfl 67 (.tmp 16) rfl c.b 1 (by with_unfolding_all rfl) c.on HPB.out.range Try.underlying67 infoQ4 ?_))
  go_loopw [18] (fun i wr => ∃ (j : Nat) (l' : List Sh), i = .int .i64 j ∧ j ≤ 4 ∧ Hid (TurnN 1 l l' c.on j) ∧ Hid (Upd w wr P A l')) (fun i _ => 4 - (intOf i).toNat)
  case atStart => exact ⟨0, l, rfl, by omega, TurnN.start 1 l c.on, ⟨HH.out.rm, grown_be (Below.refl _ _)⟩⟩
  case round =>
    obtain ⟨j, l', rfl, hj, hT, hU⟩ := hrel
    have HM := Lib.hid (HH.out.room hU.out hT.out.len)
    by_cases hlt : j < 4
    · have hjc : (j : Int) < 4 := by omega
      obtain ⟨q, hq, hql, hqe⟩ := HI.out.at HC.out HR.out hlt
      have hix := index_q4 c.on j hlt wr
      have cs := HM.out.sm.c0
      have hql' : q < l'.length := by rw [hT.out.len]; exact hql
      have hrq : (shAt l' q).r = (pg l (c.on j)).r + hasN c.on (c.on j) j := by
        have := hT.out.all (c.on j)
        rw [pg_at l' _ q hq] at this
        rw [this, Int.one_mul]
      have h1 := HI.out.has HC.out HR.out hlt
      have h2 := HI.out.le (c.on j)
      have h3 := hasN_nn c.on (c.on j) j
      have h4 := HL.out
      have HHo := Lib.hid (hold_in wr P A l' hU.out.rm (c.on j) q hq hql' (by omega) (by omega) (by omega) _ rfl)
      have HT2 := Lib.hid (hT.out.step q hql' hq ((shAt l' q).r + 1) rfl)
      clear hq hql hqe hql' hrq h1 h2 h3 h4
      go_wp2_with (go_at_call 38; with_reducible refine HHo.out.mono ?_; rintro e w4 ⟨rfl, U⟩; have HU4 := upd_tr hU.out U; clear U)
      go_roundw
      case rel => exact ⟨j + 1, _, by go_num, by omega, HT2, HU4⟩
      case measure => simp [intOf]; omega
    · obtain rfl : j = 4 := by omega
      have HPB2 := Lib.hid (HM.out.sm.pics k c HC.out HR.out).1
      have HAdd := Lib.hid (add_any wr S P A M l' L HM.out.sm HL.out c.on y HY.out)
      go_wp2_with (first
        | (with_reducible refine wpList_load_q4 rfl 67 (.tmp 31) rfl c.b 1 (by with_unfolding_all rfl) c.on HPB2.out.range Try.underlying67 infoQ4 ?_)
        | (go_at_call 36; with_reducible refine HAdd.out.mono ?_; rintro e w5 ⟨rfl, b, U5⟩))
      go_ret2
      exact ⟨rfl, l', b, HM.out.trans U5, hT.out⟩
/-! ### Drop -/
theorem sdrop_nil (x : Int) (w : World) :
    Calls Try.prog 20 #[.pointer none, .int .i64 x] w fun e w' => e = .returned (.bool false) ∧ w = w' := by
  have HU := Lib.hid (picture_nil x w)
  go_enter Try.func20, Try.ntmps20
  go_wp2_with (go_at_call 37; with_reducible refine HU.out.mono ?_; rintro e w1 ⟨rfl, rfl⟩)
  go_ret
  exact ⟨rfl, rfl⟩
theorem sdrop_out (w : World) (S P A M : Nat) (l : List Sh) (L : List Pc) (h : SM w S P A M l L) (x : Int) (hx : rng x) (hd : Dead L x) :
    Calls Try.prog 20 #[.pointer (some ⟨S, 0, none⟩), .int .i64 x] w fun e w' => e = .returned (.bool false) ∧ w = w' := by
  have HU := Lib.hid (picture_out w S P A M l L h x hx hd)
  clear h hd
  go_enter Try.func20, Try.ntmps20
  go_wp2_with (go_at_call 37; with_reducible refine HU.out.mono ?_; rintro e w1 ⟨rfl, rfl⟩)
  go_ret
  exact ⟨rfl, rfl⟩
theorem sdrop_more (w : World) (S P A M : Nat) (l : List Sh) (L : List Pc) (h : SM w S P A M l L) (x : Int) (hx : rng x) (k : Nat) (c : Pc) (hk : x = k + 1) (hc : L[k]? = some c) (hr : 1 < c.r) (hr1 : c.r ≤ 1000000) (L' : List Pc) (hL : L' = L.set k ⟨c.b, c.r - 1, c.on⟩) :
    Calls Try.prog 20 #[.pointer (some ⟨S, 0, none⟩), .int .i64 x] w fun e w' => e = .returned (.bool true) ∧ Upt w w' S P A M L l L' := by
  subst hL
  have hr0 : 0 < c.r := by omega
  have HU := Lib.hid (picture_in w S P A M l L h x hx k c hk hc hr0)
  have hp := (h.pics k c hc hr0).1.r
  have hf := (h.pics k c hc hr0).1.fz 0
  have HQ := Lib.hid (pc_r w S P A M l h hc hr0 (c.r - 1) (by omega))
  generalize c.r = r at *
  clear h hk hc
  go_enter Try.func20, Try.ntmps20
  go_wp2_with (go_at_call 37; with_reducible refine HU.out.mono ?_; rintro e w1 ⟨rfl, rfl⟩)
  go_ret
  exact ⟨rfl, HQ.out⟩

/-- the store behind a picture's end -/
theorem SM.drop {w w3 : World} {S P A M : Nat} {l l' : List Sh} {L : List Pc} (h : SM w S P A M l L) {k : Nat} {c : Pc} (hk : L[k]? = some c) (hr : 0 < c.r) (d : Pc) (hd : ¬ 0 < d.r) (R : RM w3 P A l') (hl : l'.length = l.length)
    (g : Chg w w3 (fun b => b = c.b ∨ b = A ∨ b = M)) (hm : ∃ D, w3.ownsMap Try.prog 40 ptrR M L.length D ∧ MapOf D (L.set k d)) : Upt w w3 S P A M L l' (L.set k d) := by
  have hne := (h.pics k c hk hr).2
  refine ⟨⟨?_, R, ?_, fun j e hj he => ?_, fun i j e f hi hj h1 h2 hef => ?_, h.ne⟩, ⟨g.os, g.tape, g.output, g.size, fun b hb hx => g.block b hb (fun hy => hx ?_)⟩, fun b hb => .inl ?_⟩
  · rw [g.block S h.ltS (fun e => e.elim (fun e => hne.1 e.symm) (fun e => e.elim h.ne.2.1 h.ne.2.2.1)), hl, List.length_set]; exact h.row
  · obtain ⟨D, h1, h2⟩ := hm
    exact ⟨D, by rw [List.length_set]; exact h1, h2⟩
  · rcases get_set hk hj with ⟨_, rfl⟩ | ⟨hn, h1⟩
    · exact absurd he hd
    · have h2 := h.pics j e h1 he
      exact ⟨(g.block e.b h2.1.lt (fun x => x.elim (fun x => hn (h.inj j k e c h1 hk he hr x)) (fun x => x.elim h2.2.2.2.1 h2.2.2.2.2))).trans h2.1, h2.2⟩
  · rcases get_set hk hi with ⟨_, rfl⟩ | ⟨_, h3⟩
    · exact absurd h1 hd
    · rcases get_set hk hj with ⟨_, rfl⟩ | ⟨_, h4⟩
      · exact absurd h2 hd
      · exact h.inj i j e f h3 h4 h1 h2 hef
  · rcases hy with rfl | rfl | rfl
    · exact .inr (.inr (.inr (.inr ⟨k, c, hk, hr, rfl⟩)))
    · exact .inr (.inr (.inl rfl))
    · exact .inr (.inr (.inr (.inl rfl)))
  · rcases hb with h1 | h1 | h1 | h1 | ⟨j, e, hj, he, rfl⟩
    · exact .inl h1
    · exact .inr (.inl h1)
    · exact .inr (.inr (.inl h1))
    · exact .inr (.inr (.inr (.inl h1)))
    · rcases get_set hk hj with ⟨_, rfl⟩ | ⟨_, h1⟩
      · exact absurd he hd
      · exact .inr (.inr (.inr (.inr ⟨j, e, h1, he, rfl⟩)))
/-- what Drop's loop holds -/
structure DrL (w wr : World) (P A : Nat) (c : Pc) (l' : List Sh) : Prop where
  rm : RM wr P A l'
  chg : Chg w wr (fun b => b = c.b ∨ b = A)
theorem DrL.upd {w wr w4 : World} {P A : Nat} {c : Pc} {l' l2 : List Sh} (h : DrL w wr P A c l') (U : Upd wr w4 P A l2) : Hid (DrL w w4 P A c l2) :=
  ⟨U.rm, h.chg.trans (.of_grown U.gr (X := fun b => b = c.b ∨ b = A) (.inr rfl)) (fun b hb => .inl hb)⟩
theorem DrL.start {w : World} {S P A M : Nat} {l : List Sh} {L : List Pc} (h : SM w S P A M l L) {k : Nat} {c : Pc} (hk : L[k]? = some c) (hr : 0 < c.r) : DrL w (w.setCell ⟨c.b, 0, none⟩ (.int .i64 0)) P A c l := by
  have hne := (h.pics k c hk hr).2
  have g := grown_st w ⟨c.b, 0, none⟩ (.int .i64 0)
  exact ⟨h.rm.grown g (fun e => hne.2.1 (Option.some.inj e).symm) (fun e => hne.2.2.1 (Option.some.inj e).symm), .of_grown g (.inl rfl)⟩
theorem DrL.c0 {w wr : World} {S P A M : Nat} {l : List Sh} {L : List Pc} (h : SM w S P A M l L) {k : Nat} {c : Pc} (hk : L[k]? = some c) (hr : 0 < c.r) {l' : List Sh} (D : DrL w wr P A c l') : wr.cell? ⟨S, 0, none⟩ = some (.pointer (some ⟨P, 0, none⟩)) ∧ wr.cell? ⟨S, 3, none⟩ = some (.map (some M)) := by
  have hne := (h.pics k c hk hr).2
  have e := D.chg.block S h.ltS (fun e => e.elim (fun e => hne.1 e.symm) h.ne.2.1)
  exact ⟨(World.cell?_of_block (w := w) (a := ⟨S, 0, none⟩) e).trans h.c0, (World.cell?_of_block (w := w) (a := ⟨S, 3, none⟩) e).trans h.c3⟩
set_option maxHeartbeats 2000000 in
theorem sdrop_last (w : World) (S P A M : Nat) (l : List Sh) (L : List Pc) (h : SM w S P A M l L) (I : INV l L) (hL : L.length ≤ 1000) (x : Int) (hx : rng x) (k : Nat) (c : Pc) (hk : x = k + 1) (hc : L[k]? = some c) (hr : c.r = 1) :
    Calls Try.prog 20 #[.pointer (some ⟨S, 0, none⟩), .int .i64 x] w fun e w' => e = .returned (.bool true) ∧ ∃ l', Upt w w' S P A M L l' (L.set k ⟨c.b, 0, c.on⟩) ∧ TurnN (-1) l l' c.on 4 := by
  have hr0 : 0 < c.r := by omega
  have HU := Lib.hid (picture_in w S P A M l L h x hx k c hk hc hr0)
  have hp := (h.pics k c hc hr0).1.r
  rw [hr] at hp
  have hf := (h.pics k c hc hr0).1.fz 0
  have HPB : Hid (PB (w.setCell ⟨c.b, 0, none⟩ (.int .i64 0)) ⟨c.b, 0, c.on⟩) := (h.pics k c hc hr0).1.setR 0
  have HD0 := Lib.hid (DrL.start h hc hr0)
  have HH := Lib.hid h
  have HI := Lib.hid I
  have HL := Lib.hid hL
  have HC := Lib.hid hc
  have HR := Lib.hid hr0
  have HK := Lib.hid hk
  have hkey : keyOf Try.prog 40 (.int .i64 x) = some (.int .i64 x) := keyOf_int_mk Try.underlying40 (kl_wf hx.1 hx.2)
  clear h I hL hk hc hr hr0
  go_enter Try.func20, Try.ntmps20
  go_wp2_with (first
    | (go_at_call 37; with_reducible refine HU.out.mono ?_; rintro e w1 ⟨rfl, rfl⟩)
    | (with_reducible refine wpList_load_q4 rfl 67 (.tmp 27) rfl c.b 1 (by with_unfolding_all rfl) c.on HPB.out.range Try.underlying67 infoQ4 ?_))
  go_loopw [29] (fun i wr => ∃ (j : Nat) (l' : List Sh), i = .int .i64 j ∧ j ≤ 4 ∧ Hid (TurnN (-1) l l' c.on j) ∧ Hid (DrL w wr P A c l')) (fun i _ => 4 - (intOf i).toNat)
  case atStart => exact ⟨0, l, rfl, by omega, TurnN.start (-1) l c.on, HD0⟩
  case round =>
    obtain ⟨j, l', rfl, hj, hT, hD⟩ := hrel
    obtain ⟨cs0, cs3⟩ := hD.out.c0 HH.out HC.out HR.out
    by_cases hlt : j < 4
    · have hjc : (j : Int) < 4 := by omega
      obtain ⟨q, hq, hql, hqe⟩ := HI.out.at HC.out HR.out hlt
      have hix := index_q4 c.on j hlt wr
      have hql' : q < l'.length := by rw [hT.out.len]; exact hql
      have h0 : hasN c.on (c.on j) j = 0 := hasN_zero _ _ _ (fun a ha e => by have := HI.out.dist k c HC.out HR.out a j (by omega) hlt e; omega)
      have hrq : (shAt l' q).r = (pg l (c.on j)).r := by
        have := hT.out.all (c.on j)
        rw [pg_at l' _ q hq, h0] at this
        rw [this]; simp
      have h1 := HI.out.has HC.out HR.out hlt
      have h2 := HI.out.le (c.on j)
      have h4 := HL.out
      have HHo := Lib.hid (drop_in wr P A l' hD.out.rm (c.on j) q hq hql' (by omega) (by omega) (by omega) _ rfl)
      have HT2 := Lib.hid (hT.out.step q hql' hq ((shAt l' q).r - 1) rfl)
      clear hq hql hqe hql' hrq h0 h1 h2 h4
      go_wp2_with (go_at_call 44; with_reducible refine HHo.out.mono ?_; rintro e w4 ⟨rfl, U⟩; have HU4 := hD.out.upd U; clear U)
      go_roundw
      case rel => exact ⟨j + 1, _, by go_num, by omega, HT2, HU4⟩
      case measure => simp [intOf]; omega
    · obtain rfl : j = 4 := by omega
      obtain ⟨D, hD1, hD2⟩ := HH.out.map
      have hne := (HH.out.pics k c HC.out HR.out).2
      have hown : wr.ownsMap Try.prog 40 ptrR M L.length D := ownsMap_same hD1 (hD.out.chg.block M HH.out.ltM (fun e => e.elim (fun e => hne.2.2.2 e.symm) (fun e => HH.out.ne.2.2.2.2 e.symm)))
      have HO := Lib.hid hown
      have HMo := Lib.hid (hD2.del HC.out ⟨c.b, 0, c.on⟩ (show ¬ (0 : Int) < 0 by omega) x HK.out)
      clear hown hD1 hD2 hne
      go_wp2_with (at_delete; refine wpList_delete_own _ rfl _ _ 64 40 rfl 75 (int_keyed Try.underlying40) Try.underlying64 ptrR M L.length D rfl HO.out _ _ rfl hkey ?_; intro w5 hown5 hturn5; have HO5 := Lib.hid hown5; have HT5 := Lib.hid hturn5; clear hown5 hturn5)
      go_ret
      refine ⟨rfl, l', HH.out.drop HC.out HR.out ⟨c.b, 0, c.on⟩ (show ¬ (0 : Int) < 0 by omega) (hD.out.rm.grown HT5.out.grown (fun e => HH.out.ne.2.2.2.1 (Option.some.inj e)) (fun e => HH.out.ne.2.2.2.2 (Option.some.inj e))) hT.out.len ?_ ⟨_, HO5.out, HMo.out⟩, hT.out⟩
      exact ⟨HT5.out.grown.os.trans hD.out.chg.os, HT5.out.grown.tape.trans hD.out.chg.tape, HT5.out.grown.output.trans hD.out.chg.output, Nat.le_trans hD.out.chg.size HT5.out.grown.size, fun b hb hx => (HT5.out.grown.block b (Nat.lt_of_lt_of_le hb hD.out.chg.size) (fun e => hx (.inr (.inr (Option.some.inj e))))).trans (hD.out.chg.block b hb (fun e => hx (e.imp id .inl)))⟩
end Go.Proofs.Ytkmkjfbbpeocdaa
