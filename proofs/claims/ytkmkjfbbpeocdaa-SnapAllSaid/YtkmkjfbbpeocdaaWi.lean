/- Pictures written, plain; WALKS over package snap: own, Set. -/
import Derived.Test.YtkmkjfbbpeocdaaWh
namespace Go.Proofs.Ytkmkjfbbpeocdaa
set_option maxRecDepth 100000
open Go.RowKit Go.Maps
set_option linter.unusedVariables false
set_option linter.unusedSimpArgs false

theorem hasN_put (f : Nat → Int) (a : Nat) (q p : Int) : ∀ i, a < i → hasN (shPut f a q) p i + (if f a = p then 1 else 0) = hasN f p i + (if q = p then 1 else 0)
  | 0, h => by omega
  | i + 1, h => by
    unfold hasN
    by_cases e : a = i
    · subst e
      have e1 : shPut f a q a = q := by unfold shPut; rw [if_pos rfl]
      have e2 : ∀ m, m ≤ a → hasN (shPut f a q) p m = hasN f p m := by
        intro m
        induction m with
        | zero => intro _; rfl
        | succ m ih =>
          intro hm
          unfold hasN
          rw [ih (by omega)]
          have : shPut f a q m = f m := by unfold shPut; rw [if_neg (by omega)]
          rw [this]
      rw [e1, e2 a (Nat.le_refl _)]; omega
    · have := hasN_put f a q p i (by omega)
      have e1 : shPut f a q i = f i := by unfold shPut; rw [if_neg (fun x => e x.symm)]
      rw [e1]; omega
/-- a page was made a picture's own by a copy -/
structure OwnN (l l' : List Sh) (n q : Int) : Prop where
  len : l'.length = l.length
  used : usedN l' = usedN l + 1
  fresh : (pg l q).r = 0
  all : ∀ p, pg l' p = if p = q then ⟨1, (pg l n).on⟩ else if p = n then ⟨(pg l n).r - 1, (pg l n).on⟩ else pg l p
theorem OwnN.mk' {l : List Sh} {n q : Int} {kn kf : Nat} (hn : n = kn + 1) (hq : q = kf + 1) (hkn : kn < l.length) (hkf : kf < l.length) (h0 : (shAt l kf).r = 0) (h2 : 2 ≤ (shAt l kn).r) (l1 : List Sh) (h1 : l1 = l.set kf ⟨1, (shAt l kn).on⟩) (r : Int) (hr : r = (shAt l1 kn).r - 1) :
    OwnN l (l1.set kn ⟨r, (shAt l1 kn).on⟩) n q := by
  have hne : kn ≠ kf := fun e => by subst e; omega
  subst h1
  have e1 : shAt (l.set kf ⟨1, (shAt l kn).on⟩) kn = shAt l kn := by rw [shAt_set hkf, if_neg hne]
  rw [e1] at hr ⊢
  subst hr
  have hl1 : kn < (l.set kf (⟨1, (shAt l kn).on⟩ : Sh)).length := by rw [List.length_set]; exact hkn
  refine ⟨by rw [List.length_set, List.length_set], ?_, by rw [pg_at l q kf hq]; exact h0, fun p => ?_⟩
  · have u1 := usedN_set l kf hkf ⟨1, (shAt l kn).on⟩
    have u2 := usedN_set (l.set kf ⟨1, (shAt l kn).on⟩) kn hl1 ⟨(shAt l kn).r - 1, (shAt l kn).on⟩
    rw [h0, if_neg (by omega), if_pos (show (0 : Int) < 1 by omega)] at u1
    rw [e1, if_pos (by omega), if_pos (show (0 : Int) < (shAt l kn).r - 1 by omega)] at u2
    omega
  · rw [pg_set hl1 _ n hn, pg_set hkf _ q hq, pg_at l n kn hn]
    by_cases e : p = q
    · rw [if_pos e, if_neg (by omega), if_pos e]
    · rw [if_neg e, if_neg e]
theorem own_inv {l l' : List Sh} {L : List Pc} (I : INV l L) {k : Nat} {c : Pc} (hk : L[k]? = some c) (hr : 0 < c.r) {a : Nat} (ha : a < 4) {q : Int} (h : OwnN l l' (c.on a) q) : INV l' (L.set k ⟨c.b, c.r, shPut c.on a q⟩) := by
  have hfr : ∀ (j : Nat) (d : Pc), L[j]? = some d → 0 < d.r → ∀ i, i < 4 → d.on i ≠ q := fun j d hj hd i hi e => by have := I.has hj hd hi; rw [e, h.fresh] at this; omega
  have hlo : ∀ j, j ≠ a → shPut c.on a q j = c.on j := fun j hj => by unfold shPut; rw [if_neg hj]
  have hhi : shPut c.on a q a = q := by unfold shPut; rw [if_pos rfl]
  refine ⟨fun p => ?_, fun j e hj he => ?_, fun j e hj => ?_⟩
  · rw [cnt_set L k c _ p hk, show pcN c p = hasN c.on p 4 from if_pos hr, show pcN ⟨c.b, c.r, shPut c.on a q⟩ p = hasN (shPut c.on a q) p 4 from if_pos hr, ← I.cnt, h.all]
    have := hasN_put c.on a q p 4 ha
    by_cases e1 : p = q
    · subst e1
      rw [if_pos rfl]
      rw [if_neg (hfr k c hk hr a ha), if_pos (rfl : p = p)] at this
      have := h.fresh
      simp only; omega
    · have e1' : ¬ q = p := fun x => e1 x.symm
      rw [if_neg e1]
      rw [if_neg e1'] at this
      by_cases e2 : p = c.on a
      · subst e2
        rw [if_pos rfl]
        rw [if_pos (rfl : c.on a = c.on a)] at this
        simp only; omega
      · have e2' : ¬ c.on a = p := fun x => e2 x.symm
        rw [if_neg e2]
        rw [if_neg e2'] at this
        omega
  · rcases get_set hk hj with ⟨_, rfl⟩ | ⟨_, h1⟩
    · intro i m hi hm e
      simp only at e
      by_cases e1 : i = a
      · by_cases e2 : m = a
        · omega
        · rw [e1, hhi, hlo m e2] at e
          exact absurd e.symm (hfr k c hk hr m hm)
      · by_cases e2 : m = a
        · rw [e2, hhi, hlo i e1] at e
          exact absurd e (hfr k c hk hr i hi)
        · rw [hlo i e1, hlo m e2] at e
          exact I.dist k c hk hr i m hi hm e
    · exact I.dist j e h1 he
  · rcases get_set hk hj with ⟨_, rfl⟩ | ⟨_, h1⟩
    · exact I.nn k c hk
    · exact I.nn j e h1
/-- what a cell written leaves: a picture's pages f for its pages, its game turned at the one cell, the others' not -/
structure SetR (l l' : List Sh) (L : List Pc) (k : Nat) (c : Pc) (f : Nat → Int) (n : Nat) (v : Int) : Prop where
  inv : INV l' (L.set k ⟨c.b, c.r, f⟩)
  len : l'.length = l.length
  gm : gmL l' f = (gmL l c.on).set n v
  oth : ∀ (j : Nat) (d : Pc), j ≠ k → L[j]? = some d → 0 < d.r → gmL l' d.on = gmL l d.on
  used : usedN l' = usedN l + (if 1 < (pg l (c.on (n / 8))).r then 1 else 0)
  lo : ∀ j, j ≠ n / 8 → f j = c.on j
  alone : ¬ 1 < (pg l (c.on (n / 8))).r → f (n / 8) = c.on (n / 8)
  fresh : 1 < (pg l (c.on (n / 8))).r → (pg l (f (n / 8))).r = 0
theorem set_self {l : List Sh} {L : List Pc} (I : INV l L) {k : Nat} {c : Pc} (hk : L[k]? = some c) (hr : 0 < c.r) {a : Nat} (ha : a < 4) (h1 : (pg l (c.on a)).r = 1) {q : Nat} (hq : c.on a = q + 1) (hql : q < l.length) (s : Nat → Int) :
    INV (l.set q ⟨1, s⟩) L ∧ (∀ (j : Nat) (d : Pc), j ≠ k → L[j]? = some d → 0 < d.r → ∀ i, i < 4 → pg (l.set q ⟨1, s⟩) (d.on i) = pg l (d.on i)) ∧ (∀ i, i < 4 → i ≠ a → pg (l.set q ⟨1, s⟩) (c.on i) = pg l (c.on i)) := by
  have hp := fun p => pg_set hql (⟨1, s⟩ : Sh) (c.on a) hq p
  refine ⟨⟨fun p => ?_, I.dist, I.nn⟩, fun j d hj hd hdr i hi => ?_, fun i hi hn => ?_⟩
  · rw [hp, ← I.cnt]
    by_cases e : p = c.on a
    · rw [if_pos e, e, h1]
    · rw [if_neg e]
  · rw [hp, if_neg]
    intro e
    have h2 := cnt_ge2 L j k d c (c.on a) hd hk hj
    rw [← I.cnt, h1, show pcN d (c.on a) = hasN d.on (c.on a) 4 from if_pos hdr, show pcN c (c.on a) = hasN c.on (c.on a) 4 from if_pos hr] at h2
    have h3 := (hasN_pos d.on (c.on a) 4).2 ⟨i, hi, e⟩
    have h4 := (hasN_pos c.on (c.on a) 4).2 ⟨a, ha, rfl⟩
    omega
  · rw [hp, if_neg (fun e => hn (I.dist k c hk hr i a hi ha e))]
theorem setR_alone {l : List Sh} {L : List Pc} (I : INV l L) {k : Nat} {c : Pc} (hk : L[k]? = some c) (hr : 0 < c.r) {n : Nat} (hn : n < 32) (h1 : (pg l (c.on (n / 8))).r = 1) {q : Nat} (hq : c.on (n / 8) = q + 1) (hql : q < l.length) (v : Int) (r : Int) (hrr : r = 1) :
    SetR l (l.set q ⟨r, shPut (shAt l q).on (n % 8) v⟩) L k c c.on n v := by
  subst hrr
  obtain ⟨s1, s2, s3⟩ := set_self I hk hr (a := n / 8) (by omega) h1 hq hql (shPut (shAt l q).on (n % 8) v)
  have hL : L.set k ⟨c.b, c.r, c.on⟩ = L := by
    apply List.ext_getElem?
    intro j
    by_cases e : j = k
    · subst e; rw [get_put _ hk, hk]
    · rw [List.getElem?_set_ne (fun x => e x.symm)]
  refine ⟨by rw [hL]; exact s1, List.length_set .., ?_, fun j d hj hd hdr => gmL_congr _ _ _ _ (fun i hi m hm => by rw [s2 j d hj hd hdr i hi]), ?_, fun j hj => rfl, fun _ => rfl, fun h => by omega⟩
  · refine gmL_set _ _ _ _ n hn v (fun i hi j hj => ?_)
    by_cases e : i = n / 8
    · rw [e, pg_set hql _ _ hq, if_pos rfl, pg_at l _ q hq]
      show (if j = n % 8 then v else (shAt l q).on j) = _
      by_cases e2 : j = n % 8
      · rw [if_pos e2, if_pos ⟨rfl, e2⟩]
      · rw [if_neg e2, if_neg (fun x => e2 x.2)]
    · rw [s3 i hi e, if_neg (fun x => e x.1)]
  · have := usedN_set l q hql ⟨1, shPut (shAt l q).on (n % 8) v⟩
    rw [pg_at l _ q hq] at h1
    rw [h1, if_pos (show (0 : Int) < 1 by omega)] at this
    rw [pg_at l _ q hq, h1, if_neg (by omega)]; omega
theorem setR_copy {l l1 : List Sh} {L : List Pc} (I : INV l L) {k : Nat} {c : Pc} (hk : L[k]? = some c) (hr : 0 < c.r) {n : Nat} (hn : n < 32) (h2 : 1 < (pg l (c.on (n / 8))).r) {q : Int} (O : OwnN l l1 (c.on (n / 8)) q) {kq : Nat} (hq : q = kq + 1) (hql : kq < l1.length) (v : Int) (r : Int) (hrr : r = 1) :
    SetR l (l1.set kq ⟨r, shPut (shAt l1 kq).on (n % 8) v⟩) L k c (shPut c.on (n / 8) q) n v := by
  have I1 := own_inv I hk hr (a := n / 8) (by omega) O
  have hk1 := get_put (⟨c.b, c.r, shPut c.on (n / 8) q⟩ : Pc) hk
  have hhi : shPut c.on (n / 8) q (n / 8) = q := by unfold shPut; rw [if_pos rfl]
  have hlo : ∀ j, j ≠ n / 8 → shPut c.on (n / 8) q j = c.on j := fun j hj => by unfold shPut; rw [if_neg hj]
  have hfr : ∀ (j : Nat) (d : Pc), L[j]? = some d → 0 < d.r → ∀ i, i < 4 → d.on i ≠ q := fun j d hj hd i hi e => by have := I.has hj hd hi; rw [e, O.fresh] at this; omega
  have h1 : (pg l1 ((⟨c.b, c.r, shPut c.on (n / 8) q⟩ : Pc).on (n / 8))).r = 1 := by
    show (pg l1 (shPut c.on (n / 8) q (n / 8))).r = 1
    rw [hhi, O.all, if_pos rfl]
  have R := setR_alone I1 hk1 hr hn h1 (q := kq) (by show shPut c.on (n / 8) q (n / 8) = _; rw [hhi, hq]) hql v r hrr
  have honp : ∀ p, p ≠ q → (pg l1 p).on = (pg l p).on := fun p hp => by
    rw [O.all, if_neg hp]
    by_cases e : p = c.on (n / 8)
    · rw [if_pos e, e]
    · rw [if_neg e]
  refine ⟨?_, R.len.trans O.len, ?_, fun j d hj hd hdr => ?_, ?_, hlo, fun h => absurd h2 h, fun _ => by rw [hhi]; exact O.fresh⟩
  · have := R.inv
    rw [List.set_set] at this
    exact this
  · rw [R.gm]
    congr 1
    refine gmL_congr _ _ _ _ (fun i hi j hj => ?_)
    show (pg l1 (shPut c.on (n / 8) q i)).on j = _
    by_cases e : i = n / 8
    · rw [e, hhi, O.all, if_pos rfl]
    · rw [hlo i e, honp _ (hfr k c hk hr i hi)]
  · rw [R.oth j d hj (get_oth _ hj hd) hdr]
    exact gmL_congr _ _ _ _ (fun i hi m hm => by rw [honp _ (hfr j d hd hdr i hi)])
  · have := R.used
    rw [if_neg (by rw [h1]; omega), O.used] at this
    rw [if_pos h2, this]
/-! ### own -/
theorem PB.setOn {w : World} {c : Pc} (h : PB w c) (i : Nat) (hi : i < 4) (x : Int) : PB (w.setCell ⟨c.b, 1 + i, none⟩ (.int .i64 x)) ⟨c.b, c.r, shPut c.on i x⟩ := by
  unfold PB at *
  simp only [World.setCell, Array.getElem?_modify, h, if_true, Option.map_some]
  obtain rfl | rfl | rfl | rfl : i = 0 ∨ i = 1 ∨ i = 2 ∨ i = 3 := by omega
  all_goals rfl
theorem own_yes (w : World) (S P A M : Nat) (l : List Sh) (L : List Pc) (h : SM w S P A M l L) (k : Nat) (c : Pc) (hc : L[k]? = some c) (hr : 0 < c.r) (a : Nat) (ha : a < 4) (h1 : (pg l (c.on a)).r < 2) (h0 : 0 ≤ (pg l (c.on a)).r) (i : Int) (hi : i = a) :
    Calls Try.prog 40 #[.pointer (some ⟨S, 0, none⟩), .pointer (some ⟨c.b, 0, none⟩), .int .i64 i] w fun e w' => e = .returned (.bool true) ∧ w = w' := by
  have c0 := h.c0
  have cp := (h.pics k c hc hr).1.on a ha
  have HR := Lib.hid (refs_any w P A l h.rm (c.on a) _ rfl)
  subst hi
  have hac : (a : Int) < 4 := by omega
  generalize (pg l (c.on a)).r = r at *
  generalize c.on a = y at *
  clear h hc hr
  go_enter Try.func40, Try.ntmps40
  go_wp2_with (go_at_call 33; with_reducible refine HR.out.mono ?_; rintro e w1 ⟨rfl, rfl⟩)
  go_ret
  exact ⟨rfl, rfl⟩
theorem own_no (w : World) (S P A M : Nat) (l : List Sh) (L : List Pc) (h : SM w S P A M l L) (k : Nat) (c : Pc) (hc : L[k]? = some c) (hr : 0 < c.r) (a : Nat) (ha : a < 4) (h1 : ¬ (pg l (c.on a)).r < 2) (hfull : usedN l = l.length) (i : Int) (hi : i = a) :
    Calls Try.prog 40 #[.pointer (some ⟨S, 0, none⟩), .pointer (some ⟨c.b, 0, none⟩), .int .i64 i] w fun e w' => e = .returned (.bool false) ∧ Below w.heap.size w w' := by
  have c0 := h.c0
  have cp := (h.pics k c hc hr).1.on a ha
  have HR := Lib.hid (refs_any w P A l h.rm (c.on a) _ rfl)
  have HC := Lib.hid (copy_miss w P A l h.rm (c.on a) (full_all l hfull))
  subst hi
  have hac : (a : Int) < 4 := by omega
  generalize (pg l (c.on a)).r = r at *
  generalize c.on a = y at *
  clear h hc hr hfull
  go_enter Try.func40, Try.ntmps40
  go_wp2_with (first
    | (go_at_call 33; with_reducible refine HR.out.mono ?_; rintro e w1 ⟨rfl, rfl⟩)
    | (go_at_call 52; with_reducible refine HC.out.mono ?_; rintro e w2 ⟨rfl, hb⟩))
  go_ret
  exact ⟨rfl, hb⟩
set_option maxHeartbeats 1000000 in
theorem own_copy (w : World) (S P A M : Nat) (l : List Sh) (L : List Pc) (h : SM w S P A M l L) (I : INV l L) (hL : L.length ≤ 1000) (k : Nat) (c : Pc) (hc : L[k]? = some c) (hr : 0 < c.r) (a : Nat) (ha : a < 4) (h1 : ¬ (pg l (c.on a)).r < 2) (hfree : usedN l < l.length) (i : Int) (hi : i = a) :
    Calls Try.prog 40 #[.pointer (some ⟨S, 0, none⟩), .pointer (some ⟨c.b, 0, none⟩), .int .i64 i] w fun e w' => e = .returned (.bool true) ∧ ∃ l' q, OwnN l l' (c.on a) q ∧ (∃ kq : Nat, q = kq + 1 ∧ kq < l'.length) ∧ Upt w w' S P A M L l' (L.set k ⟨c.b, c.r, shPut c.on a q⟩) := by
  have c0 := h.c0
  have HH := Lib.hid h
  have cp := (h.pics k c hc hr).1.on a ha
  have HR := Lib.hid (refs_any w P A l h.rm (c.on a) _ rfl)
  obtain ⟨kn, hkn, hknl, hkne⟩ := I.at hc hr ha
  obtain ⟨kf, hkf, hkf0, hkfb⟩ := free_one l (pg_nn l I.nnr) hfree
  have hle := I.le (c.on a)
  rw [hkne] at h1 hle
  have HC := Lib.hid (copy_hit w P A l h.rm (c.on a) kn hkn hknl (by omega) kf hkf hkf0 hkfb (kf + 1) rfl _ rfl)
  have hne : kn ≠ kf := fun e => by subst e; omega
  have HO := Lib.hid (OwnN.mk' (q := (kf : Int) + 1) hkn rfl hknl hkf hkf0 (by omega) _ rfl _ rfl)
  have HD := Lib.hid (fun w1 (R1 : RM w1 P A (l.set kf ⟨1, (shAt l kn).on⟩)) => drop_in w1 P A _ R1 (c.on a) kn hkn (by rw [List.length_set]; exact hknl) (by rw [shAt_set hkf, if_neg hne]; omega) (by rw [shAt_set hkf, if_neg hne]; omega) (by rw [shAt_set hkf, if_neg hne]; omega) _ rfl)
  rw [hkne] at HR
  have HKF := Lib.hid hkf
  have HCc := Lib.hid hc
  have HRr := Lib.hid hr
  have HA := Lib.hid ha
  subst hi
  have hac : (a : Int) < 4 := by omega
  obtain ⟨y, hy⟩ : ∃ y, y = c.on a := ⟨_, rfl⟩
  have HY := Lib.hid hy
  rw [← hy] at cp HR HC HD HO
  clear hy h hc hr hkn hknl hkne hkf hkf0 hkfb hfree I hne
  generalize hrr : (shAt l kn).r = r at HR h1
  clear hrr
  go_enter Try.func40, Try.ntmps40
  go_wp2_with (first
    | (go_at_call 33; with_reducible refine HR.out.mono ?_; rintro e w1 ⟨rfl, rfl⟩)
    | (go_at_call 52; with_reducible refine HC.out.mono ?_; rintro e w2 ⟨rfl, U⟩; have HU2 := Lib.hid U; have HM2 := Lib.hid (HH.out.room U (List.length_set ..)); clear U; have d0 := HM2.out.sm.c0)
    | (go_at_call 44; with_reducible refine (HD.out _ HU2.out.rm).mono ?_; rintro e w3 ⟨rfl, U⟩; have HM3 := Lib.hid (HM2.out.sm.room U (List.length_set ..)); clear U; have dp := (HM3.out.sm.pics k c HCc.out HRr.out).1.on a HA.out; have df := (HM3.out.sm.pics k c HCc.out HRr.out).1.fz (1 + a)))
  go_ret
  refine ⟨rfl, _, _, HY.out ▸ HO.out, ⟨kf, rfl, by rw [List.length_set, List.length_set]; exact HKF.out⟩, (HM2.out.trans HM3.out).trans (HM3.out.sm.pic HCc.out HRr.out ⟨c.b, c.r, shPut c.on a (kf + 1)⟩ rfl HRr.out ((HM3.out.sm.pics k c HCc.out HRr.out).1.setOn a HA.out _) (grown_st _ _ _))⟩
end Go.Proofs.Ytkmkjfbbpeocdaa
