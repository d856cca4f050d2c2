/- SnapAll, plain: the law's book of pictures beside the program's. -/
import Derived.Test.YtkmkjfbbpeocdaaWx
namespace Go.Proofs.Ytkmkjfbbpeocdaa
set_option maxRecDepth 100000
open Go.RowKit Go.Maps
set_option linter.unusedVariables false
set_option linter.unusedSimpArgs false

/-- a picture of the book: how often it is held, its game, its pages by the book's numbers -/
structure Bp where
  r : Int
  g : List Int
  pn : Nat → Int
def bP (p : Bp) : Pc := ⟨0, p.r, p.pn⟩
def bcnt (B : List Bp) (a : Int) : Int := cnt (B.map bP) a
def bused (B : List Bp) (n : Nat) : Nat := ((List.range n).filter fun k : Nat => decide (0 < bcnt B ((k : Int) + 1))).length
theorem cnt_ext (x a : Int) : ∀ (L L' : List Pc), L.length = L'.length → (∀ (k : Nat) (c d : Pc), L[k]? = some c → L'[k]? = some d → pcN c x = pcN d a) → cnt L x = cnt L' a
  | [], [], _, _ => rfl
  | [], d :: t, h, _ => by simp at h
  | c :: t, [], h, _ => by simp at h
  | c :: t, d :: t', h, hk => by
    have h1 := hk 0 c d rfl rfl
    have h2 := cnt_ext x a t t' (by simpa using h) (fun k e f h3 h4 => hk (k + 1) e f (by simpa using h3) (by simpa using h4))
    simp only [cnt, h1, h2]
theorem bcnt_nn (B : List Bp) (a : Int) : 0 ≤ bcnt B a ∧ bcnt B a ≤ 4 * (B.length : Int) := by
  have := cnt_nn (B.map bP) a
  simpa [bcnt] using this
theorem bcnt_pos {B : List Bp} {a : Int} : 0 < bcnt B a ↔ ∃ (k : Nat) (p : Bp), B[k]? = some p ∧ 0 < p.r ∧ ∃ i, i < 4 ∧ p.pn i = a := by
  constructor
  · intro h
    obtain ⟨k, c, h1, h2, h3⟩ := cnt_pos _ _ h
    rw [List.getElem?_map] at h1
    cases e : B[k]? with
    | none => rw [e] at h1; cases h1
    | some p =>
      rw [e] at h1
      obtain rfl := Option.some.inj h1
      exact ⟨k, p, e, h2, h3⟩
  · rintro ⟨k, p, h1, h2, i, hi, rfl⟩
    have h3 : (B.map bP)[k]? = some (bP p) := by rw [List.getElem?_map, h1]; rfl
    have h4 := cnt_ge (B.map bP) k (bP p) (p.pn i) h3
    have h5 : pcN (bP p) (p.pn i) = hasN p.pn (p.pn i) 4 := if_pos h2
    have h6 := (hasN_pos p.pn (p.pn i) 4).2 ⟨i, hi, rfl⟩
    unfold bcnt; omega
/-- program and book tell the same: f takes the book's numbers of pages to the room's -/
structure BK (l : List Sh) (L : List Pc) (B : List Bp) (n : Nat) (f : Int → Int) : Prop where
  len : L.length = B.length
  each : ∀ (k : Nat) (c : Pc) (p : Bp), L[k]? = some c → B[k]? = some p → c.r = p.r ∧ (0 < c.r → gmL l c.on = p.g ∧ ∀ i, i < 4 → c.on i = f (p.pn i))
  rng : ∀ (k : Nat) (p : Bp), B[k]? = some p → 0 < p.r → ∀ i, i < 4 → 1 ≤ p.pn i ∧ p.pn i ≤ n
  inj : ∀ a b, 0 < bcnt B a → 0 < bcnt B b → f a = f b → a = b
theorem BK.cnt {l : List Sh} {L : List Pc} {B : List Bp} {n : Nat} {f : Int → Int} (h : BK l L B n f) {a : Int} (ha : 0 < bcnt B a) : Go.Proofs.Ytkmkjfbbpeocdaa.cnt L (f a) = bcnt B a := by
  refine cnt_ext _ _ _ _ (by simp [h.len]) (fun k c d hc hd => ?_)
  rw [List.getElem?_map] at hd
  cases e : B[k]? with
  | none => rw [e] at hd; cases hd
  | some p =>
    rw [e] at hd
    obtain rfl := Option.some.inj hd
    obtain ⟨h1, h2⟩ := h.each k c p hc e
    unfold pcN
    by_cases hr : 0 < c.r
    · rw [if_pos hr, if_pos (show 0 < (bP p).r by show 0 < p.r; omega)]
      have hon := (h2 hr).2
      have key : ∀ i, i < 4 → (c.on i = f a ↔ p.pn i = a) := fun i hi => by
        rw [hon i hi]
        exact ⟨fun x => h.inj _ _ (bcnt_pos.2 ⟨k, p, e, by omega, i, hi, rfl⟩) ha x, fun x => by rw [x]⟩
      have gen : ∀ m, m ≤ 4 → hasN c.on (f a) m = hasN p.pn a m := by
        intro m
        induction m with
        | zero => intro _; rfl
        | succ m ih =>
          intro hm
          unfold hasN
          rw [ih (by omega)]
          congr 1
          by_cases x : p.pn m = a
          · rw [if_pos x, if_pos ((key m (by omega)).2 x)]
          · rw [if_neg x, if_neg (fun y => x ((key m (by omega)).1 y))]
      exact gen 4 (Nat.le_refl _)
    · rw [if_neg hr, if_neg (show ¬ 0 < (bP p).r by show ¬ 0 < p.r; omega)]
theorem BK.live {l : List Sh} {L : List Pc} {B : List Bp} {n : Nat} {f : Int → Int} (h : BK l L B n f) {a : Int} (ha : 0 < bcnt B a) : 1 ≤ a ∧ a ≤ n := by
  obtain ⟨k, p, h1, h2, i, hi, rfl⟩ := bcnt_pos.1 ha
  exact h.rng k p h1 h2 i hi
/-- the room's count of a picture's page is the book's -/
theorem BK.refs {l : List Sh} {L : List Pc} {B : List Bp} {n : Nat} {f : Int → Int} (h : BK l L B n f) (I : INV l L) {k : Nat} {c : Pc} {p : Bp} (hc : L[k]? = some c) (hp : B[k]? = some p) (hr : 0 < c.r) {i : Nat} (hi : i < 4) : (pg l (c.on i)).r = bcnt B (p.pn i) := by
  obtain ⟨h1, h2⟩ := h.each k c p hc hp
  rw [I.cnt, (h2 hr).2 i hi]
  exact h.cnt (bcnt_pos.2 ⟨k, p, hp, by omega, i, hi, rfl⟩)
theorem BK.used {l : List Sh} {L : List Pc} {B : List Bp} {n : Nat} {f : Int → Int} (h : BK l L B n f) (I : INV l L) : usedN l = bused B n := by
  have hX : usedN l = (((List.range n).filter fun k : Nat => decide (0 < bcnt B ((k : Int) + 1))).map fun k : Nat => f ((k : Int) + 1)).length := by
    refine used_eq l _ ?_ (fun p => ?_)
    · refine List.pairwise_map.2 ((List.nodup_range.filter _).imp_of_mem ?_)
      intro a b ha hb hne e
      rw [List.mem_filter] at ha hb
      have := h.inj _ _ (by simpa using ha.2) (by simpa using hb.2) e
      omega
    · rw [List.mem_map, I.cnt]
      constructor
      · rintro ⟨k, hk, rfl⟩
        rw [List.mem_filter] at hk
        have hk2 : 0 < bcnt B ((k : Int) + 1) := by simpa using hk.2
        rw [h.cnt hk2]; exact hk2
      · intro hp
        obtain ⟨k, c, hc, hr, i, hi, rfl⟩ := cnt_pos L p hp
        obtain ⟨q, hq⟩ : ∃ q, B[k]? = some q := ⟨_, List.getElem?_eq_getElem (by rw [← h.len]; exact (List.getElem?_eq_some_iff.1 hc).1)⟩
        obtain ⟨h1, h2⟩ := h.each k c q hc hq
        have ha : 0 < bcnt B (q.pn i) := bcnt_pos.2 ⟨k, q, hq, by omega, i, hi, rfl⟩
        have hb := h.live ha
        refine ⟨(q.pn i - 1).toNat, ?_, ?_⟩
        · rw [List.mem_filter, List.mem_range]
          refine ⟨by omega, ?_⟩
          rw [show (((q.pn i - 1).toNat : Nat) : Int) + 1 = q.pn i by omega]
          simpa using ha
        · rw [show (((q.pn i - 1).toNat : Nat) : Int) + 1 = q.pn i by omega]
          exact ((h2 hr).2 i hi).symm
  rw [hX, List.length_map]; rfl
theorem bget_snoc {B : List Bp} {p q : Bp} {k : Nat} (h : (B ++ [p])[k]? = some q) : B[k]? = some q ∨ (k = B.length ∧ q = p) := by
  by_cases hl : k < B.length
  · rw [List.getElem?_append_left hl] at h; exact .inl h
  · have := (List.getElem?_eq_some_iff.1 h).1
    simp at this
    obtain rfl : k = B.length := by omega
    rw [List.getElem?_append_right (Nat.le_refl _), Nat.sub_self] at h
    exact .inr ⟨rfl, (Option.some.inj h).symm⟩
theorem bget_set {B : List Bp} {p q e : Bp} {k j : Nat} (hk : B[k]? = some p) (h : (B.set k q)[j]? = some e) : (j = k ∧ e = q) ∨ (j ≠ k ∧ B[j]? = some e) := by
  have hl := (List.getElem?_eq_some_iff.1 hk).1
  by_cases hj : j = k
  · subst hj
    rw [List.getElem?_set_self hl] at h
    exact .inl ⟨rfl, (Option.some.inj h).symm⟩
  · rw [List.getElem?_set_ne (fun x => hj x.symm)] at h
    exact .inr ⟨hj, h⟩
theorem BK.empty (l : List Sh) : BK l [] [] 0 id := ⟨rfl, fun k c p h => by simp at h, fun k p h => by simp at h, fun a b h => by have := bcnt_pos.1 h; obtain ⟨k, p, h1, _⟩ := this; simp at h1⟩
/-- Make -/
theorem BK.make {l l' : List Sh} {L : List Pc} {B : List Bp} {n : Nat} {f : Int → Int} (h : BK l L B n f) (I : INV l L) {g : List Int} (hg : g.length = 32) {on : Nat → Int} (Md : MadeN l l' g on 4) (b : Nat) (pn : Nat → Int) (hpn : ∀ i, i < 4 → pn i = (n : Int) + 1 + i) :
    ∃ f', BK l' (L ++ [⟨b, 1, on⟩]) (B ++ [⟨1, g, pn⟩]) (n + 4) f' := by
  obtain ⟨f', hf⟩ : ∃ f' : Int → Int, ∀ a, f' a = if a ≤ n then f a else on (a - n - 1).toNat := ⟨_, fun a => rfl⟩
  have flo : ∀ a : Int, a ≤ n → f' a = f a := fun a ha => by rw [hf, if_pos ha]
  have fhi : ∀ i, i < 4 → f' (pn i) = on i := fun i hi => by rw [hf, hpn i hi, if_neg (by omega), show ((n : Int) + 1 + i - n - 1).toNat = i by omega]
  have hold : ∀ (k : Nat) (c : Pc) (p : Bp), L[k]? = some c → B[k]? = some p → 0 < c.r → ∀ i, i < 4 → ∀ j, j < 4 → f (p.pn i) ≠ on j := fun k c p hc hp hr i hi j hj e => by
    have h1 := I.has hc hr hi
    rw [((h.each k c p hc hp).2 hr).2 i hi, e, Md.fresh j hj] at h1
    omega
  have hliv : ∀ a : Int, 0 < bcnt (B ++ [⟨1, g, pn⟩]) a → (0 < bcnt B a ∧ a ≤ n) ∨ ∃ i, i < 4 ∧ a = pn i := fun a ha => by
    obtain ⟨k, p, h1, h2, i, hi, rfl⟩ := bcnt_pos.1 ha
    rcases bget_snoc h1 with h3 | ⟨_, rfl⟩
    · exact .inl ⟨bcnt_pos.2 ⟨k, p, h3, h2, i, hi, rfl⟩, (h.rng k p h3 h2 i hi).2⟩
    · exact .inr ⟨i, hi, rfl⟩
  have hfn : ∀ a, 0 < bcnt B a → ∀ j, j < 4 → f a ≠ on j := fun a ha j hj => by
    obtain ⟨k, p, h1, h2, i, hi, rfl⟩ := bcnt_pos.1 ha
    obtain ⟨c, hc⟩ : ∃ c, L[k]? = some c := ⟨_, List.getElem?_eq_getElem (by rw [h.len]; exact (List.getElem?_eq_some_iff.1 h1).1)⟩
    exact hold k c p hc h1 (by rw [(h.each k c p hc h1).1]; exact h2) i hi j hj
  refine ⟨f', by simp [h.len], fun k c p hc hp => ?_, fun k p hp hr i hi => ?_, fun a b ha hb e => ?_⟩
  · rcases get_snoc hc with h1 | ⟨h1, rfl⟩
    · rcases bget_snoc hp with h2 | ⟨h2, rfl⟩
      · obtain ⟨h3, h4⟩ := h.each k c p h1 h2
        refine ⟨h3, fun hr => ⟨(Md.old I h1 hr).trans (h4 hr).1, fun i hi => ?_⟩⟩
        rw [flo _ (h.rng k p h2 (by omega) i hi).2]
        exact (h4 hr).2 i hi
      · have := (List.getElem?_eq_some_iff.1 h1).1
        have := h.len; omega
    · rcases bget_snoc hp with h2 | ⟨h2, rfl⟩
      · have := (List.getElem?_eq_some_iff.1 h2).1
        have := h.len; omega
      · exact ⟨rfl, fun _ => ⟨Md.gm hg, fun i hi => (fhi i hi).symm⟩⟩
  · rcases bget_snoc hp with h1 | ⟨_, rfl⟩
    · have := h.rng k p h1 hr i hi; omega
    · show 1 ≤ pn i ∧ pn i ≤ _
      rw [hpn i hi]; omega
  · rcases hliv a ha with ⟨a1, a2⟩ | ⟨i, hi, rfl⟩
    · rcases hliv b hb with ⟨b1, b2⟩ | ⟨j, hj, rfl⟩
      · rw [flo a a2, flo b b2] at e; exact h.inj a b a1 b1 e
      · rw [flo a a2, fhi j hj] at e; exact absurd e (hfn a a1 j hj)
    · rcases hliv b hb with ⟨b1, b2⟩ | ⟨j, hj, rfl⟩
      · rw [flo b b2, fhi i hi] at e; exact absurd e.symm (hfn b b1 i hi)
      · rw [fhi i hi, fhi j hj] at e; rw [Md.inj i j hi hj e]
/-- Fork -/
theorem BK.fork {l l' : List Sh} {L : List Pc} {B : List Bp} {n : Nat} {f : Int → Int} (h : BK l L B n f) {k : Nat} {c : Pc} {p : Bp} (hc : L[k]? = some c) (hp : B[k]? = some p) (hr : 0 < c.r) (T : TurnN 1 l l' c.on 4) (b : Nat) : BK l' (L ++ [⟨b, 1, c.on⟩]) (B ++ [⟨1, p.g, p.pn⟩]) n f := by
  obtain ⟨h1, h2⟩ := h.each k c p hc hp
  have hliv : ∀ a, 0 < bcnt (B ++ [⟨1, p.g, p.pn⟩]) a → 0 < bcnt B a := fun a ha => by
    obtain ⟨j, q, h3, h4, i, hi, rfl⟩ := bcnt_pos.1 ha
    rcases bget_snoc h3 with h5 | ⟨_, rfl⟩
    · exact bcnt_pos.2 ⟨j, q, h5, h4, i, hi, rfl⟩
    · exact bcnt_pos.2 ⟨k, p, hp, by omega, i, hi, rfl⟩
  refine ⟨by simp [h.len], fun j d q hd hq => ?_, fun j q hq hqr i hi => ?_, fun a b ha hb e => h.inj a b (hliv a ha) (hliv b hb) e⟩
  · rcases get_snoc hd with h3 | ⟨h3, rfl⟩
    · rcases bget_snoc hq with h4 | ⟨h4, rfl⟩
      · obtain ⟨h5, h6⟩ := h.each j d q h3 h4
        exact ⟨h5, fun hr => ⟨(T.gm d.on).trans (h6 hr).1, (h6 hr).2⟩⟩
      · have := (List.getElem?_eq_some_iff.1 h3).1
        have := h.len; omega
    · rcases bget_snoc hq with h4 | ⟨h4, rfl⟩
      · have := (List.getElem?_eq_some_iff.1 h4).1
        have := h.len; omega
      · exact ⟨rfl, fun _ => ⟨(T.gm c.on).trans (h2 hr).1, (h2 hr).2⟩⟩
  · rcases bget_snoc hq with h4 | ⟨h4, rfl⟩
    · exact h.rng j q h4 hqr i hi
    · exact h.rng k p hp (by omega) i hi
/-- Hold, Drop -/
theorem BK.turn {l l' : List Sh} {L : List Pc} {B : List Bp} {n : Nat} {f : Int → Int} (h : BK l L B n f) {k : Nat} {c : Pc} {p : Bp} (hc : L[k]? = some c) (hp : B[k]? = some p) (hr : 0 < c.r) (hgm : ∀ f2, gmL l' f2 = gmL l f2) (r : Int) (r' : Int) (hr2 : r' = p.r + (r - c.r)) : BK l' (L.set k ⟨c.b, r, c.on⟩) (B.set k ⟨r', p.g, p.pn⟩) n f := by
  obtain ⟨h1, h2⟩ := h.each k c p hc hp
  have hrr : r' = r := by omega
  subst hrr
  have hliv : ∀ a, 0 < bcnt (B.set k ⟨r', p.g, p.pn⟩) a → 0 < bcnt B a := fun a ha => by
    obtain ⟨j, q, h3, h4, i, hi, rfl⟩ := bcnt_pos.1 ha
    rcases bget_set hp h3 with ⟨_, rfl⟩ | ⟨_, h5⟩
    · exact bcnt_pos.2 ⟨k, p, hp, by omega, i, hi, rfl⟩
    · exact bcnt_pos.2 ⟨j, q, h5, h4, i, hi, rfl⟩
  refine ⟨by simp [h.len], fun j d q hd hq => ?_, fun j q hq hqr i hi => ?_, fun a b ha hb e => h.inj a b (hliv a ha) (hliv b hb) e⟩
  · rcases get_set hc hd with ⟨rfl, rfl⟩ | ⟨hn, h3⟩
    · rcases bget_set hp hq with ⟨_, rfl⟩ | ⟨hn2, _⟩
      · exact ⟨rfl, fun _ => ⟨(hgm c.on).trans (h2 hr).1, (h2 hr).2⟩⟩
      · exact absurd rfl hn2
    · rcases bget_set hp hq with ⟨hjk, _⟩ | ⟨_, h4⟩
      · exact absurd hjk hn
      · obtain ⟨h5, h6⟩ := h.each j d q h3 h4
        exact ⟨h5, fun hr => ⟨(hgm d.on).trans (h6 hr).1, (h6 hr).2⟩⟩
  · rcases bget_set hp hq with ⟨_, rfl⟩ | ⟨_, h4⟩
    · exact h.rng k p hp (by omega) i hi
    · exact h.rng j q h4 hqr i hi
/-- Set of a page that is the picture's alone -/
theorem BK.setA {l l' : List Sh} {L : List Pc} {B : List Bp} {n : Nat} {f : Int → Int} (h : BK l L B n f) {k : Nat} {c : Pc} {p : Bp} (hc : L[k]? = some c) (hp : B[k]? = some p) (hr : 0 < c.r) {on : Nat → Int} {m : Nat} {v : Int} (R : SetR l l' L k c on m v) (ha : ¬ 1 < (pg l (c.on (m / 8))).r) :
    BK l' (L.set k ⟨c.b, c.r, on⟩) (B.set k ⟨p.r, p.g.set m v, p.pn⟩) n f := by
  obtain ⟨h1, h2⟩ := h.each k c p hc hp
  have hon : ∀ i, on i = c.on i := fun i => by
    by_cases e : i = m / 8
    · rw [e]; exact R.alone ha
    · exact R.lo i e
  have hliv : ∀ a, 0 < bcnt (B.set k ⟨p.r, p.g.set m v, p.pn⟩) a → 0 < bcnt B a := fun a ha => by
    obtain ⟨j, q, h3, h4, i, hi, rfl⟩ := bcnt_pos.1 ha
    rcases bget_set hp h3 with ⟨_, rfl⟩ | ⟨_, h5⟩
    · exact bcnt_pos.2 ⟨k, p, hp, by omega, i, hi, rfl⟩
    · exact bcnt_pos.2 ⟨j, q, h5, h4, i, hi, rfl⟩
  refine ⟨by simp [h.len], fun j d q hd hq => ?_, fun j q hq hqr i hi => ?_, fun a b ha hb e => h.inj a b (hliv a ha) (hliv b hb) e⟩
  · rcases get_set hc hd with ⟨rfl, rfl⟩ | ⟨hn, h3⟩
    · rcases bget_set hp hq with ⟨_, rfl⟩ | ⟨hn2, _⟩
      · exact ⟨h1, fun _ => ⟨by rw [R.gm, (h2 hr).1], fun i hi => by show on i = _; rw [hon i]; exact (h2 hr).2 i hi⟩⟩
      · exact absurd rfl hn2
    · rcases bget_set hp hq with ⟨hjk, _⟩ | ⟨_, h4⟩
      · exact absurd hjk hn
      · obtain ⟨h5, h6⟩ := h.each j d q h3 h4
        exact ⟨h5, fun hr => ⟨(R.oth j d hn h3 hr).trans (h6 hr).1, (h6 hr).2⟩⟩
  · rcases bget_set hp hq with ⟨_, rfl⟩ | ⟨_, h4⟩
    · exact h.rng k p hp (by omega) i hi
    · exact h.rng j q h4 hqr i hi
/-- Set of a page that is shared -/
theorem BK.setB {l l' : List Sh} {L : List Pc} {B : List Bp} {n : Nat} {f : Int → Int} (h : BK l L B n f) (I : INV l L) {k : Nat} {c : Pc} {p : Bp} (hc : L[k]? = some c) (hp : B[k]? = some p) (hr : 0 < c.r) {on : Nat → Int} {m : Nat} {v : Int} (R : SetR l l' L k c on m v) (ha : 1 < (pg l (c.on (m / 8))).r) (pn : Nat → Int) (hpn : pn = shPut p.pn (m / 8) ((n : Int) + 1)) :
    ∃ f', BK l' (L.set k ⟨c.b, c.r, on⟩) (B.set k ⟨p.r, p.g.set m v, pn⟩) (n + 1) f' := by
  subst hpn
  obtain ⟨h1, h2⟩ := h.each k c p hc hp
  obtain ⟨f', hf⟩ : ∃ f' : Int → Int, ∀ a, f' a = if a ≤ n then f a else on (m / 8) := ⟨_, fun a => rfl⟩
  have flo : ∀ a : Int, a ≤ n → f' a = f a := fun a ha => by rw [hf, if_pos ha]
  have fhi : f' ((n : Int) + 1) = on (m / 8) := by rw [hf, if_neg (by omega)]
  have hlo : ∀ i, i ≠ m / 8 → shPut p.pn (m / 8) ((n : Int) + 1) i = p.pn i := fun i hi => by unfold shPut; rw [if_neg hi]
  have hhi : shPut p.pn (m / 8) ((n : Int) + 1) (m / 8) = (n : Int) + 1 := by unfold shPut; rw [if_pos rfl]
  have hfn : ∀ a, 0 < bcnt B a → f a ≠ on (m / 8) := fun a hb e => by
    have h3 := h.cnt hb
    rw [e, ← I.cnt, R.fresh ha] at h3
    omega
  have hliv : ∀ a : Int, 0 < bcnt (B.set k ⟨p.r, p.g.set m v, shPut p.pn (m / 8) ((n : Int) + 1)⟩) a → (0 < bcnt B a ∧ a ≤ n) ∨ a = (n : Int) + 1 := fun a ha => by
    obtain ⟨j, q, h3, h4, i, hi, rfl⟩ := bcnt_pos.1 ha
    rcases bget_set hp h3 with ⟨_, rfl⟩ | ⟨_, h5⟩
    · by_cases e : i = m / 8
      · right; rw [e]; exact hhi
      · left
        have e2 : shPut p.pn (m / 8) ((n : Int) + 1) i = p.pn i := hlo i e
        show 0 < bcnt B (shPut p.pn (m / 8) ((n : Int) + 1) i) ∧ shPut p.pn (m / 8) ((n : Int) + 1) i ≤ n
        rw [e2]
        exact ⟨bcnt_pos.2 ⟨k, p, hp, by omega, i, hi, rfl⟩, (h.rng k p hp (by omega) i hi).2⟩
    · exact .inl ⟨bcnt_pos.2 ⟨j, q, h5, h4, i, hi, rfl⟩, (h.rng j q h5 h4 i hi).2⟩
  refine ⟨f', by simp [h.len], fun j d q hd hq => ?_, fun j q hq hqr i hi => ?_, fun a b ha hb e => ?_⟩
  · rcases get_set hc hd with ⟨rfl, rfl⟩ | ⟨hn, h3⟩
    · rcases bget_set hp hq with ⟨_, rfl⟩ | ⟨hn2, _⟩
      · refine ⟨h1, fun _ => ⟨by rw [R.gm, (h2 hr).1], fun i hi => ?_⟩⟩
        show on i = f' (shPut p.pn (m / 8) ((n : Int) + 1) i)
        by_cases e : i = m / 8
        · rw [e, hhi, fhi]
        · rw [hlo i e, flo _ (h.rng _ p hp (by omega) i hi).2, R.lo i e]
          exact (h2 hr).2 i hi
      · exact absurd rfl hn2
    · rcases bget_set hp hq with ⟨hjk, _⟩ | ⟨_, h4⟩
      · exact absurd hjk hn
      · obtain ⟨h5, h6⟩ := h.each j d q h3 h4
        refine ⟨h5, fun hr => ⟨(R.oth j d hn h3 hr).trans (h6 hr).1, fun i hi => ?_⟩⟩
        rw [flo _ (h.rng j q h4 (by omega) i hi).2]
        exact (h6 hr).2 i hi
  · rcases bget_set hp hq with ⟨_, rfl⟩ | ⟨_, h4⟩
    · show 1 ≤ shPut p.pn (m / 8) ((n : Int) + 1) i ∧ shPut p.pn (m / 8) ((n : Int) + 1) i ≤ _
      by_cases e : i = m / 8
      · rw [e, hhi]; omega
      · rw [hlo i e]; have := h.rng k p hp (by omega) i hi; omega
    · have := h.rng j q h4 hqr i hi; omega
  · rcases hliv a ha with ⟨a1, a2⟩ | rfl
    · rcases hliv b hb with ⟨b1, b2⟩ | rfl
      · rw [flo a a2, flo b b2] at e; exact h.inj a b a1 b1 e
      · rw [flo a a2, fhi] at e; exact absurd e (hfn a a1)
    · rcases hliv b hb with ⟨b1, b2⟩ | rfl
      · rw [flo b b2, fhi] at e; exact absurd e.symm (hfn b b1)
      · rfl
end Go.Proofs.Ytkmkjfbbpeocdaa
