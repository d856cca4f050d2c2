/- PLAIN: packets as bytes; reading them back, part by part. -/
import Derived.Test.YtclgcfofgiejgaaDoorDb
import Derived.Test.YtclgcfofgiejgaaDoorCb
import Derived.Test.YtclgcfofgiejgaaDoorJj
namespace Go.Proofs.YtclgcfofgiejgaaDoor
set_option linter.unusedVariables false

/-- a packet: kind, from, to, game, first, ack, frame, sum, presses -/
structure Pk where
  k : Int
  f : Int
  t : Int
  id : Int
  fi : Int
  ac : Int
  fr : Int
  su : Int
  l : List UInt8

def mayC (k f t id fi ac fr su : Int) (n : Nat) : Prop :=
  (0 ≤ f ∧ f ≤ 7 ∧ 0 ≤ t ∧ t ≤ 7 ∧ f ≠ t ∧ 0 ≤ id ∧ id ≤ 1099511627776) ∧
  ((k = 1 ∧ 0 ≤ fi ∧ fi ≤ 1000 ∧ 0 ≤ ac ∧ ac ≤ 1000 ∧ 0 ≤ fr ∧ fr ≤ 1000 ∧ n ≤ 32) ∨ (k = 2 ∧ fi = 0 ∧ ac = 0 ∧ fr = 0 ∧ su = 0 ∧ n = 0))
instance (k f t id fi ac fr su : Int) (n : Nat) : Decidable (mayC k f t id fi ac fr su n) := by unfold mayC; exact inferInstance
def headK (k f t id : Int) : List UInt8 := u8 k :: u8 f :: u8 t :: putN id
def tailK (fi ac fr su : Int) (l : List UInt8) : List UInt8 := putN fi ++ (putN ac ++ (putN fr ++ (s4 su ++ (putN (l.length : Int) ++ encG 0 (groups l)))))
def bodyC (k f t id fi ac fr su : Int) (l : List UInt8) : List UInt8 := if k = 1 then headK k f t id ++ tailK fi ac fr su l else headK k f t id
def sealK (b : List UInt8) : List UInt8 := b ++ s4 (tn (sumL b))
/-- Encode -/
def encC (k f t id fi ac fr su : Int) (l : List UInt8) : List UInt8 := if mayC k f t id fi ac fr su l.length then sealK (bodyC k f t id fi ac fr su l) else []
def Pk.may (p : Pk) : Prop := mayC p.k p.f p.t p.id p.fi p.ac p.fr p.su p.l.length
def Pk.body (p : Pk) : List UInt8 := bodyC p.k p.f p.t p.id p.fi p.ac p.fr p.su p.l
def Pk.enc (p : Pk) : List UInt8 := encC p.k p.f p.t p.id p.fi p.ac p.fr p.su p.l
/-- the bytes b are the packet p's -/
def IsK (b : List UInt8) (p : Pk) : Prop := p.may ∧ (0 ≤ p.su ∧ p.su ≤ 4294967295) ∧ sealK p.body = b

theorem s4_len (a : Int) : (s4 a).length = 4 := rfl
theorem u8_byte (c : UInt8) : u8 (c.toNat : Int) = c := by
  unfold u8
  have h := c.toNat_lt
  have e : ((c.toNat : Int) % 256).toNat = c.toNat := by omega
  rw [e]; simp
theorem u8_num (x : Int) (h0 : 0 ≤ x) (h1 : x ≤ 255) : ((u8 x).toNat : Int) = x := by rw [u8_nat]; omega
theorem acc4_s4 (a : Int) (h0 : 0 ≤ a) (h1 : a ≤ 4294967295) : acc4 (s4 a) = a := by
  have h : acc4 (s4 a) = ((((0 * 256 + ((u8 (a / 16777216)).toNat : Int)) * 256 + ((u8 (a / 65536)).toNat : Int)) * 256 + ((u8 (a / 256)).toNat : Int)) * 256 + ((u8 a).toNat : Int)) := rfl
  rw [h, u8_nat, u8_nat, u8_nat, u8_nat]; omega
theorem u8_eq (x : Int) (c : UInt8) (h : x % 256 = (c.toNat : Int)) : u8 x = c := by
  unfold u8; rw [h]; simp
theorem s4_acc4 (q : List UInt8) (hq : q.length = 4) : s4 (acc4 q) = q := by
  match q, hq with
  | [a, b, c, d], _ =>
    have h : acc4 [a, b, c, d] = ((((0 * 256 + (a.toNat : Int)) * 256 + (b.toNat : Int)) * 256 + (c.toNat : Int)) * 256 + (d.toNat : Int)) := rfl
    have ha := a.toNat_lt; have hb := b.toNat_lt; have hc := c.toNat_lt; have hd := d.toNat_lt
    unfold s4
    rw [h, u8_eq _ a (by omega), u8_eq _ b (by omega), u8_eq _ c (by omega), u8_eq _ d (by omega)]
theorem acc4_rng (q : List UInt8) (hq : q.length = 4) : 0 ≤ acc4 q ∧ acc4 q ≤ 4294967295 := by
  have h0 := acc4_lo q
  have h1 := acc4_hi q 4 4294967296 (by omega) (by decide)
  omega
theorem tn_rng (c : W32) : 0 ≤ tn c ∧ tn c ≤ 4294967295 := ⟨tn_lo c, tn_hi c⟩
theorem s4_inj {a b : Int} (ha : 0 ≤ a ∧ a ≤ 4294967295) (hb : 0 ≤ b ∧ b ≤ 4294967295) (h : s4 a = s4 b) : a = b := by
  rw [← acc4_s4 a ha.1 ha.2, h, acc4_s4 b hb.1 hb.2]
theorem sealK_len (b : List UInt8) : (sealK b).length = b.length + 4 := by unfold sealK; rw [List.length_append, s4_len]
theorem sealK_inj {a b : List UInt8} (h : sealK a = sealK b) : a = b := by
  have hl : a.length = b.length := by have := congrArg List.length h; rw [sealK_len, sealK_len] at this; omega
  exact (List.append_inj h hl).1

/-! ### the reader -/
structure RS where
  rest : List UInt8
  bad : Bool
def nextK (n : Nat) (r : RS) : List UInt8 × RS := if n ≤ r.rest.length then (r.rest.take n, ⟨r.rest.drop n, r.bad⟩) else (List.replicate n 0, ⟨r.rest, true⟩)
def numK (r : RS) : Int × RS := match getN r.rest with | .ok u k => (zag u, ⟨r.rest.drop k, r.bad⟩) | _ => (0, ⟨r.rest, true⟩)
def fourK (r : RS) : Int × RS := (acc4 (nextK 4 r).1, (nextK 4 r).2)
def pressK (r : RS) : List UInt8 × RS :=
  match cnt 32 0 (items true (numK r).2.rest) with
  | .ok t => (expand 0 (items true (numK r).2.rest), ⟨[], (numK r).2.bad || decide (t ≠ (numK r).1)⟩)
  | _ => ([], ⟨[], true⟩)
/-- the parts of a PInput behind its head -/
def inK (k f t id : Int) (r : RS) : Pk × RS :=
  let a := numK r
  let b := numK a.2
  let c := numK b.2
  let s := fourK c.2
  let p := pressK s.2
  (⟨k, f, t, id, a.1, b.1, c.1, s.1, p.1⟩, p.2)
def readK (b : List UInt8) : Pk × RS :=
  let h := nextK 3 ⟨b, false⟩
  let i := numK h.2
  let k : Int := ((h.1.getD 0 0).toNat : Int)
  let f : Int := ((h.1.getD 1 0).toNat : Int)
  let t : Int := ((h.1.getD 2 0).toNat : Int)
  if k = 1 then inK k f t i.1 i.2 else (⟨k, f, t, i.1, 0, 0, 0, 0, []⟩, i.2)
def RS.good (r : RS) : Bool := !r.bad && decide (r.rest.length = 0)

theorem next_ok {n : Nat} {r : RS} (h : (nextK n r).2.bad = false) : r.bad = false ∧ r.rest = (nextK n r).1 ++ (nextK n r).2.rest ∧ (nextK n r).1.length = n := by
  unfold nextK at h ⊢
  split at h
  · rename_i hn
    rw [if_pos hn]
    exact ⟨h, (List.take_append_drop n r.rest).symm, by rw [List.length_take]; omega⟩
  · cases h
theorem num_ok {r : RS} (h : (numK r).2.bad = false) : r.bad = false ∧ r.rest = putN (numK r).1 ++ (numK r).2.rest ∧ in64 (numK r).1 := by
  unfold numK at h ⊢
  cases hg : getN r.rest with
  | ok u k =>
    rw [hg] at h
    exact ⟨h, getN_split _ _ _ hg, zag_in u (getN_got _ _ _ hg).1⟩
  | more => rw [hg] at h; cases h
  | form => rw [hg] at h; cases h
theorem num_put (n : Int) (x : List UInt8) (hn : in64 n) : numK ⟨putN n ++ x, false⟩ = (n, ⟨x, false⟩) := by
  unfold numK
  simp only [getN_put n x hn, zag_zig, List.drop_left]
theorem four_ok {r : RS} (h : (fourK r).2.bad = false) : r.bad = false ∧ r.rest = s4 (fourK r).1 ++ (fourK r).2.rest ∧ 0 ≤ (fourK r).1 ∧ (fourK r).1 ≤ 4294967295 := by
  obtain ⟨h1, h2, h3⟩ := next_ok (n := 4) (r := r) h
  refine ⟨h1, ?_, acc4_rng _ h3⟩
  show r.rest = s4 (acc4 (nextK 4 r).1) ++ (nextK 4 r).2.rest
  rw [s4_acc4 _ h3]; exact h2
theorem four_put (a : Int) (x : List UInt8) (h0 : 0 ≤ a) (h1 : a ≤ 4294967295) : fourK ⟨s4 a ++ x, false⟩ = (a, ⟨x, false⟩) := by
  have e : nextK 4 ⟨s4 a ++ x, false⟩ = (s4 a, ⟨x, false⟩) := by
    unfold nextK
    rw [if_pos (by show 4 ≤ (s4 a ++ x).length; rw [List.length_append, s4_len]; omega)]
    rfl
  unfold fourK
  rw [e, acc4_s4 a h0 h1]
theorem press_ok {r : RS} (h : (pressK r).2.bad = false) : r.bad = false ∧ r.rest = putN ((pressK r).1.length : Int) ++ encG 0 (groups (pressK r).1) ∧ (pressK r).1.length ≤ 32 ∧ (pressK r).2.rest = [] := by
  unfold pressK at h ⊢
  cases hc : cnt 32 0 (items true (numK r).2.rest) with
  | form => rw [hc] at h; cases h
  | full => rw [hc] at h; cases h
  | ok t =>
    rw [hc] at h
    simp only [Bool.or_eq_false_iff, decide_eq_false_iff_not, ne_eq, Decidable.not_not] at h
    obtain ⟨h1, h2⟩ := h
    obtain ⟨g1, g2, g3⟩ := num_ok h1
    have hit := items_in (numK r).2.rest true
    have hl := expand_len 32 _ 0 t 0 (fun x hx => (hit x hx).1) hc
    have hle := cnt_le 32 _ 0 t (by omega) (fun x hx => (hit x hx).1) hc
    have hb := enc_back _ 32 t hc
    refine ⟨g1, ?_, ?_, rfl⟩
    · show r.rest = putN ((expand 0 (items true (numK r).2.rest)).length : Int) ++ encG 0 (groups (expand 0 (items true (numK r).2.rest)))
      have e : ((expand 0 (items true (numK r).2.rest)).length : Int) = (numK r).1 := by rw [hl, ← h2]; omega
      rw [e, hb]; exact g2
    · show (expand 0 (items true (numK r).2.rest)).length ≤ 32
      rw [hl]; omega
theorem press_put (l : List UInt8) (hl : l.length ≤ 32) : pressK ⟨putN (l.length : Int) ++ encG 0 (groups l), false⟩ = (l, ⟨[], false⟩) := by
  unfold pressK
  rw [num_put _ _ (by unfold in64; omega)]
  simp only
  rw [cnt_of l (by omega) 32 (by omega), if_neg (by omega), expand_of l (by omega)]
  simp
theorem in_ok {k f t id : Int} {r : RS} (h : (inK k f t id r).2.bad = false) : r.bad = false ∧ (inK k f t id r).2.rest = [] ∧ (inK k f t id r).1.l.length ≤ 32 ∧ (0 ≤ (inK k f t id r).1.su ∧ (inK k f t id r).1.su ≤ 4294967295) ∧
    r.rest = tailK (inK k f t id r).1.fi (inK k f t id r).1.ac (inK k f t id r).1.fr (inK k f t id r).1.su (inK k f t id r).1.l := by
  unfold inK at h ⊢
  simp only at h ⊢
  obtain ⟨h1, e1, l1, n1⟩ := press_ok h
  obtain ⟨h2, e2, s2⟩ := four_ok h1
  obtain ⟨h3, e3, _⟩ := num_ok h2
  obtain ⟨h4, e4, _⟩ := num_ok h3
  obtain ⟨h5, e5, _⟩ := num_ok h4
  refine ⟨h5, n1, l1, s2, ?_⟩
  unfold tailK
  rw [← e1, ← e2, ← e3, ← e4, ← e5]
theorem in_put (k f t id fi ac fr su : Int) (l : List UInt8) (h1 : in64 fi) (h2 : in64 ac) (h3 : in64 fr) (h4 : 0 ≤ su ∧ su ≤ 4294967295) (h5 : l.length ≤ 32) :
    inK k f t id ⟨tailK fi ac fr su l, false⟩ = (⟨k, f, t, id, fi, ac, fr, su, l⟩, ⟨[], false⟩) := by
  unfold inK tailK
  simp only [num_put _ _ h1, num_put _ _ h2, num_put _ _ h3, four_put _ _ h4.1 h4.2, press_put l h5]
theorem head_split (b : List UInt8) (h : 3 ≤ b.length) : ∃ x y z r, b = x :: y :: z :: r := by
  match b, h with
  | x :: y :: z :: r, _ => exact ⟨x, y, z, r, rfl⟩
theorem next3 (x y z : UInt8) (r : List UInt8) (bad : Bool) : nextK 3 ⟨x :: y :: z :: r, bad⟩ = ([x, y, z], ⟨r, bad⟩) := by
  unfold nextK
  rw [if_pos (by simp)]
  rfl
theorem readK_cons (x y z : UInt8) (r : List UInt8) : readK (x :: y :: z :: r) = if (x.toNat : Int) = 1 then inK (x.toNat : Int) (y.toNat : Int) (z.toNat : Int) (numK ⟨r, false⟩).1 (numK ⟨r, false⟩).2 else (⟨(x.toNat : Int), (y.toNat : Int), (z.toNat : Int), (numK ⟨r, false⟩).1, 0, 0, 0, 0, []⟩, (numK ⟨r, false⟩).2) := by
  unfold readK
  rw [next3]
  rfl
/-- what is read well is written so -/
theorem read_ok {b : List UInt8} (h : (readK b).2.good = true) : (readK b).1.body = b ∧ (0 ≤ (readK b).1.su ∧ (readK b).1.su ≤ 4294967295) := by
  unfold RS.good at h
  simp only [Bool.and_eq_true, Bool.not_eq_true', decide_eq_true_eq] at h
  obtain ⟨hb, hr⟩ := h
  by_cases h3 : 3 ≤ b.length
  · obtain ⟨x, y, z, r, rfl⟩ := head_split b h3
    rw [readK_cons] at hb hr ⊢
    by_cases hk : (x.toNat : Int) = 1
    · rw [if_pos hk] at hb hr ⊢
      obtain ⟨h1, e1, l1, s1, e2⟩ := in_ok hb
      obtain ⟨_, e3, _⟩ := num_ok h1
      refine ⟨?_, s1⟩
      show (if (x.toNat : Int) = 1 then headK (x.toNat : Int) (y.toNat : Int) (z.toNat : Int) (numK ⟨r, false⟩).1 ++ _ else _) = _
      rw [if_pos hk]
      unfold headK
      rw [u8_byte, u8_byte, u8_byte, List.cons_append, List.cons_append, List.cons_append, ← e2, ← e3]
    · rw [if_neg hk] at hb hr ⊢
      obtain ⟨_, e3, _⟩ := num_ok hb
      refine ⟨?_, by show (0 : Int) ≤ 0 ∧ (0 : Int) ≤ 4294967295; omega⟩
      show (if (x.toNat : Int) = 1 then _ else headK (x.toNat : Int) (y.toNat : Int) (z.toNat : Int) (numK ⟨r, false⟩).1) = _
      rw [if_neg hk]
      unfold headK
      rw [List.eq_nil_of_length_eq_zero hr, List.append_nil] at e3
      rw [u8_byte, u8_byte, u8_byte, ← e3]
  · have e : nextK 3 ⟨b, false⟩ = (List.replicate 3 0, ⟨b, true⟩) := by unfold nextK; rw [if_neg h3]
    have hm : (readK b).2 = (numK ⟨b, true⟩).2 := by
      unfold readK
      rw [e]
      rfl
    rw [hm] at hb
    exact absurd (num_ok hb).1 (by simp)
/-- what is written is read -/
theorem read_put (p : Pk) (hm : p.may) (hs : 0 ≤ p.su ∧ p.su ≤ 4294967295) : readK p.body = (p, ⟨[], false⟩) := by
  obtain ⟨k, f, t, id, fi, ac, fr, su, l⟩ := p
  obtain ⟨⟨f0, f1, t0, t1, hft, i0, i1⟩, hm⟩ := hm
  simp only at *
  have hid : in64 id := by unfold in64; omega
  unfold Pk.body bodyC
  simp only
  rcases hm with ⟨rfl, a0, a1, b0, b1, c0, c1, hl⟩ | ⟨rfl, rfl, rfl, rfl, rfl, hl⟩
  · rw [if_pos rfl]
    unfold headK
    rw [List.cons_append, List.cons_append, List.cons_append, readK_cons, num_put _ _ hid, u8_num 1 (by omega) (by omega), u8_num f (by omega) (by omega), u8_num t (by omega) (by omega), if_pos rfl]
    exact in_put _ _ _ _ fi ac fr su l (by unfold in64; omega) (by unfold in64; omega) (by unfold in64; omega) hs hl
  · rw [if_neg (by omega)]
    unfold headK
    have e := num_put id [] hid
    rw [List.append_nil] at e
    rw [readK_cons, e, u8_num 2 (by omega) (by omega), u8_num f (by omega) (by omega), u8_num t (by omega) (by omega), if_neg (by omega)]
    obtain rfl := List.eq_nil_of_length_eq_zero hl
    rfl
theorem is_inj {b : List UInt8} {p q : Pk} (hp : IsK b p) (hq : IsK b q) : p = q := by
  obtain ⟨m1, s1, e1⟩ := hp
  obtain ⟨m2, s2, e2⟩ := hq
  have e := sealK_inj (e1.trans e2.symm)
  have h := read_put p m1 s1
  rw [e, read_put q m2 s2] at h
  exact (congrArg Prod.fst h).symm
/-- which bytes are a packet's -/
theorem is_read (b : List UInt8) (p : Pk) : IsK (sealK b) p ↔ (readK b).2.good = true ∧ (readK b).1 = p ∧ p.may := by
  constructor
  · rintro ⟨m, s, e⟩
    have e := sealK_inj e
    subst e
    rw [read_put p m s]
    exact ⟨rfl, rfl, m⟩
  · rintro ⟨h, rfl, m⟩
    obtain ⟨h1, h2⟩ := read_ok h
    exact ⟨m, h2, by rw [h1]⟩
theorem is_long {b : List UInt8} {p : Pk} (h : IsK b p) : 8 ≤ b.length := by
  obtain ⟨_, _, rfl⟩ := h
  rw [sealK_len]
  have := putN_pos p.id
  unfold Pk.body bodyC headK
  split
  · rw [List.length_append]; simp only [List.length_cons]; omega
  · simp only [List.length_cons]; omega
end Go.Proofs.YtclgcfofgiejgaaDoor
