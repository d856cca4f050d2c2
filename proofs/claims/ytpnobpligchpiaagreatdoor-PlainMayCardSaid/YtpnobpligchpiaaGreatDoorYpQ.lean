/- texts of YpQ -/
import Derived.ChangeSame
import Derived.Deep.DeepCutAuto
import Derived.Deep.Fields
import Derived.Deep.Slices
import Derived.Lib.SmallJoins
import Derived.Test.YtpnobpligchpiaaGreatDoorYpC
import Derived.Test.YtpnobpligchpiaaGreatDoorYpD
import Derived.Test.YtpnobpligchpiaaGreatDoorYpJ
import Derived.Test.YtpnobpligchpiaaGreatDoorYpK
namespace Go.Proofs.YtpnobpligchpiaaGreatDoor
set_option linter.unusedVariables false
structure Pk where
 k : Int
 f : Int
 t : Int
 id : Int
 fi : Int
 ac : Int
 fr : Int
 su : Int
 l : List UInt8
def mayC (k f t id fi ac fr su : Int) (n : Nat) : Prop :=
 (0 ≤ f ∧ f ≤ 7 ∧ 0 ≤ t ∧ t ≤ 7 ∧ f ≠ t ∧ 0 ≤ id ∧ id ≤ 1099511627776) ∧
 ((k = 1 ∧ 0 ≤ fi ∧ fi ≤ 1000 ∧ 0 ≤ ac ∧ ac ≤ 1000 ∧ 0 ≤ fr ∧ fr ≤ 1000 ∧ n ≤ 32) ∨ (k = 2 ∧ fi = 0 ∧ ac = 0 ∧ fr = 0 ∧ su = 0 ∧ n = 0))
instance (k f t id fi ac fr su : Int) (n : Nat) : Decidable (mayC k f t id fi ac fr su n) := by unfold mayC; exact inferInstance
def headK (k f t id : Int) : List UInt8 := u8 k :: u8 f :: u8 t :: putN id
def tailK (fi ac fr su : Int) (l : List UInt8) : List UInt8 := putN fi ++ (putN ac ++ (putN fr ++ (s4 su ++ (putN (l.length : Int) ++ encG 0 (groups l)))))
def bodyC (k f t id fi ac fr su : Int) (l : List UInt8) : List UInt8 := if k = 1 then headK k f t id ++ tailK fi ac fr su l else headK k f t id
def sealK (b : List UInt8) : List UInt8 := b ++ s4 (tn (sumL b))
def encC (k f t id fi ac fr su : Int) (l : List UInt8) : List UInt8 := if mayC k f t id fi ac fr su l.length then sealK (bodyC k f t id fi ac fr su l) else []
def Pk.may (p : Pk) : Prop := mayC p.k p.f p.t p.id p.fi p.ac p.fr p.su p.l.length
def Pk.body (p : Pk) : List UInt8 := bodyC p.k p.f p.t p.id p.fi p.ac p.fr p.su p.l
def Pk.enc (p : Pk) : List UInt8 := encC p.k p.f p.t p.id p.fi p.ac p.fr p.su p.l
def IsK (b : List UInt8) (p : Pk) : Prop := p.may ∧ (0 ≤ p.su ∧ p.su ≤ 4294967295) ∧ sealK p.body = b
theorem s4_len (a : Int) : (s4 a).length = 4 := rfl
theorem u8_byte (c : UInt8) : u8 (c.toNat : Int) = c := by
 unfold u8
 have h := c.toNat_lt
 have e : ((c.toNat : Int) % 256).toNat = c.toNat := by omega
 rw [e]; simp
theorem u8_num (x : Int) (h0 : 0 ≤ x) (h1 : x ≤ 255) : ((u8 x).toNat : Int) = x := by rw [u8_nat]; omega
theorem acc4_s4 (a : Int) (h0 : 0 ≤ a) (h1 : a ≤ 4294967295) : acc4 (s4 a) = a := by
 have h : acc4 (s4 a) = ((((0 * 256 + ((u8 (a / 16777216)).toNat : Int)) * 256 + ((u8 (a / 65536)).toNat : Int)) * 256 + ((u8 (a / 256)).toNat : Int)) * 256 + ((u8 a).toNat : Int)) := rfl
 rw [h, u8_nat, u8_nat, u8_nat, u8_nat]; omega
theorem u8_eq (x : Int) (c : UInt8) (h : x % 256 = (c.toNat : Int)) : u8 x = c := by
 unfold u8; rw [h]; simp
theorem s4_acc4 (q : List UInt8) (hq : q.length = 4) : s4 (acc4 q) = q := by
 match q, hq with
 | [a, b, c, d], _ =>
   have h : acc4 [a, b, c, d] = ((((0 * 256 + (a.toNat : Int)) * 256 + (b.toNat : Int)) * 256 + (c.toNat : Int)) * 256 + (d.toNat : Int)) := rfl
   have ha := a.toNat_lt; have hb := b.toNat_lt; have hc := c.toNat_lt; have hd := d.toNat_lt
   unfold s4
   rw [h, u8_eq _ a (by omega), u8_eq _ b (by omega), u8_eq _ c (by omega), u8_eq _ d (by omega)]
theorem acc4_rng (q : List UInt8) (hq : q.length = 4) : 0 ≤ acc4 q ∧ acc4 q ≤ 4294967295 := by
 have h0 := acc4_lo q
 have h1 := acc4_hi q 4 4294967296 (by omega) (by decide)
 omega
theorem sealK_len (b : List UInt8) : (sealK b).length = b.length + 4 := by unfold sealK; rw [List.length_append, s4_len]
theorem sealK_inj {a b : List UInt8} (h : sealK a = sealK b) : a = b := by
 have hl : a.length = b.length := by have := congrArg List.length h; rw [sealK_len, sealK_len] at this; omega
 exact (List.append_inj h hl).1
structure RS where
 rest : List UInt8
 bad : Bool
def nextK (n : Nat) (r : RS) : List UInt8 × RS := if n ≤ r.rest.length then (r.rest.take n, ⟨r.rest.drop n, r.bad⟩) else (List.replicate n 0, ⟨r.rest, true⟩)
def numK (r : RS) : Int × RS := match getN r.rest with | .ok u k => (zag u, ⟨r.rest.drop k, r.bad⟩) | _ => (0, ⟨r.rest, true⟩)
def fourK (r : RS) : Int × RS := (acc4 (nextK 4 r).1, (nextK 4 r).2)
def pressK (r : RS) : List UInt8 × RS :=
 match cnt 32 0 (items true (numK r).2.rest) with
 | .ok t => (expand 0 (items true (numK r).2.rest), ⟨[], (numK r).2.bad || decide (t ≠ (numK r).1)⟩)
 | _ => ([], ⟨[], true⟩)
def inK (k f t id : Int) (r : RS) : Pk × RS :=
 let a := numK r
 let b := numK a.2
 let c := numK b.2
 let s := fourK c.2
 let p := pressK s.2
 (⟨k, f, t, id, a.1, b.1, c.1, s.1, p.1⟩, p.2)
def readK (b : List UInt8) : Pk × RS :=
 let h := nextK 3 ⟨b, false⟩
 let i := numK h.2
 let k : Int := ((h.1.getD 0 0).toNat : Int)
 let f : Int := ((h.1.getD 1 0).toNat : Int)
 let t : Int := ((h.1.getD 2 0).toNat : Int)
 if k = 1 then inK k f t i.1 i.2 else (⟨k, f, t, i.1, 0, 0, 0, 0, []⟩, i.2)
def RS.good (r : RS) : Bool := !r.bad && decide (r.rest.length = 0)
theorem next_ok {n : Nat} {r : RS} (h : (nextK n r).2.bad = false) : r.bad = false ∧ r.rest = (nextK n r).1 ++ (nextK n r).2.rest ∧ (nextK n r).1.length = n := by
 unfold nextK at h ⊢
 split at h
 · rename_i hn
   rw [if_pos hn]
   exact ⟨h, (List.take_append_drop n r.rest).symm, by rw [List.length_take]; omega⟩
 · cases h
theorem num_ok {r : RS} (h : (numK r).2.bad = false) : r.bad = false ∧ r.rest = putN (numK r).1 ++ (numK r).2.rest ∧ in64 (numK r).1 := by
 unfold numK at h ⊢
 cases hg : getN r.rest with
 | ok u k =>
   rw [hg] at h
   exact ⟨h, getN_split _ _ _ hg, zag_in u (getN_got _ _ _ hg).1⟩
 | more => rw [hg] at h; cases h
 | form => rw [hg] at h; cases h
theorem num_put (n : Int) (x : List UInt8) (hn : in64 n) : numK ⟨putN n ++ x, false⟩ = (n, ⟨x, false⟩) := by
 unfold numK
 simp only [getN_put n x hn, zag_zig, List.drop_left]
theorem four_ok {r : RS} (h : (fourK r).2.bad = false) : r.bad = false ∧ r.rest = s4 (fourK r).1 ++ (fourK r).2.rest ∧ 0 ≤ (fourK r).1 ∧ (fourK r).1 ≤ 4294967295 := by
 obtain ⟨h1, h2, h3⟩ := next_ok (n := 4) (r := r) h
 refine ⟨h1, ?_, acc4_rng _ h3⟩
 show r.rest = s4 (acc4 (nextK 4 r).1) ++ (nextK 4 r).2.rest
 rw [s4_acc4 _ h3]; exact h2
theorem four_put (a : Int) (x : List UInt8) (h0 : 0 ≤ a) (h1 : a ≤ 4294967295) : fourK ⟨s4 a ++ x, false⟩ = (a, ⟨x, false⟩) := by
 have e : nextK 4 ⟨s4 a ++ x, false⟩ = (s4 a, ⟨x, false⟩) := by
  unfold nextK
  rw [if_pos (by show 4 ≤ (s4 a ++ x).length; rw [List.length_append, s4_len]; omega)]
  rfl
 unfold fourK
 rw [e, acc4_s4 a h0 h1]
theorem press_ok {r : RS} (h : (pressK r).2.bad = false) : r.bad = false ∧ r.rest = putN ((pressK r).1.length : Int) ++ encG 0 (groups (pressK r).1) ∧ (pressK r).1.length ≤ 32 ∧ (pressK r).2.rest = [] := by
 unfold pressK at h ⊢
 cases hc : cnt 32 0 (items true (numK r).2.rest) with
 | form => rw [hc] at h; cases h
 | full => rw [hc] at h; cases h
 | ok t =>
   rw [hc] at h
   simp only [Bool.or_eq_false_iff, decide_eq_false_iff_not, ne_eq, Decidable.not_not] at h
   obtain ⟨h1, h2⟩ := h
   obtain ⟨g1, g2, g3⟩ := num_ok h1
   have hit := items_in (numK r).2.rest true
   have hl := expand_len 32 _ 0 t 0 (fun x hx => (hit x hx).1) hc
   have hle := cnt_le 32 _ 0 t (by omega) (fun x hx => (hit x hx).1) hc
   have hb := enc_back _ 32 t hc
   refine ⟨g1, ?_, ?_, rfl⟩
   · show r.rest = putN ((expand 0 (items true (numK r).2.rest)).length : Int) ++ encG 0 (groups (expand 0 (items true (numK r).2.rest)))
     have e : ((expand 0 (items true (numK r).2.rest)).length : Int) = (numK r).1 := by rw [hl, ← h2]; omega
     rw [e, hb]; exact g2
   · show (expand 0 (items true (numK r).2.rest)).length ≤ 32
     rw [hl]; omega
theorem press_put (l : List UInt8) (hl : l.length ≤ 32) : pressK ⟨putN (l.length : Int) ++ encG 0 (groups l), false⟩ = (l, ⟨[], false⟩) := by
 unfold pressK
 rw [num_put _ _ (by unfold in64; omega)]
 simp only
 rw [cnt_of l (by omega) 32 (by omega), if_neg (by omega), expand_of l (by omega)]
 simp
theorem in_ok {k f t id : Int} {r : RS} (h : (inK k f t id r).2.bad = false) : r.bad = false ∧ (inK k f t id r).2.rest = [] ∧ (inK k f t id r).1.l.length ≤ 32 ∧ (0 ≤ (inK k f t id r).1.su ∧ (inK k f t id r).1.su ≤ 4294967295) ∧
 r.rest = tailK (inK k f t id r).1.fi (inK k f t id r).1.ac (inK k f t id r).1.fr (inK k f t id r).1.su (inK k f t id r).1.l := by
 unfold inK at h ⊢
 simp only at h ⊢
 obtain ⟨h1, e1, l1, n1⟩ := press_ok h
 obtain ⟨h2, e2, s2⟩ := four_ok h1
 obtain ⟨h3, e3, _⟩ := num_ok h2
 obtain ⟨h4, e4, _⟩ := num_ok h3
 obtain ⟨h5, e5, _⟩ := num_ok h4
 refine ⟨h5, n1, l1, s2, ?_⟩
 unfold tailK
 rw [← e1, ← e2, ← e3, ← e4, ← e5]
theorem in_put (k f t id fi ac fr su : Int) (l : List UInt8) (h1 : in64 fi) (h2 : in64 ac) (h3 : in64 fr) (h4 : 0 ≤ su ∧ su ≤ 4294967295) (h5 : l.length ≤ 32) :
 inK k f t id ⟨tailK fi ac fr su l, false⟩ = (⟨k, f, t, id, fi, ac, fr, su, l⟩, ⟨[], false⟩) := by
 unfold inK tailK
 simp only [num_put _ _ h1, num_put _ _ h2, num_put _ _ h3, four_put _ _ h4.1 h4.2, press_put l h5]
theorem head_split (b : List UInt8) (h : 3 ≤ b.length) : ∃ x y z r, b = x :: y :: z :: r := by
 match b, h with
 | x :: y :: z :: r, _ => exact ⟨x, y, z, r, rfl⟩
theorem next3 (x y z : UInt8) (r : List UInt8) (bad : Bool) : nextK 3 ⟨x :: y :: z :: r, bad⟩ = ([x, y, z], ⟨r, bad⟩) := by
 unfold nextK
 rw [if_pos (by simp)]
 rfl
theorem readK_cons (x y z : UInt8) (r : List UInt8) : readK (x :: y :: z :: r) = if (x.toNat : Int) = 1 then inK (x.toNat : Int) (y.toNat : Int) (z.toNat : Int) (numK ⟨r, false⟩).1 (numK ⟨r, false⟩).2 else (⟨(x.toNat : Int), (y.toNat : Int), (z.toNat : Int), (numK ⟨r, false⟩).1, 0, 0, 0, 0, []⟩, (numK ⟨r, false⟩).2) := by
 unfold readK
 rw [next3]
 rfl
theorem read_ok {b : List UInt8} (h : (readK b).2.good = true) : (readK b).1.body = b ∧ (0 ≤ (readK b).1.su ∧ (readK b).1.su ≤ 4294967295) := by
 unfold RS.good at h
 simp only [Bool.and_eq_true, Bool.not_eq_true', decide_eq_true_eq] at h
 obtain ⟨hb, hr⟩ := h
 by_cases h3 : 3 ≤ b.length
 · obtain ⟨x, y, z, r, rfl⟩ := head_split b h3
   rw [readK_cons] at hb hr ⊢
   by_cases hk : (x.toNat : Int) = 1
   · rw [if_pos hk] at hb hr ⊢
     obtain ⟨h1, e1, l1, s1, e2⟩ := in_ok hb
     obtain ⟨_, e3, _⟩ := num_ok h1
     refine ⟨?_, s1⟩
     show (if (x.toNat : Int) = 1 then headK (x.toNat : Int) (y.toNat : Int) (z.toNat : Int) (numK ⟨r, false⟩).1 ++ _ else _) = _
     rw [if_pos hk]
     unfold headK
     rw [u8_byte, u8_byte, u8_byte, List.cons_append, List.cons_append, List.cons_append, ← e2, ← e3]
   · rw [if_neg hk] at hb hr ⊢
     obtain ⟨_, e3, _⟩ := num_ok hb
     refine ⟨?_, by show (0 : Int) ≤ 0 ∧ (0 : Int) ≤ 4294967295; omega⟩
     show (if (x.toNat : Int) = 1 then _ else headK (x.toNat : Int) (y.toNat : Int) (z.toNat : Int) (numK ⟨r, false⟩).1) = _
     rw [if_neg hk]
     unfold headK
     rw [List.eq_nil_of_length_eq_zero hr, List.append_nil] at e3
     rw [u8_byte, u8_byte, u8_byte, ← e3]
 · have e : nextK 3 ⟨b, false⟩ = (List.replicate 3 0, ⟨b, true⟩) := by unfold nextK; rw [if_neg h3]
   have hm : (readK b).2 = (numK ⟨b, true⟩).2 := by
    unfold readK
    rw [e]
    rfl
   rw [hm] at hb
   exact absurd (num_ok hb).1 (by simp)
theorem read_put (p : Pk) (hm : p.may) (hs : 0 ≤ p.su ∧ p.su ≤ 4294967295) : readK p.body = (p, ⟨[], false⟩) := by
 obtain ⟨k, f, t, id, fi, ac, fr, su, l⟩ := p
 obtain ⟨⟨f0, f1, t0, t1, hft, i0, i1⟩, hm⟩ := hm
 simp only at *
 have hid : in64 id := by unfold in64; omega
 unfold Pk.body bodyC
 simp only
 rcases hm with ⟨rfl, a0, a1, b0, b1, c0, c1, hl⟩ | ⟨rfl, rfl, rfl, rfl, rfl, hl⟩
 · rw [if_pos rfl]
   unfold headK
   rw [List.cons_append, List.cons_append, List.cons_append, readK_cons, num_put _ _ hid, u8_num 1 (by omega) (by omega), u8_num f (by omega) (by omega), u8_num t (by omega) (by omega), if_pos rfl]
   exact in_put _ _ _ _ fi ac fr su l (by unfold in64; omega) (by unfold in64; omega) (by unfold in64; omega) hs hl
 · rw [if_neg (by omega)]
   unfold headK
   have e := num_put id [] hid
   rw [List.append_nil] at e
   rw [readK_cons, e, u8_num 2 (by omega) (by omega), u8_num f (by omega) (by omega), u8_num t (by omega) (by omega), if_neg (by omega)]
   obtain rfl := List.eq_nil_of_length_eq_zero hl
   rfl
theorem is_inj {b : List UInt8} {p q : Pk} (hp : IsK b p) (hq : IsK b q) : p = q := by
 obtain ⟨m1, s1, e1⟩ := hp
 obtain ⟨m2, s2, e2⟩ := hq
 have e := sealK_inj (e1.trans e2.symm)
 have h := read_put p m1 s1
 rw [e, read_put q m2 s2] at h
 exact (congrArg Prod.fst h).symm
theorem is_read (b : List UInt8) (p : Pk) : IsK (sealK b) p ↔ (readK b).2.good = true ∧ (readK b).1 = p ∧ p.may := by
 constructor
 · rintro ⟨m, s, e⟩
   have e := sealK_inj e
   subst e
   rw [read_put p m s]
   exact ⟨rfl, rfl, m⟩
 · rintro ⟨h, rfl, m⟩
   obtain ⟨h1, h2⟩ := read_ok h
   exact ⟨m, h2, by rw [h1]⟩
theorem is_long {b : List UInt8} {p : Pk} (h : IsK b p) : 8 ≤ b.length := by
 obtain ⟨_, _, rfl⟩ := h
 rw [sealK_len]
 have := putN_pos p.id
 unfold Pk.body bodyC headK
 split
 · rw [List.length_append]; simp only [List.length_cons]; omega
 · simp only [List.length_cons]; omega
set_option maxRecDepth 100000
open Go.RowKit
set_option linter.unusedSimpArgs false
abbrev pkV (k f t id fi : Int) (A : Option Addr) (n c : Nat) (ac fr su : Int) : Value := .agg #[.int .i64 k, .int .i64 f, .int .i64 t, .int .i64 id, .int .i64 fi, .slice A n c, .int .i64 ac, .int .i64 fr, .int .u32 su]
abbrev pkO (k f t id fi : Int) (A : Option Addr) (n c : Nat) (ac fr su : Int) : Obj := .cells #[.int .i64 k, .int .i64 f, .int .i64 t, .int .i64 id, .int .i64 fi, .slice A n c, .int .i64 ac, .int .i64 fr, .int .u32 su] 36
theorem isplayer_any (n : Int) (b : Bool) (hb : b = true ↔ 0 ≤ n ∧ n ≤ 7) (w : World) :
 Calls Tryz.prog 156 #[.int .i64 n] w fun e w' => e = .returned (.bool b) ∧ w = w' := by
 have HB := qh hb; clear hb
 by_cases h0 : 0 ≤ n
 · by_cases h1 : n ≤ 7
   · have HE := qh (HB.out.2 ⟨h0, h1⟩)
     go_enter Tryz.func156, Tryz.ntmps156
     go_wp2
     go_ret
     exact ⟨by rw [HE.out]; first | rfl | (simp; omega), rfl⟩
   · have HE := qh (show b = false by rw [Bool.eq_false_iff]; exact fun h => h1 (HB.out.1 h).2)
     go_enter Tryz.func156, Tryz.ntmps156
     go_wp2
     go_ret
     exact ⟨by rw [HE.out]; first | rfl | (simp; omega), rfl⟩
 · have HE := qh (show b = false by rw [Bool.eq_false_iff]; exact fun h => h0 (HB.out.1 h).1)
   go_enter Tryz.func156, Tryz.ntmps156
   go_wp2
   go_ret
   exact ⟨by rw [HE.out]; first | rfl | (simp; omega), rfl⟩
theorem isframe_any (n : Int) (b : Bool) (hb : b = true ↔ 0 ≤ n ∧ n ≤ 1000) (w : World) :
 Calls Tryz.prog 157 #[.int .i64 n] w fun e w' => e = .returned (.bool b) ∧ w = w' := by
 have HB := qh hb; clear hb
 by_cases h0 : 0 ≤ n
 · by_cases h1 : n ≤ 1000
   · have HE := qh (HB.out.2 ⟨h0, h1⟩)
     go_enter Tryz.func157, Tryz.ntmps157
     go_wp2
     go_ret
     exact ⟨by rw [HE.out]; first | rfl | (simp; omega), rfl⟩
   · have HE := qh (show b = false by rw [Bool.eq_false_iff]; exact fun h => h1 (HB.out.1 h).2)
     go_enter Tryz.func157, Tryz.ntmps157
     go_wp2
     go_ret
     exact ⟨by rw [HE.out]; first | rfl | (simp; omega), rfl⟩
 · have HE := qh (show b = false by rw [Bool.eq_false_iff]; exact fun h => h0 (HB.out.1 h).1)
   go_enter Tryz.func157, Tryz.ntmps157
   go_wp2
   go_ret
   exact ⟨by rw [HE.out]; first | rfl | (simp; omega), rfl⟩
theorem frames_any (n : Int) (b : Bool) (hb : b = true ↔ 0 ≤ n ∧ n ≤ 1000) (w : World) :
 Calls Tryz.prog 122 #[.int .i64 n] w fun e w' => e = .returned (.bool b) ∧ w = w' := by
 have HB := qh hb; clear hb
 by_cases h0 : 0 ≤ n
 · by_cases h1 : n ≤ 1000
   · have HE := qh (HB.out.2 ⟨h0, h1⟩)
     go_enter Tryz.func122, Tryz.ntmps122
     go_wp2
     go_ret
     exact ⟨by rw [HE.out]; first | rfl | (simp; omega), rfl⟩
   · have HE := qh (show b = false by rw [Bool.eq_false_iff]; exact fun h => h1 (HB.out.1 h).2)
     go_enter Tryz.func122, Tryz.ntmps122
     go_wp2
     go_ret
     exact ⟨by rw [HE.out]; first | rfl | (simp; omega), rfl⟩
 · have HE := qh (show b = false by rw [Bool.eq_false_iff]; exact fun h => h0 (HB.out.1 h).1)
   go_enter Tryz.func122, Tryz.ntmps122
   go_wp2
   go_ret
   exact ⟨by rw [HE.out]; first | rfl | (simp; omega), rfl⟩
set_option maxHeartbeats 4000000 in
theorem may_any (k f t id fi : Int) (A : Option Addr) (n c : Nat) (ac fr su : Int) (b : Bool) (hb : decide (mayC k f t id fi ac fr su n) = b) (w : World) (hn : n ≤ maxLen) :
 Calls Tryz.prog 125 #[pkV k f t id fi A n c ac fr su] w fun e w' => e = .returned (.bool b) ∧ w.alloc (pkO k f t id fi A n c ac fr su) = w' := by
 unfold maxLen at hn
 unfold mayC at hb
 have HB := qh hb; clear hb
 have HP : ∀ (x : Int) (v : Bool) (W : World), (v = true ↔ 0 ≤ x ∧ x ≤ 7) → Calls Tryz.prog 156 #[.int .i64 x] W fun e w' => e = .returned (.bool v) ∧ W = w' := fun x v W h => isplayer_any x v h W
 have HF : ∀ (x : Int) (v : Bool) (W : World), (v = true ↔ 0 ≤ x ∧ x ≤ 1000) → Calls Tryz.prog 157 #[.int .i64 x] W fun e w' => e = .returned (.bool v) ∧ W = w' := fun x v W h => isframe_any x v h W
 have HR : ∀ (x : Int) (v : Bool) (W : World), (v = true ↔ 0 ≤ x ∧ x ≤ 1000) → Calls Tryz.prog 122 #[.int .i64 x] W fun e w' => e = .returned (.bool v) ∧ W = w' := fun x v W h => frames_any x v h W
 replace HP := qh HP; replace HF := qh HF; replace HR := qh HR
 by_cases hf : 0 ≤ f ∧ f ≤ 7
 · skip
   have hfc := qh (fun W => HP.out f true W ⟨fun _ => hf, fun _ => rfl⟩)
   by_cases ht : 0 ≤ t ∧ t ≤ 7
   · skip
     have htc := qh (fun W => HP.out t true W ⟨fun _ => ht, fun _ => rfl⟩)
     by_cases hft : f ≠ t
     · skip
       have hftb : (f == t) = false := by simp; exact hft
       by_cases hi0 : 0 ≤ id
       · skip
         skip
         by_cases hi1 : id ≤ 1099511627776
         · skip
           skip
           by_cases hk1 : k = 1
           · subst hk1
             by_cases ha : 0 ≤ fi ∧ fi ≤ 1000
             · skip
               have hac := qh (fun W => HF.out fi true W ⟨fun _ => ha, fun _ => rfl⟩)
               by_cases hb : 0 ≤ ac ∧ ac ≤ 1000
               · skip
                 have hbc := qh (fun W => HF.out ac true W ⟨fun _ => hb, fun _ => rfl⟩)
                 by_cases hc : 0 ≤ fr ∧ fr ≤ 1000
                 · skip
                   have hcc := qh (fun W => HF.out fr true W ⟨fun _ => hc, fun _ => rfl⟩)
                   by_cases hl : n ≤ 32
                   · skip
                     skip
                     have HE := qh (show b = true by rw [← HB.out]; first | exact decide_eq_true (by omega) | (simp; omega))
                     go_enter Tryz.func125, Tryz.ntmps125
                     go_wp2_with (first
    | (go_at_call 156; (with_reducible refine (hfc.out _).mono ?_); rintro e w1 ⟨rfl, rfl⟩)
    | (go_at_call 156; (with_reducible refine (htc.out _).mono ?_); rintro e w1 ⟨rfl, rfl⟩)
    | (go_at_call 157; (with_reducible refine (hac.out _).mono ?_); rintro e w1 ⟨rfl, rfl⟩)
    | (go_at_call 157; (with_reducible refine (hbc.out _).mono ?_); rintro e w1 ⟨rfl, rfl⟩)
    | (go_at_call 157; (with_reducible refine (hcc.out _).mono ?_); rintro e w1 ⟨rfl, rfl⟩))
                     go_ret
                     exact ⟨by rw [HE.out]; first | rfl | (simp; omega), rfl⟩
                   · skip
                     skip
                     have HE := qh (show b = false by rw [← HB.out]; first | exact decide_eq_false (by omega) | (simp; omega))
                     go_enter Tryz.func125, Tryz.ntmps125
                     go_wp2_with (first
    | (go_at_call 156; (with_reducible refine (hfc.out _).mono ?_); rintro e w1 ⟨rfl, rfl⟩)
    | (go_at_call 156; (with_reducible refine (htc.out _).mono ?_); rintro e w1 ⟨rfl, rfl⟩)
    | (go_at_call 157; (with_reducible refine (hac.out _).mono ?_); rintro e w1 ⟨rfl, rfl⟩)
    | (go_at_call 157; (with_reducible refine (hbc.out _).mono ?_); rintro e w1 ⟨rfl, rfl⟩)
    | (go_at_call 157; (with_reducible refine (hcc.out _).mono ?_); rintro e w1 ⟨rfl, rfl⟩))
                     go_ret
                     exact ⟨by rw [HE.out]; first | rfl | (simp; omega), rfl⟩
                 · skip
                   have hcc := qh (fun W => HF.out fr false W ⟨fun h => (by cases h), fun h => absurd h hc⟩)
                   have HE := qh (show b = false by rw [← HB.out]; first | exact decide_eq_false (by omega) | (simp; omega))
                   go_enter Tryz.func125, Tryz.ntmps125
                   go_wp2_with (first
    | (go_at_call 156; (with_reducible refine (hfc.out _).mono ?_); rintro e w1 ⟨rfl, rfl⟩)
    | (go_at_call 156; (with_reducible refine (htc.out _).mono ?_); rintro e w1 ⟨rfl, rfl⟩)
    | (go_at_call 157; (with_reducible refine (hac.out _).mono ?_); rintro e w1 ⟨rfl, rfl⟩)
    | (go_at_call 157; (with_reducible refine (hbc.out _).mono ?_); rintro e w1 ⟨rfl, rfl⟩)
    | (go_at_call 157; (with_reducible refine (hcc.out _).mono ?_); rintro e w1 ⟨rfl, rfl⟩))
                   go_ret
                   exact ⟨by rw [HE.out]; first | rfl | (simp; omega), rfl⟩
               · skip
                 have hbc := qh (fun W => HF.out ac false W ⟨fun h => (by cases h), fun h => absurd h hb⟩)
                 have HE := qh (show b = false by rw [← HB.out]; first | exact decide_eq_false (by omega) | (simp; omega))
                 go_enter Tryz.func125, Tryz.ntmps125
                 go_wp2_with (first
    | (go_at_call 156; (with_reducible refine (hfc.out _).mono ?_); rintro e w1 ⟨rfl, rfl⟩)
    | (go_at_call 156; (with_reducible refine (htc.out _).mono ?_); rintro e w1 ⟨rfl, rfl⟩)
    | (go_at_call 157; (with_reducible refine (hac.out _).mono ?_); rintro e w1 ⟨rfl, rfl⟩)
    | (go_at_call 157; (with_reducible refine (hbc.out _).mono ?_); rintro e w1 ⟨rfl, rfl⟩)
    | (go_at_call 157; (with_reducible refine (hcc.out _).mono ?_); rintro e w1 ⟨rfl, rfl⟩))
                 go_ret
                 exact ⟨by rw [HE.out]; first | rfl | (simp; omega), rfl⟩
             · skip
               have hac := qh (fun W => HF.out fi false W ⟨fun h => (by cases h), fun h => absurd h ha⟩)
               have HE := qh (show b = false by rw [← HB.out]; first | exact decide_eq_false (by omega) | (simp; omega))
               go_enter Tryz.func125, Tryz.ntmps125
               go_wp2_with (first
    | (go_at_call 156; (with_reducible refine (hfc.out _).mono ?_); rintro e w1 ⟨rfl, rfl⟩)
    | (go_at_call 156; (with_reducible refine (htc.out _).mono ?_); rintro e w1 ⟨rfl, rfl⟩)
    | (go_at_call 157; (with_reducible refine (hac.out _).mono ?_); rintro e w1 ⟨rfl, rfl⟩)
    | (go_at_call 157; (with_reducible refine (hbc.out _).mono ?_); rintro e w1 ⟨rfl, rfl⟩)
    | (go_at_call 157; (with_reducible refine (hcc.out _).mono ?_); rintro e w1 ⟨rfl, rfl⟩))
               go_ret
               exact ⟨by rw [HE.out]; first | rfl | (simp; omega), rfl⟩
           · by_cases hk2 : k = 2
             · subst hk2
               by_cases ha : fi = 0
               · skip
                 subst ha
                 by_cases hb : ac = 0
                 · skip
                   subst hb
                   by_cases hc : fr = 0
                   · skip
                     subst hc
                     by_cases hd : su = 0
                     · skip
                       subst hd
                       by_cases hl : n = 0
                       · skip
                         subst hl
                         have HE := qh (show b = true by rw [← HB.out]; first | exact decide_eq_true (by omega) | (simp; omega))
                         go_enter Tryz.func125, Tryz.ntmps125
                         go_wp2_with (first
    | (go_at_call 156; (with_reducible refine (hfc.out _).mono ?_); rintro e w1 ⟨rfl, rfl⟩)
    | (go_at_call 156; (with_reducible refine (htc.out _).mono ?_); rintro e w1 ⟨rfl, rfl⟩)
    | (go_at_call 157; (with_reducible refine (hac.out _).mono ?_); rintro e w1 ⟨rfl, rfl⟩)
    | (go_at_call 157; (with_reducible refine (hbc.out _).mono ?_); rintro e w1 ⟨rfl, rfl⟩)
    | (go_at_call 157; (with_reducible refine (hcc.out _).mono ?_); rintro e w1 ⟨rfl, rfl⟩))
                         go_ret
                         exact ⟨by rw [HE.out]; first | rfl | (simp; omega), rfl⟩
                       · skip
                         have hlb : ((n : Int) == 0) = false := by simp; omega
                         have HE := qh (show b = false by rw [← HB.out]; first | exact decide_eq_false (by omega) | (simp; omega))
                         go_enter Tryz.func125, Tryz.ntmps125
                         go_wp2_with (first
    | (go_at_call 156; (with_reducible refine (hfc.out _).mono ?_); rintro e w1 ⟨rfl, rfl⟩)
    | (go_at_call 156; (with_reducible refine (htc.out _).mono ?_); rintro e w1 ⟨rfl, rfl⟩)
    | (go_at_call 157; (with_reducible refine (hac.out _).mono ?_); rintro e w1 ⟨rfl, rfl⟩)
    | (go_at_call 157; (with_reducible refine (hbc.out _).mono ?_); rintro e w1 ⟨rfl, rfl⟩)
    | (go_at_call 157; (with_reducible refine (hcc.out _).mono ?_); rintro e w1 ⟨rfl, rfl⟩))
                         go_ret
                         exact ⟨by rw [HE.out]; first | rfl | (simp; omega), rfl⟩
                     · skip
                       have hdb : (su == 0) = false := by simp; omega
                       have HE := qh (show b = false by rw [← HB.out]; first | exact decide_eq_false (by omega) | (simp; omega))
                       go_enter Tryz.func125, Tryz.ntmps125
                       go_wp2_with (first
    | (go_at_call 156; (with_reducible refine (hfc.out _).mono ?_); rintro e w1 ⟨rfl, rfl⟩)
    | (go_at_call 156; (with_reducible refine (htc.out _).mono ?_); rintro e w1 ⟨rfl, rfl⟩)
    | (go_at_call 157; (with_reducible refine (hac.out _).mono ?_); rintro e w1 ⟨rfl, rfl⟩)
    | (go_at_call 157; (with_reducible refine (hbc.out _).mono ?_); rintro e w1 ⟨rfl, rfl⟩)
    | (go_at_call 157; (with_reducible refine (hcc.out _).mono ?_); rintro e w1 ⟨rfl, rfl⟩))
                       go_ret
                       exact ⟨by rw [HE.out]; first | rfl | (simp; omega), rfl⟩
                   · skip
                     have hcb : (fr == 0) = false := by simp; omega
                     have HE := qh (show b = false by rw [← HB.out]; first | exact decide_eq_false (by omega) | (simp; omega))
                     go_enter Tryz.func125, Tryz.ntmps125
                     go_wp2_with (first
    | (go_at_call 156; (with_reducible refine (hfc.out _).mono ?_); rintro e w1 ⟨rfl, rfl⟩)
    | (go_at_call 156; (with_reducible refine (htc.out _).mono ?_); rintro e w1 ⟨rfl, rfl⟩)
    | (go_at_call 157; (with_reducible refine (hac.out _).mono ?_); rintro e w1 ⟨rfl, rfl⟩)
    | (go_at_call 157; (with_reducible refine (hbc.out _).mono ?_); rintro e w1 ⟨rfl, rfl⟩)
    | (go_at_call 157; (with_reducible refine (hcc.out _).mono ?_); rintro e w1 ⟨rfl, rfl⟩))
                     go_ret
                     exact ⟨by rw [HE.out]; first | rfl | (simp; omega), rfl⟩
                 · skip
                   have hbb : (ac == 0) = false := by simp; omega
                   have HE := qh (show b = false by rw [← HB.out]; first | exact decide_eq_false (by omega) | (simp; omega))
                   go_enter Tryz.func125, Tryz.ntmps125
                   go_wp2_with (first
    | (go_at_call 156; (with_reducible refine (hfc.out _).mono ?_); rintro e w1 ⟨rfl, rfl⟩)
    | (go_at_call 156; (with_reducible refine (htc.out _).mono ?_); rintro e w1 ⟨rfl, rfl⟩)
    | (go_at_call 157; (with_reducible refine (hac.out _).mono ?_); rintro e w1 ⟨rfl, rfl⟩)
    | (go_at_call 157; (with_reducible refine (hbc.out _).mono ?_); rintro e w1 ⟨rfl, rfl⟩)
    | (go_at_call 157; (with_reducible refine (hcc.out _).mono ?_); rintro e w1 ⟨rfl, rfl⟩))
                   go_ret
                   exact ⟨by rw [HE.out]; first | rfl | (simp; omega), rfl⟩
               · skip
                 have hab : (fi == 0) = false := by simp; omega
                 have HE := qh (show b = false by rw [← HB.out]; first | exact decide_eq_false (by omega) | (simp; omega))
                 go_enter Tryz.func125, Tryz.ntmps125
                 go_wp2_with (first
    | (go_at_call 156; (with_reducible refine (hfc.out _).mono ?_); rintro e w1 ⟨rfl, rfl⟩)
    | (go_at_call 156; (with_reducible refine (htc.out _).mono ?_); rintro e w1 ⟨rfl, rfl⟩)
    | (go_at_call 157; (with_reducible refine (hac.out _).mono ?_); rintro e w1 ⟨rfl, rfl⟩)
    | (go_at_call 157; (with_reducible refine (hbc.out _).mono ?_); rintro e w1 ⟨rfl, rfl⟩)
    | (go_at_call 157; (with_reducible refine (hcc.out _).mono ?_); rintro e w1 ⟨rfl, rfl⟩))
                 go_ret
                 exact ⟨by rw [HE.out]; first | rfl | (simp; omega), rfl⟩
             · have e1 : (k == 1) = false := by simp; omega
               have e2 : (k == 2) = false := by simp; omega
               have HE := qh (show b = false by rw [← HB.out]; first | exact decide_eq_false (by omega) | (simp; omega))
               go_enter Tryz.func125, Tryz.ntmps125
               go_wp2_with (first
    | (go_at_call 156; (with_reducible refine (hfc.out _).mono ?_); rintro e w1 ⟨rfl, rfl⟩)
    | (go_at_call 156; (with_reducible refine (htc.out _).mono ?_); rintro e w1 ⟨rfl, rfl⟩)
    | (go_at_call 157; (with_reducible refine (hac.out _).mono ?_); rintro e w1 ⟨rfl, rfl⟩)
    | (go_at_call 157; (with_reducible refine (hbc.out _).mono ?_); rintro e w1 ⟨rfl, rfl⟩)
    | (go_at_call 157; (with_reducible refine (hcc.out _).mono ?_); rintro e w1 ⟨rfl, rfl⟩))
               go_ret
               exact ⟨by rw [HE.out]; first | rfl | (simp; omega), rfl⟩
         · skip
           have hi1b : 1099511627776 < id := by omega
           have HE := qh (show b = false by rw [← HB.out]; first | exact decide_eq_false (by omega) | (simp; omega))
           go_enter Tryz.func125, Tryz.ntmps125
           go_wp2_with (first
    | (go_at_call 156; (with_reducible refine (hfc.out _).mono ?_); rintro e w1 ⟨rfl, rfl⟩)
    | (go_at_call 156; (with_reducible refine (htc.out _).mono ?_); rintro e w1 ⟨rfl, rfl⟩)
    | (go_at_call 157; (with_reducible refine (hac.out _).mono ?_); rintro e w1 ⟨rfl, rfl⟩)
    | (go_at_call 157; (with_reducible refine (hbc.out _).mono ?_); rintro e w1 ⟨rfl, rfl⟩)
    | (go_at_call 157; (with_reducible refine (hcc.out _).mono ?_); rintro e w1 ⟨rfl, rfl⟩))
           go_ret
           exact ⟨by rw [HE.out]; first | rfl | (simp; omega), rfl⟩
       · skip
         have hi0b : id < 0 := by omega
         have HE := qh (show b = false by rw [← HB.out]; first | exact decide_eq_false (by omega) | (simp; omega))
         go_enter Tryz.func125, Tryz.ntmps125
         go_wp2_with (first
    | (go_at_call 156; (with_reducible refine (hfc.out _).mono ?_); rintro e w1 ⟨rfl, rfl⟩)
    | (go_at_call 156; (with_reducible refine (htc.out _).mono ?_); rintro e w1 ⟨rfl, rfl⟩)
    | (go_at_call 157; (with_reducible refine (hac.out _).mono ?_); rintro e w1 ⟨rfl, rfl⟩)
    | (go_at_call 157; (with_reducible refine (hbc.out _).mono ?_); rintro e w1 ⟨rfl, rfl⟩)
    | (go_at_call 157; (with_reducible refine (hcc.out _).mono ?_); rintro e w1 ⟨rfl, rfl⟩))
         go_ret
         exact ⟨by rw [HE.out]; first | rfl | (simp; omega), rfl⟩
     · skip
       have hft2 : t = f := by omega
       subst hft2
       have HE := qh (show b = false by rw [← HB.out]; first | exact decide_eq_false (by omega) | (simp; omega))
       go_enter Tryz.func125, Tryz.ntmps125
       go_wp2_with (first
    | (go_at_call 156; (with_reducible refine (hfc.out _).mono ?_); rintro e w1 ⟨rfl, rfl⟩)
    | (go_at_call 156; (with_reducible refine (htc.out _).mono ?_); rintro e w1 ⟨rfl, rfl⟩)
    | (go_at_call 157; (with_reducible refine (hac.out _).mono ?_); rintro e w1 ⟨rfl, rfl⟩)
    | (go_at_call 157; (with_reducible refine (hbc.out _).mono ?_); rintro e w1 ⟨rfl, rfl⟩)
    | (go_at_call 157; (with_reducible refine (hcc.out _).mono ?_); rintro e w1 ⟨rfl, rfl⟩))
       go_ret
       exact ⟨by rw [HE.out]; first | rfl | (simp; omega), rfl⟩
   · skip
     have htc := qh (fun W => HP.out t false W ⟨fun h => (by cases h), fun h => absurd h ht⟩)
     have HE := qh (show b = false by rw [← HB.out]; first | exact decide_eq_false (by omega) | (simp; omega))
     go_enter Tryz.func125, Tryz.ntmps125
     go_wp2_with (first
      | (go_at_call 156; (with_reducible refine (hfc.out _).mono ?_); rintro e w1 ⟨rfl, rfl⟩)
      | (go_at_call 156; (with_reducible refine (htc.out _).mono ?_); rintro e w1 ⟨rfl, rfl⟩)
      | (go_at_call 157; (with_reducible refine (hac.out _).mono ?_); rintro e w1 ⟨rfl, rfl⟩)
      | (go_at_call 157; (with_reducible refine (hbc.out _).mono ?_); rintro e w1 ⟨rfl, rfl⟩)
      | (go_at_call 157; (with_reducible refine (hcc.out _).mono ?_); rintro e w1 ⟨rfl, rfl⟩))
     go_ret
     exact ⟨by rw [HE.out]; first | rfl | (simp; omega), rfl⟩
 · skip
   have hfc := qh (fun W => HP.out f false W ⟨fun h => (by cases h), fun h => absurd h hf⟩)
   have HE := qh (show b = false by rw [← HB.out]; first | exact decide_eq_false (by omega) | (simp; omega))
   go_enter Tryz.func125, Tryz.ntmps125
   go_wp2_with (first
    | (go_at_call 156; (with_reducible refine (hfc.out _).mono ?_); rintro e w1 ⟨rfl, rfl⟩)
    | (go_at_call 156; (with_reducible refine (htc.out _).mono ?_); rintro e w1 ⟨rfl, rfl⟩)
    | (go_at_call 157; (with_reducible refine (hac.out _).mono ?_); rintro e w1 ⟨rfl, rfl⟩)
    | (go_at_call 157; (with_reducible refine (hbc.out _).mono ?_); rintro e w1 ⟨rfl, rfl⟩)
    | (go_at_call 157; (with_reducible refine (hcc.out _).mono ?_); rintro e w1 ⟨rfl, rfl⟩))
   go_ret
   exact ⟨by rw [HE.out]; first | rfl | (simp; omega), rfl⟩
theorem encG_two (gs : List Gr) (h : ∀ g ∈ gs, g.1 ≤ 63) : ∀ a, (encG a gs).length ≤ 2 * gs.length := by
 induction gs with
 | nil => intro a; exact nl 0
 | cons g r ih =>
   intro a
   have h1 := ih (fun x hx => h x (by simp [hx])) g.2
   have h2 := h g (by simp)
   have h3 : (putN (g.1 : Int)).length = 1 := by rw [putN_small g.1 h2]; rfl
   rw [encG, List.length_append, List.length_cons, List.length_cons]
   omega
theorem putN_bound (n : Int) (h0 : 0 ≤ n) (k : Nat) (hk : 2 * n.toNat < 128 ^ k) (h1 : 0 < k) : (putN n).length ≤ k := by
 unfold putN
 refine putU_len _ k ?_ h1
 unfold zig
 rw [if_neg (by omega)]
 exact hk
theorem enc_short (k f t id fi ac fr su : Int) (l : List UInt8) : (encC k f t id fi ac fr su l).length ≤ 100 := by
 unfold encC
 split
 · rename_i h
   obtain ⟨⟨_, _, _, _, _, i0, i1⟩, hh⟩ := h
   have h1 := putN_bound id i0 6 (by have : (128 : Nat) ^ 6 = 4398046511104 := by decide
                                     omega) (by omega)
   rw [sealK_len]
   unfold bodyC headK
   rcases hh with ⟨rfl, a0, a1, b0, b1, c0, c1, hl⟩ | ⟨rfl, _⟩
   · rw [if_pos rfl]
     have e2 : (128 : Nat) ^ 2 = 16384 := by decide
     have h2 := putN_bound fi a0 2 (by omega) (by omega)
     have h3 := putN_bound ac b0 2 (by omega) (by omega)
     have h4 := putN_bound fr c0 2 (by omega) (by omega)
     have h5 := putN_bound (l.length : Int) (by omega) 1 (by omega) (by omega)
     have h6 := encG_two (groups l) (fun g hg => by have := group_le l g hg; omega) 0
     have h7 := flat_len _ (groups_gd l)
     rw [flat_groups] at h7
     unfold tailK
     simp only [List.length_append, List.length_cons, s4_len]
     omega
   · rw [if_neg (by omega)]
     simp only [List.length_cons]
     omega
 · show 0 ≤ 100; omega
theorem enc_is {k f t id fi ac fr su : Int} {l : List UInt8} (h : mayC k f t id fi ac fr su l.length) (h0 : 0 ≤ su) (h1 : su ≤ 4294967295) : IsK (encC k f t id fi ac fr su l) ⟨k, f, t, id, fi, ac, fr, su, l⟩ :=
 ⟨h, ⟨h0, h1⟩, by unfold encC; rw [if_pos h]; rfl⟩
open Go.Joins Go.ChangeShapes Go.WideShapes Go.ChangeAt Go.RowKit Go.Deep
section
variable {H : Type} {enc : TypeId × Value → H} {P : Program} {w : World} {base : Nat} {spare : Nat → Bool} {held : Bool}
theorem open_struct_val {r : Reach} {b0 : Nat} {t : TypeId} {fs : Array Field} {v : Value} {d : DataW H} {p : List MemPlace} (hs : P.underlying t = some (.struct fs)) (hone : oneCellFields P fs = true) (hC : P.cellsOf t = fs.size)
 (hv : Value.okWide P w r b0 t v) (h : DataW.Trod enc P w base spare held t v d p) :
 ∃ cs : Array Value, v = .agg cs ∧ cs.size = fs.size ∧ ∀ (j : Nat) (f : Field), fs[j]? = some f → ∃ (u : Value) (y : DataW H × List MemPlace) (n : Nat), cs[j]? = some u ∧ DataW.trod enc P w base spare held n f.type [u] = some y := by
 obtain ⟨cs, rfl, hsz⟩ := okWide_struct hs hv
 obtain ⟨fuel, hf⟩ := h
 obtain ⟨ys, n', hn', hy, hlen, hyl, hf⟩ := DataW.trod_struct hs hf
 refine ⟨cs, rfl, hsz.trans hC, fun j f hj => ?_⟩
 obtain ⟨ho, hk⟩ := hone_of hone j f hj
 have hjl : j < fs.size := (Array.getElem?_eq_some_iff.1 hj).1
 have hcj : j < cs.size := by rw [hsz, hC]; exact hjl
 have h1 := hf j f hj
 rw [ho, hk] at h1
 have hone' : ((Value.agg cs).cells.toList.drop j).take 1 = [cs[j]] := by
  have e : (Value.agg cs).cells.toList = cs.toList := rfl
  rw [e, List.drop_eq_getElem_cons (by simpa using hcj)]
  simp
 rw [hone'] at h1
 have hys : ys[j]? = some (ys[j]'(by omega)) := List.getElem?_eq_getElem (by omega)
 exact ⟨cs[j], _, _, by simp [hcj], h1.trans hys⟩
end
section
variable {H : Type} {enc : TypeId × Value → H}
end
end Go.Proofs.YtpnobpligchpiaaGreatDoor
