/- MERGED of XQn XQo -/
import Derived.Test.YtclgcfofgiejgaaDoorQm
import Derived.Test.YtclgcfofgiejgaaDoorQa
/- XQn -/
namespace Go.Proofs.YtclgcfofgiejgaaDoor
set_option maxRecDepth 100000
open Go.RowKit
set_option linter.unusedVariables false
set_option linter.unusedSimpArgs false

end Go.Proofs.YtclgcfofgiejgaaDoor

/- XQo -/
namespace Go.Proofs.YtclgcfofgiejgaaDoor
set_option linter.unusedVariables false

def numJ (p : Pk) : Nat → Int
  | 0 => p.id
  | 1 => p.fi
  | 2 => p.ac
  | _ => p.fr
def tlK (p : Pk) : List UInt8 := s4 p.su ++ (putN (p.l.length : Int) ++ encG 0 (groups p.l))
/-- what is left behind j numbers -/
def remJ (p : Pk) : Nat → List UInt8
  | 0 => putN p.id ++ (if p.k = 1 then putN p.fi ++ (putN p.ac ++ (putN p.fr ++ tlK p)) else [])
  | 1 => if p.k = 1 then putN p.fi ++ (putN p.ac ++ (putN p.fr ++ tlK p)) else []
  | 2 => putN p.ac ++ (putN p.fr ++ tlK p)
  | 3 => putN p.fr ++ tlK p
  | _ => tlK p
theorem numJ_in (p : Pk) (h : p.may) (j : Nat) : 0 ≤ numJ p j ∧ numJ p j ≤ 1099511627776 := by
  obtain ⟨⟨_, _, _, _, _, i0, i1⟩, h⟩ := h
  match j with
  | 0 => exact ⟨i0, i1⟩
  | 1 => show 0 ≤ p.fi ∧ p.fi ≤ _; omega
  | 2 => show 0 ≤ p.ac ∧ p.ac ≤ _; omega
  | n + 3 => show 0 ≤ p.fr ∧ p.fr ≤ _; omega
theorem rem_step (p : Pk) (j : Nat) (h : j = 0 ∨ (p.k = 1 ∧ j < 4)) : remJ p j = putN (numJ p j) ++ remJ p (j + 1) := by
  rcases h with rfl | ⟨hk, hj⟩
  · rfl
  · obtain rfl | rfl | rfl | rfl : j = 0 ∨ j = 1 ∨ j = 2 ∨ j = 3 := by omega
    · rfl
    · show (if p.k = 1 then _ else _) = _; rw [if_pos hk]; rfl
    · rfl
    · rfl
theorem body_rem (p : Pk) : p.body = u8 p.k :: u8 p.f :: u8 p.t :: remJ p 0 := by
  unfold Pk.body bodyC headK remJ tailK tlK
  by_cases h : p.k = 1
  · rw [if_pos h, if_pos h]; simp only [List.cons_append]
  · rw [if_neg h, if_neg h, List.append_nil]; rfl
theorem is_head {b : List UInt8} {p : Pk} (h : IsK b p) : ∃ z, b = u8 p.k :: u8 p.f :: u8 p.t :: (remJ p 0 ++ s4 z) := by
  refine ⟨tn (sumL p.body), ?_⟩
  rw [← h.2.2]
  unfold sealK
  rw [body_rem]
  rfl
theorem may_bytes {p : Pk} (h : p.may) : (0 ≤ p.k ∧ p.k ≤ 255) ∧ (0 ≤ p.f ∧ p.f ≤ 255) ∧ (0 ≤ p.t ∧ p.t ≤ 255) := by
  obtain ⟨⟨_, _, _, _, _, _, _⟩, h⟩ := h
  omega
/-- the middle of the bytes -/
theorem is_mid {b : List UInt8} {p : Pk} (h : IsK b p) (e : Nat) (he : b.length = e + 7) (h0 : 0 < b.length) (h1 : 1 < b.length) (h2 : 2 < b.length) :
    (b.drop 3).take e = remJ p 0 ∧ ((b[0].toNat : Int) = p.k) ∧ ((b[1].toNat : Int) = p.f) ∧ ((b[2].toNat : Int) = p.t) := by
  obtain ⟨z, hz⟩ := is_head h
  obtain ⟨⟨k0, k1⟩, ⟨f0, f1⟩, ⟨t0, t1⟩⟩ := may_bytes h.1
  subst hz
  have hl : (remJ p 0).length = e := by
    simp only [List.length_cons, List.length_append, s4_len] at he
    omega
  refine ⟨?_, u8_num _ k0 k1, u8_num _ f0 f1, u8_num _ t0 t1⟩
  show (remJ p 0 ++ s4 z).take e = _
  rw [← hl, List.take_left]
/-- what a loop over the numbers knows: of each packet that the bytes may be -/
def InvK (b x : List UInt8) (m j : Nat) (v : Nat → Int) : Prop := ∀ p, IsK b p → x.drop m = remJ p j ∧ ∀ q, q < j → v q = numJ p q
theorem inv_get {b x : List UInt8} {m j : Nat} {v : Nat → Int} (h : InvK b x m j v) {p : Pk} (hp : IsK b p) (hj : j = 0 ∨ (p.k = 1 ∧ j < 4)) : getN (x.drop m) = .ok (zig (numJ p j)) (putN (numJ p j)).length := by
  have hn := numJ_in p hp.1 j
  rw [(h p hp).1, rem_step p j hj, getN_put _ _ (by unfold in64; omega)]
theorem inv_next {b x : List UInt8} {m j u k : Nat} {v : Nat → Int} (h : InvK b x m j v) (hk : ∀ p, IsK b p → j = 0 ∨ (p.k = 1 ∧ j < 4)) (hg : getN (x.drop m) = .ok u k) :
    InvK b x (m + k) (j + 1) (fun q => if q = j then zag u else v q) := fun p hp => by
  have h1 := inv_get h hp (hk p hp)
  rw [hg] at h1
  obtain ⟨e1, e2⟩ := got_inj h1
  obtain ⟨h2, h3⟩ := h p hp
  refine ⟨?_, fun q hq => ?_⟩
  · rw [← List.drop_drop, h2, rem_step p j (hk p hp), e2, List.drop_left]
  · show (if q = j then zag u else v q) = _
    by_cases hqj : q = j
    · rw [if_pos hqj, hqj, e1, zag_zig]
    · rw [if_neg hqj]; exact h3 q (by omega)
theorem inv_none {b x : List UInt8} {m j : Nat} {v : Nat → Int} (h : InvK b x m j v) (hk : ∀ p, IsK b p → j = 0 ∨ (p.k = 1 ∧ j < 4)) (hg : (∀ u k, getN (x.drop m) ≠ .ok u k) ∨ ∃ u k, getN (x.drop m) = .ok u k ∧ (zag u < 0 ∨ 1099511627776 < zag u)) : ∀ p, ¬ IsK b p := fun p hp => by
  have h1 := inv_get h hp (hk p hp)
  rcases hg with hg | ⟨u, k, hg, hz⟩
  · exact hg _ _ h1
  · rw [hg] at h1
    obtain ⟨e1, _⟩ := got_inj h1
    rw [e1, zag_zig] at hz
    have := numJ_in p hp.1 j
    omega
/-- behind four numbers: the sum's bytes, the count, the runs -/
theorem inv_sum {b x : List UInt8} {m : Nat} {v : Nat → Int} (h : InvK b x m 4 v) {p : Pk} (hp : IsK b p) : (x.drop m).take 4 = s4 p.su ∧ acc4 ((x.drop m).take 4) = p.su ∧ x.drop (m + 4) = putN (p.l.length : Int) ++ encG 0 (groups p.l) ∧ 4 ≤ (x.drop m).length := by
  have e := (h p hp).1
  have e2 : x.drop m = s4 p.su ++ (putN (p.l.length : Int) ++ encG 0 (groups p.l)) := e
  have e3 : (x.drop m).take 4 = s4 p.su := by rw [e2]; rfl
  refine ⟨e3, by rw [e3]; exact acc4_s4 _ hp.2.1.1 hp.2.1.2, ?_, ?_⟩
  · rw [← List.drop_drop, e2]; rfl
  · rw [e2, List.length_append, s4_len]; omega
theorem may_len {p : Pk} (h : p.may) (hk : p.k = 1) : p.l.length ≤ 32 := by
  obtain ⟨_, h⟩ := h
  omega
theorem may_quit {p : Pk} (h : p.may) (hk : p.k ≠ 1) : p.fi = 0 ∧ p.ac = 0 ∧ p.fr = 0 ∧ p.su = 0 ∧ p.l = [] := by
  obtain ⟨_, h⟩ := h
  refine ⟨by omega, by omega, by omega, by omega, List.eq_nil_of_length_eq_zero (by omega)⟩
theorem runs_of {p : Pk} (h : p.may) (hk : p.k = 1) : cnt 32 0 (items true (encG 0 (groups p.l))) = .ok (p.l.length : Int) ∧ expand 0 (items true (encG 0 (groups p.l))) = p.l := by
  have hl := may_len h hk
  rw [cnt_of p.l (by omega) 32 (by omega), if_neg (by omega), expand_of p.l (by omega)]
  exact ⟨rfl, rfl⟩
/-- of a candidate: the bytes are its own, or nobody's -/
theorem is_cand {b : List UInt8} (c : Pk) (hs : 0 ≤ c.su ∧ c.su ≤ 4294967295) (h8 : 0 < b.length) (hc : ∀ p, IsK b p → p = c) : (c.enc = b → IsK b c) ∧ (c.enc ≠ b → ∀ p, ¬ IsK b p) := by
  constructor
  · intro h
    unfold Pk.enc encC at h
    split at h
    · rename_i hm
      exact ⟨hm, hs, h⟩
    · rw [← h] at h8; cases h8
  · intro h p hp
    have e := hc p hp
    subst e
    apply h
    unfold Pk.enc encC
    exact (if_pos (show mayC p.k p.f p.t p.id p.fi p.ac p.fr p.su p.l.length from hp.1)).trans hp.2.2
theorem inv_count {b x : List UInt8} {m : Nat} {v : Nat → Int} (h : InvK b x m 4 v) {p : Pk} (hp : IsK b p) (hk : p.k = 1) : getN (x.drop (m + 4)) = .ok (zig (p.l.length : Int)) (putN (p.l.length : Int)).length := by
  have hl := may_len hp.1 hk
  rw [(inv_sum h hp).2.2.1, getN_put _ _ (by unfold in64; omega)]
theorem inv_runs {b x : List UInt8} {m u k : Nat} {v : Nat → Int} (h : InvK b x m 4 v) {p : Pk} (hp : IsK b p) (hk : p.k = 1) (hg : getN (x.drop (m + 4)) = .ok u k) : x.drop (m + 4 + k) = encG 0 (groups p.l) ∧ zag u = (p.l.length : Int) := by
  have h1 := inv_count h hp hk
  rw [hg] at h1
  obtain ⟨e1, e2⟩ := got_inj h1
  refine ⟨?_, by rw [e1, zag_zig]⟩
  rw [← List.drop_drop, (inv_sum h hp).2.2.1, e2, List.drop_left]
/-- the candidate of a PInput -/
theorem cand_in {b x : List UInt8} {m : Nat} {v : Nat → Int} (h : InvK b x m 4 v) {a0 a1 a2 y : Int} {ys : List UInt8} (hh : ∀ p, IsK b p → a0 = p.k ∧ a1 = p.f ∧ a2 = p.t) (hk : a0 = 1) (hy : y = acc4 ((x.drop m).take 4)) (hr : ∀ p, IsK b p → p.k = 1 → ys = p.l) :
    ∀ p, IsK b p → p = ⟨a0, a1, a2, v 0, v 1, v 2, v 3, y, ys⟩ := fun p hp => by
  obtain ⟨e0, e1, e2⟩ := hh p hp
  obtain ⟨_, e3⟩ := h p hp
  have e4 := (inv_sum h hp).2.1
  have e5 := hr p hp (by omega)
  rw [e0, e1, e2, e3 0 (by omega), e3 1 (by omega), e3 2 (by omega), e3 3 (by omega), hy, e4, e5]
  rfl
/-- the candidate of another kind -/
theorem cand_out {b x : List UInt8} {m : Nat} {v : Nat → Int} (h : InvK b x m 1 v) {a0 a1 a2 : Int} (hh : ∀ p, IsK b p → a0 = p.k ∧ a1 = p.f ∧ a2 = p.t) (hk : a0 ≠ 1) (hv : ∀ q, 1 ≤ q → v q = 0) :
    ∀ p, IsK b p → p = ⟨a0, a1, a2, v 0, v 1, v 2, v 3, 0, []⟩ := fun p hp => by
  obtain ⟨e0, e1, e2⟩ := hh p hp
  obtain ⟨_, e3⟩ := h p hp
  obtain ⟨f1, f2, f3, f4, f5⟩ := may_quit hp.1 (by omega)
  rw [e0, e1, e2, e3 0 (by omega), hv 1 (by omega), hv 2 (by omega), hv 3 (by omega)]
  obtain ⟨k, f, t, id, fi, ac, fr, su, l⟩ := p
  simp only at f1 f2 f3 f4 f5
  subst f1 f2 f3 f4 f5
  rfl
end Go.Proofs.YtclgcfofgiejgaaDoor
