/- PLAIN: how long a packet's bytes are; a byte that was changed. -/
import Derived.Test.YtclgcfofgiejgaaDoorQa
namespace Go.Proofs.YtclgcfofgiejgaaDoor
set_option linter.unusedVariables false

theorem encG_two (gs : List Gr) (h : ∀ g ∈ gs, g.1 ≤ 63) : ∀ a, (encG a gs).length ≤ 2 * gs.length := by
  induction gs with
  | nil => intro a; exact Nat.le_refl 0
  | cons g r ih =>
    intro a
    have h1 := ih (fun x hx => h x (by simp [hx])) g.2
    have h2 := h g (by simp)
    have h3 : (putN (g.1 : Int)).length = 1 := by rw [putN_small g.1 h2]; rfl
    rw [encG, List.length_append, List.length_cons, List.length_cons]
    omega
theorem putN_bound (n : Int) (h0 : 0 ≤ n) (k : Nat) (hk : 2 * n.toNat < 128 ^ k) (h1 : 0 < k) : (putN n).length ≤ k := by
  unfold putN
  refine putU_len _ k ?_ h1
  unfold zig
  rw [if_neg (by omega)]
  exact hk
theorem enc_short (k f t id fi ac fr su : Int) (l : List UInt8) : (encC k f t id fi ac fr su l).length ≤ 100 := by
  unfold encC
  split
  · rename_i h
    obtain ⟨⟨_, _, _, _, _, i0, i1⟩, hh⟩ := h
    have h1 := putN_bound id i0 6 (by have : (128 : Nat) ^ 6 = 4398046511104 := by decide
                                      omega) (by omega)
    rw [sealK_len]
    unfold bodyC headK
    rcases hh with ⟨rfl, a0, a1, b0, b1, c0, c1, hl⟩ | ⟨rfl, _⟩
    · rw [if_pos rfl]
      have e2 : (128 : Nat) ^ 2 = 16384 := by decide
      have h2 := putN_bound fi a0 2 (by omega) (by omega)
      have h3 := putN_bound ac b0 2 (by omega) (by omega)
      have h4 := putN_bound fr c0 2 (by omega) (by omega)
      have h5 := putN_bound (l.length : Int) (by omega) 1 (by omega) (by omega)
      have h6 := encG_two (groups l) (fun g hg => by have := group_le l g hg; omega) 0
      have h7 := flat_len _ (groups_gd l)
      rw [flat_groups] at h7
      unfold tailK
      simp only [List.length_append, List.length_cons, s4_len]
      omega
    · rw [if_neg (by omega)]
      simp only [List.length_cons]
      omega
  · show 0 ≤ 100; omega
theorem enc_some {k f t id fi ac fr su : Int} {l : List UInt8} (h : mayC k f t id fi ac fr su l.length) : 0 < (encC k f t id fi ac fr su l).length := by
  unfold encC
  rw [if_pos h, sealK_len]; omega
theorem enc_none {k f t id fi ac fr su : Int} {l : List UInt8} (h : ¬ mayC k f t id fi ac fr su l.length) : encC k f t id fi ac fr su l = [] := by
  unfold encC
  rw [if_neg h]
theorem enc_is {k f t id fi ac fr su : Int} {l : List UInt8} (h : mayC k f t id fi ac fr su l.length) (h0 : 0 ≤ su) (h1 : su ≤ 4294967295) : IsK (encC k f t id fi ac fr su l) ⟨k, f, t, id, fi, ac, fr, su, l⟩ :=
  ⟨h, ⟨h0, h1⟩, by unfold encC; rw [if_pos h]; rfl⟩
theorem is_nil : ∀ p, ¬ IsK [] p := fun p hp => by have := is_long hp; simp at this
theorem xor_self_ne (a x : UInt8) (h : x ≠ 0) : a ^^^ x ≠ a := fun e => h (by
  have h1 : a ^^^ (a ^^^ x) = a ^^^ a := by rw [e]
  rw [← UInt8.xor_assoc, UInt8.xor_self, UInt8.zero_xor] at h1
  exact h1)
theorem split_at (B : List UInt8) (j : Nat) (hj : j < B.length) : B = B.take j ++ [B[j]] ++ B.drop (j + 1) := by
  have h := List.take_append_drop (j + 1) B
  rw [List.take_succ_eq_append_getElem hj] at h
  exact h.symm
theorem set_at (B : List UInt8) (j : Nat) (hj : j < B.length) (y : UInt8) : B.set j y = B.take j ++ [y] ++ B.drop (j + 1) := by
  rw [List.set_eq_take_append_cons_drop, if_pos hj]
  simp
/-- whichever byte is changed: no packet -/
theorem is_changed {b : List UInt8} {p : Pk} (h : IsK b p) (j : Nat) (hj : j < b.length) (x : UInt8) (hx : x ≠ 0) : ∀ q, ¬ IsK (b.set j (b[j] ^^^ x)) q := fun q hq => by
  have h1 := h.2.2
  have h2 := hq.2.2
  obtain ⟨B, hB⟩ : ∃ B, p.body = B := ⟨_, rfl⟩
  obtain ⟨D, hD⟩ : ∃ D, q.body = D := ⟨_, rfl⟩
  rw [hB] at h1
  rw [hD] at h2
  subst h1
  have hl : D.length = B.length := by
    have e := congrArg List.length h2
    rw [List.length_set, sealK_len, sealK_len] at e
    omega
  by_cases hjn : j < B.length
  · have e1 : (sealK B)[j] = B[j] := by unfold sealK; exact List.getElem_append_left hjn
    rw [e1] at h2
    unfold sealK at h2
    rw [List.set_append_left _ _ hjn] at h2
    obtain ⟨e2, e3⟩ := List.append_inj h2 (by rw [List.length_set]; exact hl)
    have e4 := tn_inj (s4_inj (tn_rng _) (tn_rng _) e3)
    rw [e2, set_at B j hjn] at e4
    have hne := sumL_burst (B.take j) [B[j]] (B.drop (j + 1)) [x] rfl (by show 1 ≤ 4; omega) ⟨x, by simp, hx⟩
    apply hne
    have ez : zipX [B[j]] [x] = [B[j] ^^^ x] := rfl
    rw [ez, e4, ← split_at B j hjn]
  · have hl4 : j - B.length < (s4 (tn (sumL B))).length := by rw [s4_len]; rw [sealK_len] at hj; omega
    have e1 : (sealK B)[j] = (s4 (tn (sumL B)))[j - B.length] := by unfold sealK; exact List.getElem_append_right (by omega)
    rw [e1] at h2
    unfold sealK at h2
    rw [List.set_append_right _ _ (by omega)] at h2
    obtain ⟨e2, e3⟩ := List.append_inj h2 hl
    subst e2
    have e5 := congrArg (fun l : List UInt8 => l[j - D.length]?) e3
    simp only [List.getElem?_set_self hl4, List.getElem?_eq_getElem hl4, Option.some.injEq] at e5
    exact xor_self_ne _ x hx e5.symm
end Go.Proofs.YtclgcfofgiejgaaDoor
