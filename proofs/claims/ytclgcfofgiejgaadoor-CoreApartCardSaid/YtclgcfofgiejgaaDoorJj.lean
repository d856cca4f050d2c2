/- PLAIN: what is read as runs was written so: there and back. -/
import Derived.Test.YtclgcfofgiejgaaDoorJh
namespace Go.Proofs.YtclgcfofgiejgaaDoor

def grs (a : UInt8) : List It → List Gr
  | [] => []
  | x :: r => (x.1.toNat, a ^^^ x.2.1) :: grs (a ^^^ x.2.1) r
theorem flat_grs (its : List It) : ∀ a, flat (grs a its) = expand a its := by
  induction its with
  | nil => intro a; rfl
  | cons x r ih => intro a; rw [grs, flat, expand, ih]
theorem xor_back2 (a c : UInt8) : (a ^^^ c) ^^^ a = c := by
  rw [UInt8.xor_comm a c, UInt8.xor_assoc, UInt8.xor_self, UInt8.xor_zero]
theorem xor_ne2 (a c : UInt8) (h : c ≠ 0) : a ^^^ c ≠ a := fun e => h (by
  have := xor_back2 a c
  rw [e, UInt8.xor_self] at this
  exact this.symm)
theorem stepR_split {f : Bool} {l : List UInt8} {n : Int} {c : UInt8} {k : Nat} (h : stepR f l = some (n, c, k)) : l = putN n ++ c :: l.drop (k + 1) ∧ 1 ≤ n ∧ (f = true ∨ c ≠ 0) := by
  unfold stepR at h
  split at h
  · rename_i u k' hg
    have hs := getN_split l u k' hg
    split at h
    · rename_i hk
      split at h
      · cases h
      · rename_i hn
        simp only [Option.some.injEq, Prod.mk.injEq] at h
        obtain ⟨rfl, rfl, rfl⟩ := h
        refine ⟨?_, by omega, ?_⟩
        · have hd := List.drop_eq_getElem_cons hk
          rw [← hd]
          exact hs
        · by_cases hf : f = true
          · exact .inl hf
          · exact .inr (fun e => hn (.inr ⟨by simpa using hf, e⟩))
    · cases h
  · cases h
theorem items_back (l : List UInt8) : ∀ f a, (∀ x ∈ items f l, x.2.2 = true) → encG a (grs a (items f l)) = l ∧ Gd (grs a (items f l)) ∧ (f = false → ∀ g r, grs a (items f l) = g :: r → g.2 ≠ a) := by
  induction hn : l.length using Nat.strongRecOn generalizing l with
  | _ m ih =>
    intro f a hall
    rcases Nat.eq_zero_or_pos l.length with h0 | h0
    · obtain rfl := List.eq_nil_of_length_eq_zero h0
      rw [items_nil]
      exact ⟨rfl, trivial, fun _ g r e => by cases e⟩
    cases hs : stepR f l with
    | none =>
      rw [items_bad h0 hs] at hall
      have := hall (0, 0, false) (by simp)
      cases this
    | some x =>
      obtain ⟨n, c, k⟩ := x
      obtain ⟨e1, e2, e3⟩ := stepR_split hs
      have hlt := (stepR_lt hs).1
      rw [items_ok hs] at hall ⊢
      obtain ⟨i1, i2, i3⟩ := ih (l.drop (k + 1)).length (by rw [List.length_drop]; omega) (l.drop (k + 1)) rfl false (a ^^^ c) (fun x hx => hall x (by simp [hx]))
      refine ⟨?_, ?_, fun hf g r e => ?_⟩
      · show putN ((n.toNat : Nat) : Int) ++ ((a ^^^ c) ^^^ a) :: encG (a ^^^ c) (grs (a ^^^ c) (items false (l.drop (k + 1)))) = l
        rw [i1, xor_back2, show ((n.toNat : Nat) : Int) = n by omega]
        exact e1.symm
      · show Gd ((n.toNat, a ^^^ c) :: grs (a ^^^ c) (items false (l.drop (k + 1))))
        cases hg : grs (a ^^^ c) (items false (l.drop (k + 1))) with
        | nil => show 1 ≤ n.toNat; omega
        | cons g r =>
          rw [hg] at i2
          exact ⟨by show 1 ≤ n.toNat; omega, fun e => i3 rfl g r hg e.symm, i2⟩
      · have e : ((n.toNat, a ^^^ c) : Gr) = g := by
          have := List.cons.inj e
          exact this.1
        rw [← e]
        rcases e3 with h | h
        · rw [hf] at h; cases h
        · exact xor_ne2 a c h
/-- bytes that are runs are just those of the presses that they tell -/
theorem enc_back (l : List UInt8) (most t : Int) (h : cnt most 0 (items true l) = .ok t) : encG 0 (groups (expand 0 (items true l))) = l := by
  have hall : ∀ x ∈ items true l, x.2.2 = true := fun x hx => (cnt_each most _ 0 t (fun y hy => (items_in l true y hy).1) h x hx).2
  obtain ⟨h1, h2, _⟩ := items_back l true 0 hall
  rw [← flat_grs, groups_flat _ h2]
  exact h1
/-- presses are read back -/
theorem items_of (l : List UInt8) (hl : l.length ≤ 4096) : items true (encG 0 (groups l)) = chg 0 (groups l) :=
  items_enc (groups l) true 0 (groups_gd l) (fun g hg => by have := group_le l g hg; omega) (.inl rfl)
theorem expand_of (l : List UInt8) (hl : l.length ≤ 4096) : expand 0 (items true (encG 0 (groups l))) = l := by rw [items_of l hl, expand_chg, flat_groups]
theorem cnt_of (l : List UInt8) (hl : l.length ≤ 4096) (most : Int) (h : 0 ≤ most) : cnt most 0 (items true (encG 0 (groups l))) = if most < (l.length : Int) then .full else .ok (l.length : Int) := by
  rw [items_of l hl, cnt_chg _ _ _ _ h, flat_groups]
  simp
theorem enc_inj (a b : List UInt8) (ha : a.length ≤ 4096) (hb : b.length ≤ 4096) (h : encG 0 (groups a) = encG 0 (groups b)) : a = b := by
  rw [← expand_of a ha, h, expand_of b hb]
theorem putN_small (n : Nat) (h : n ≤ 63) : putN (n : Int) = [UInt8.ofNat (2 * n)] := by
  have e : zig (n : Int) = 2 * n := by unfold zig; rw [if_neg (by omega)]; simp
  unfold putN
  rw [e, putU_small _ (by omega)]
theorem putN_mid (n : Nat) (h : 63 < n) (h2 : n ≤ 3000) : (putN (n : Int)).length = 2 := by
  have e : zig (n : Int) = 2 * n := by unfold zig; rw [if_neg (by omega)]; simp
  unfold putN
  rw [e, putU_big _ (by omega), putU_small _ (by omega)]
  rfl
end Go.Proofs.YtclgcfofgiejgaaDoor
