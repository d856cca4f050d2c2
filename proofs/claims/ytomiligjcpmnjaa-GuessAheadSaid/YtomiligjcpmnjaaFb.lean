/- PLAIN: the values in order as a list; scores out of what was pressed; the first; the chain. -/
import Derived.Test.YtomiligjcpmnjaaFj
namespace Go.Proofs.Ytomiligjcpmnjaa
set_option maxRecDepth 100000
set_option linter.unusedVariables false

def ins (S : Nat → Int) (v : UInt8) : List UInt8 → List UInt8
  | [] => [v]
  | u :: t => if S u.toNat ≤ S v.toNat then v :: u :: t else u :: ins S v t
def rkF (S : Nat → Int) : Nat → Nat → List UInt8
  | 0, _ => []
  | n + 1, a => ins S (UInt8.ofNat a) (rkF S n (a + 1))
/-- all values in their order -/
def rk (S : Nat → Int) : List UInt8 := rkF S 256 0
theorem ins_mem {S : Nat → Int} {v x : UInt8} : ∀ {l : List UInt8}, x ∈ ins S v l ↔ x = v ∨ x ∈ l
  | [] => by simp [ins]
  | u :: t => by
    unfold ins
    split
    · simp
    · rw [List.mem_cons, ins_mem, List.mem_cons]
      constructor
      · rintro (h | h | h) <;> simp [h]
      · rintro (h | h | h) <;> simp [h]
theorem ins_len {S : Nat → Int} {v : UInt8} : ∀ {l : List UInt8}, (ins S v l).length = l.length + 1
  | [] => rfl
  | u :: t => by
    unfold ins
    split
    · simp
    · simp [ins_len]
theorem ins_pair {S : Nat → Int} {v : UInt8} : ∀ {l : List UInt8}, l.Pairwise (ah S) → (∀ u ∈ l, v.toNat < u.toNat) → (ins S v l).Pairwise (ah S)
  | [], _, _ => by simp [ins]
  | u :: t, h, hv => by
    have h2 := List.pairwise_cons.1 h
    have hu := hv u (by simp)
    unfold ins
    split
    · rename_i hs
      have h0 : ah S v u := by unfold ah; omega
      refine List.pairwise_cons.2 ⟨fun x hx => ?_, h⟩
      rcases List.mem_cons.1 hx with rfl | hx
      · exact h0
      · exact ah_trans h0 (h2.1 x hx)
    · rename_i hs
      refine List.pairwise_cons.2 ⟨fun x hx => ?_, ins_pair h2.2 (fun u hu => hv u (by simp [hu]))⟩
      rcases ins_mem.1 hx with rfl | hx
      · exact .inl (by omega)
      · exact h2.1 x hx
theorem rkF_len (S : Nat → Int) : ∀ n a, (rkF S n a).length = n
  | 0, _ => rfl
  | n + 1, a => by unfold rkF; rw [ins_len, rkF_len]
theorem rkF_mem (S : Nat → Int) : ∀ n a, a + n ≤ 256 → ∀ x : UInt8, x ∈ rkF S n a ↔ a ≤ x.toNat ∧ x.toNat < a + n
  | 0, a, _, x => by simp [rkF] <;> omega
  | n + 1, a, h, x => by
    unfold rkF
    rw [ins_mem, rkF_mem S n (a + 1) (by omega)]
    have e : (UInt8.ofNat a).toNat = a := by rw [UInt8.toNat_ofNat']; omega
    constructor
    · rintro (rfl | h2)
      · rw [e]; omega
      · omega
    · intro h2
      by_cases c : x.toNat = a
      · left; exact UInt8.toNat_inj.1 (by rw [e, c])
      · right; omega
theorem rkF_pair (S : Nat → Int) : ∀ n a, a + n ≤ 256 → (rkF S n a).Pairwise (ah S)
  | 0, a, _ => by simp [rkF]
  | n + 1, a, h => by
    unfold rkF
    refine ins_pair (rkF_pair S n (a + 1) (by omega)) (fun u hu => ?_)
    have := (rkF_mem S n (a + 1) (by omega) u).1 hu
    have e : (UInt8.ofNat a).toNat = a := by rw [UInt8.toNat_ofNat']; omega
    rw [e]; omega
theorem rk_len (S : Nat → Int) : (rk S).length = 256 := rkF_len S _ _
theorem rk_mem (S : Nat → Int) (x : UInt8) : x ∈ rk S := by
  unfold rk; rw [rkF_mem S 256 0 (by omega)]
  have := x.toNat_lt; omega
theorem rk_pair (S : Nat → Int) : (rk S).Pairwise (ah S) := rkF_pair S _ _ (by omega)
theorem pair_uniq {S : Nat → Int} : ∀ {l m : List UInt8}, l.Pairwise (ah S) → m.Pairwise (ah S) → (∀ x, x ∈ l ↔ x ∈ m) → l = m
  | [], [], _, _, _ => rfl
  | [], y :: m, _, _, h => by have := (h y).2 (by simp); simp at this
  | x :: l, [], _, _, h => by have := (h x).1 (by simp); simp at this
  | x :: l, y :: m, hl, hm, h => by
    have a1 := List.pairwise_cons.1 hl
    have a2 := List.pairwise_cons.1 hm
    have e : x = y := by
      rcases List.mem_cons.1 ((h x).1 (by simp)) with e | e
      · exact e
      · rcases List.mem_cons.1 ((h y).2 (by simp)) with e2 | e2
        · exact e2.symm
        · exact absurd (ah_asymm (a1.1 y e2) (a2.1 x e)) id
    subst e
    congr 1
    refine pair_uniq a1.2 a2.2 (fun z => ?_)
    have hz := h z
    constructor
    · intro hz1
      rcases List.mem_cons.1 (hz.1 (by simp [hz1])) with rfl | e
      · exact absurd (ah_irr (a1.1 z hz1)) id
      · exact e
    · intro hz1
      rcases List.mem_cons.1 (hz.2 (by simp [hz1])) with rfl | e
      · exact absurd (ah_irr (a2.1 z hz1)) id
      · exact e
theorem row_rk {S : Nat → Int} {F : Nat → UInt8} (h : Srt S F 0 256) (p : Pm F) : rL F = rk S := by
  refine pair_uniq ?_ (rk_pair S) (fun x => ⟨fun _ => rk_mem S x, fun _ => ?_⟩)
  · rw [List.pairwise_iff_getElem]
    intro i j hi hj hij
    rw [rL_get, rL_get]
    exact h i j (Nat.zero_le _) hij (by rw [rL_len] at hj; exact hj)
  · obtain ⟨j, _, q2, q3⟩ := p.sub x.toNat (Nat.zero_le _) x.toNat_lt
    have e : id8 x.toNat = x := UInt8.toNat_inj.1 (id8_nat _ x.toNat_lt)
    rw [e] at q3
    unfold rL
    exact List.mem_map.2 ⟨j, List.mem_range.2 q2, q3⟩

/-- the first of all -/
def hd (S : Nat → Int) : UInt8 := (rk S).headD 0
theorem rk_cons (S : Nat → Int) : ∃ t, rk S = hd S :: t := by
  have h := rk_len S
  unfold hd
  cases hr : rk S with
  | nil => rw [hr] at h; cases h
  | cons x t => exact ⟨t, rfl⟩
theorem hd_ahead (S : Nat → Int) (u : UInt8) (h : u ≠ hd S) : ah S (hd S) u := by
  obtain ⟨t, ht⟩ := rk_cons S
  have hp := rk_pair S
  have hm := rk_mem S u
  rw [ht] at hp hm
  rcases List.mem_cons.1 hm with e | e
  · exact absurd e h
  · exact (List.pairwise_cons.1 hp).1 u e
theorem hd_uniq {S : Nat → Int} {v : UInt8} (h : ∀ u, u ≠ v → ah S v u) : hd S = v := by
  by_cases e : hd S = v
  · exact e
  · exact absurd (ah_asymm (h _ e) (hd_ahead S v (fun x => e x.symm))) id
/-- b is the first of the greatest below n -/
def Best (S : Nat → Int) (b n : Nat) : Prop := b < n ∧ (∀ j, j < b → S j < S b) ∧ ∀ j, j < n → S j ≤ S b
theorem best_hd {S : Nat → Int} {b : Nat} (h : Best S b 256) : hd S = UInt8.ofNat b := by
  obtain ⟨h0, h1, h2⟩ := h
  have e : (UInt8.ofNat b).toNat = b := by rw [UInt8.toNat_ofNat']; omega
  refine hd_uniq (fun u hu => ?_)
  have hu2 : u.toNat ≠ b := fun x => hu (UInt8.toNat_inj.1 (by rw [e, x]))
  have h3 := h2 u.toNat u.toNat_lt
  have h4 := h1 u.toNat
  unfold ah
  rw [e]
  omega

/-! ### what was pressed -/
/-- the last o presses, or all -/
def endN (o : Nat) (p : List UInt8) : List UInt8 := p.drop (p.length - o)
/-- does value v stand at i behind e? -/
def hit (o : Nat) (e p : List UInt8) (i v : Nat) : Prop := o ≤ i ∧ (p.drop (i - o)).take o = e ∧ (p.getD i 0).toNat = v
instance (o : Nat) (e p : List UInt8) (i v : Nat) : Decidable (hit o e p i v) := by unfold hit; infer_instance
/-- how often each value stands behind e, below i -/
def wts (o : Nat) (e p : List UInt8) : Nat → Nat → Int
  | 0, _ => 0
  | i + 1, v => wts o e p i v + (if hit o e p i v then 1 else 0)
theorem wts_nonneg (o : Nat) (e p : List UInt8) (v : Nat) : ∀ i, 0 ≤ wts o e p i v ∧ wts o e p i v ≤ i
  | 0 => by simp [wts]
  | i + 1 => by
    have := wts_nonneg o e p v i
    unfold wts
    split <;> omega
theorem wts_low (o : Nat) (e p : List UInt8) (v : Nat) : ∀ i, i ≤ o → wts o e p i v = 0
  | 0, _ => rfl
  | i + 1, h => by
    unfold wts
    rw [wts_low o e p v i (by omega), if_neg (fun h2 => by have := h2.1; omega)]; rfl
theorem wts_app (o : Nat) (e p : List UInt8) (x : UInt8) (v : Nat) : ∀ i, i ≤ p.length → wts o e (p ++ [x]) i v = wts o e p i v
  | 0, _ => rfl
  | i + 1, h => by
    unfold wts
    rw [wts_app o e p x v i (by omega)]
    congr 1
    have e1 : hit o e (p ++ [x]) i v ↔ hit o e p i v := by
      unfold hit
      by_cases ho : o ≤ i
      · have e2 : ((p ++ [x]).drop (i - o)).take o = (p.drop (i - o)).take o := by
          rw [List.drop_append_of_le_length (by omega), List.take_append_of_le_length (by rw [List.length_drop]; omega)]
        have e3 : (p ++ [x]).getD i 0 = p.getD i 0 := by
          simp only [List.getD, List.getElem?_append_left (show i < p.length by omega)]
        rw [e2, e3]
      · simp [ho]
    simp only [e1]
/-- the weight of each value -/
def wN (o : Nat) (p : List UInt8) (v : Nat) : Int := wts o (endN o p) p p.length v
theorem wts_push (o : Nat) (e p : List UInt8) (x : UInt8) (v : Nat) : wts o e (p ++ [x]) (p ++ [x]).length v = wts o e p p.length v + (if o ≤ p.length ∧ endN o p = e ∧ x.toNat = v then 1 else 0) := by
  rw [List.length_append, List.length_singleton]
  have h0 : wts o e (p ++ [x]) (p.length + 1) v = wts o e (p ++ [x]) p.length v + (if hit o e (p ++ [x]) p.length v then 1 else 0) := rfl
  rw [h0, wts_app o e p x v p.length (Nat.le_refl _)]
  have e1 : hit o e (p ++ [x]) p.length v ↔ (o ≤ p.length ∧ endN o p = e ∧ x.toNat = v) := by
    unfold hit endN
    by_cases ho : o ≤ p.length
    · have e2 : ((p ++ [x]).drop (p.length - o)).take o = p.drop (p.length - o) := by
        rw [List.drop_append_of_le_length (by omega), List.take_append_of_le_length (by rw [List.length_drop]; omega), List.take_of_length_le (by rw [List.length_drop]; omega)]
      have e3 : (p ++ [x]).getD p.length 0 = x := by simp [List.getD]
      rw [e2, e3]
    · simp [ho]
  by_cases hh : hit o e (p ++ [x]) p.length v
  · rw [if_pos hh, if_pos (e1.1 hh)]
  · rw [if_neg hh, if_neg (fun h => hh (e1.2 h))]
/-- a kind of guess that may be -/
structure Kd where
  k : Nat
  o : Nat
  tb : List UInt8
def Kd.ok (b : Kd) : Prop := (b.k = 1 ∧ b.o = 0 ∧ b.tb = []) ∨ (b.k = 2 ∧ b.o ≤ 3 ∧ b.tb = []) ∨ (b.k = 3 ∧ b.o = 0 ∧ 1 ≤ b.tb.length ∧ b.tb.length ≤ 1000)
def lst (p : List UInt8) : UInt8 := p.getD (p.length - 1) 0
def drw (b : Kd) (p : List UInt8) : UInt8 := b.tb.getD (p.length % b.tb.length) 0
/-- the score of each value -/
def sc (b : Kd) (p : List UInt8) (v : Nat) : Int :=
  2 * (if b.k = 2 then wN b.o p v else 0) + (if 0 < p.length ∧ (lst p).toNat = v then 1 else 0) + (if b.k = 3 ∧ (drw b p).toNat = v then 2 else 0)
def nxt (b : Kd) (p : List UInt8) : UInt8 := hd (sc b p)
/-- the chain -/
def chN (b : Kd) : Nat → List UInt8 → List UInt8
  | 0, _ => []
  | n + 1, p => nxt b p :: chN b n (p ++ [nxt b p])
theorem chN_len (b : Kd) : ∀ n p, (chN b n p).length = n
  | 0, _ => rfl
  | n + 1, p => by unfold chN; rw [List.length_cons, chN_len]
theorem chN_snoc (b : Kd) : ∀ n p, chN b (n + 1) p = chN b n p ++ [nxt b (p ++ chN b n p)]
  | 0, p => by simp [chN]
  | n + 1, p => by
    rw [chN, chN_snoc b n (p ++ [nxt b p])]
    rw [chN]
    simp
/-- what a beginning of the chain leaves -/
theorem chN_add (b : Kd) : ∀ m n p, chN b (m + n) p = chN b m p ++ chN b n (p ++ chN b m p)
  | 0, n, p => by simp [chN]
  | m + 1, n, p => by
    rw [Nat.add_right_comm, chN, chN_add b m n, chN]
    simp
theorem sc_1 {b : Kd} (hk : b.k = 1) (p : List UInt8) (v : Nat) : sc b p v = if 0 < p.length ∧ (lst p).toNat = v then 1 else 0 := by unfold sc; simp [hk]
theorem sc_2 {b : Kd} (hk : b.k = 2) (p : List UInt8) (v : Nat) : sc b p v = 2 * wN b.o p v + if 0 < p.length ∧ (lst p).toNat = v then 1 else 0 := by unfold sc; simp [hk]
theorem sc_3 {b : Kd} (hk : b.k = 3) (p : List UInt8) (v : Nat) : sc b p v = (if 0 < p.length ∧ (lst p).toNat = v then 1 else 0) + if (drw b p).toNat = v then 2 else 0 := by unfold sc; simp [hk]
/-- a greater weight: the first -/
theorem nxt_weight {b : Kd} {p : List UInt8} {v : UInt8} (hk : b.k = 2) (h : ∀ u : UInt8, u ≠ v → wN b.o p u.toNat < wN b.o p v.toNat) : nxt b p = v := by
  unfold nxt
  refine hd_uniq (fun u hu => .inl ?_)
  have := h u hu
  rw [sc_2 hk, sc_2 hk]
  split <;> split <;> omega
theorem nat_ne {u v : UInt8} (h : u ≠ v) : ¬ v.toNat = u.toNat := fun x => h (UInt8.toNat_inj.1 x.symm)
theorem nxt_last {b : Kd} {p : List UInt8} (hk : b.k = 1) (h : 0 < p.length) : nxt b p = lst p := by
  unfold nxt
  refine hd_uniq (fun u hu => .inl ?_)
  have := nat_ne hu
  rw [sc_1 hk, sc_1 hk, if_neg (fun x => this x.2), if_pos ⟨h, rfl⟩]
  omega
theorem nxt_first {b : Kd} (hk : b.k = 1) : nxt b [] = 0 := by
  unfold nxt
  refine hd_uniq (fun u hu => .inr ⟨?_, ?_⟩)
  · rw [sc_1 hk, sc_1 hk, if_neg (by simp), if_neg (by simp)]
  · have := nat_ne hu
    have e : (0 : UInt8).toNat = 0 := rfl
    omega
theorem nxt_drawn {b : Kd} {p : List UInt8} (hk : b.k = 3) : nxt b p = drw b p := by
  unfold nxt
  refine hd_uniq (fun u hu => .inl ?_)
  have := nat_ne hu
  rw [sc_3 hk, sc_3 hk, if_neg (c := (drw b p).toNat = u.toNat) this, if_pos (c := (drw b p).toNat = (drw b p).toNat) rfl]
  split <;> split <;> omega
/-- the first by weights is the greatest by weight -/
theorem nxt_max {b : Kd} {p : List UInt8} (hk : b.k = 2) (u : UInt8) : wN b.o p u.toNat ≤ wN b.o p (nxt b p).toNat := by
  by_cases e : u = nxt b p
  · rw [e]; exact Int.le_refl _
  have h := hd_ahead (sc b p) u e
  have h2 : sc b p u.toNat ≤ sc b p (nxt b p).toNat := ah_le h
  rw [sc_2 hk, sc_2 hk] at h2
  split at h2 <;> split at h2 <;> omega
end Go.Proofs.Ytomiligjcpmnjaa
