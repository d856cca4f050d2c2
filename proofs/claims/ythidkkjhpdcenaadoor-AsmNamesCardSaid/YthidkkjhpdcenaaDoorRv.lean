/- PLAIN FACTS that the laws of runes and of asm share: words, numbers (out of XRl, XRm, XRn). -/
import Derived.Test.YthidkkjhpdcenaaDoorRi
import Derived.Test.YthidkkjhpdcenaaDoorRg
import Derived.Test.YthidkkjhpdcenaaDoorRj
namespace Go.Proofs.YthidkkjhpdcenaaDoor
open Go.RowKit

theorem own_form {w : World} {base : Nat} {e : TypeId} {v : Value} {n : Nat} {xs : List Value} (h : w.ownsRow base e 1 v n xs) : ∃ A c, v = .slice A n c := by
  rcases h.2 with ⟨rfl, rfl⟩ | ⟨g, cap, cur, rfl, _⟩
  · exact ⟨none, 0, rfl⟩
  · exact ⟨_, _, rfl⟩
theorem cut_size (s : ByteArray) (n : Nat) : (s.extract 0 (min n s.size)).size ≤ n := by
  rw [ByteArray.size_extract]; omega
theorem own_below {w w' : World} {base n : Nat} {e : TypeId} {size : Nat} {v : Value} {xs : List Value} (h : w.ownsRow base e size v n xs) (hb : Below w.heap.size w w') : w'.ownsRow base e size v n xs := by
  have hlt := h.lt
  obtain ⟨h1, h2⟩ := h
  refine ⟨h1, ?_⟩
  rcases h2 with h2 | ⟨g, cap, cur, a, b, c, d⟩
  · exact .inl h2
  · subst a
    have hg := (hlt g rfl).2
    exact .inr ⟨g, cap, cur, rfl, b, by rw [hb.block g hg]; exact c, d⟩
theorem wcell_at {l : List (List UInt8)} {k : Nat} (h : k < l.length) : (wcell l)[k]? = some (.string ⟨(l[k]'h).toArray⟩) := by
  simp [wcell, h]
theorem wordsL_len : ∀ (l cur : List UInt8), (wordsL cur l).length ≤ l.length + (if cur = [] then 0 else 1) := by
  intro l
  induction l with
  | nil => intro cur; rw [wordsL]; split <;> simp
  | cons c r ih =>
    intro cur
    rw [wordsL]
    have h0 := ih []
    rw [if_pos rfl] at h0
    split
    · split
      · simp; omega
      · simp; omega
    · have h1 := ih (cur ++ [c])
      rw [if_neg (by simp)] at h1
      simp
      split <;> omega
theorem wrds_len (s : ByteArray) : (wrds s).length ≤ s.size := by
  have := wordsL_len (lst s) []
  rw [if_pos rfl, lst_len] at this
  exact this
theorem neq_self (l : List UInt8) : (l != l) = false := by simp

theorem dGo_ge : ∀ (l : List UInt8) (m v : Int), 0 ≤ m → dGo m l = some v → m * 10 ^ l.length ≤ v := by
  intro l
  induction l with
  | nil => intro m v _ h; simp [dGo] at h; subst h; simp
  | cons c r ih =>
    intro m v hm h
    rw [dGo] at h
    split at h
    · cases h
    · rename_i hc
      have := ih (m * 10 + ((c.toNat : Int) - 48)) v (by omega) h
      rw [List.length_cons, Int.pow_succ, Int.mul_comm (10 ^ r.length) 10, ← Int.mul_assoc]
      have hp : (0 : Int) ≤ 10 ^ r.length := Int.pow_nonneg (by omega)
      have h2 : m * 10 * 10 ^ r.length ≤ (m * 10 + ((c.toNat : Int) - 48)) * 10 ^ r.length := Int.mul_le_mul_of_nonneg_right (by omega) hp
      omega
theorem dGo_le (l : List UInt8) (m v : Int) (hm : 0 ≤ m) (h : dGo m l = some v) : m ≤ v := by
  have h1 := dGo_ge l m v hm h
  have hp : (1 : Int) ≤ 10 ^ l.length := by
    have : (0 : Int) < 10 ^ l.length := Int.pow_pos (by omega)
    omega
  have h2 : m * 1 ≤ m * 10 ^ l.length := Int.mul_le_mul_of_nonneg_left hp hm
  omega

def inR (z : Int) : Prop := -2147483648 ≤ z ∧ z ≤ 2147483647
instance (z : Int) : Decidable (inR z) := by unfold inR; infer_instance
def fin32 (sg v : Int) : Option Int := if inR (sg * v) then some (sg * v) else none

theorem nGo_steady (sg : Int) (hsg : sg = 1 ∨ sg = -1) : ∀ (l : List UInt8) (m dg : Int), 1 ≤ m → 1 ≤ dg → inR (sg * m) → nGo false (sg * m) sg dg l = (dGo m l).bind (fin32 sg) := by
  intro l
  induction l with
  | nil =>
    intro m dg hm hd hr
    rw [nGo, dGo, if_neg]
    · simp [fin32, hr]
    · rcases hsg with rfl | rfl <;> omega
  | cons c r ih =>
    intro m dg hm hd hr
    by_cases hc : c.toNat < 48 ∨ 57 < c.toNat
    · rw [nGo_none _ _ _ _ _ _ (by simp) (by omega), dGo_bad _ _ _ hc]; rfl
    · have hz : sg * (m * 10 + ((c.toNat : Int) - 48)) = 10 * (sg * m) + sg * ((c.toNat : Int) - 48) := by
        rcases hsg with rfl | rfl <;> omega
      have hn0 : ¬ (0 < dg ∧ sg * m = 0) := by rcases hsg with rfl | rfl <;> omega
      rw [dGo_go _ _ _ hc]
      by_cases hf : inR (sg * (m * 10 + ((c.toNat : Int) - 48)))
      · rw [nGo_go _ _ _ _ _ _ ⟨by omega, by omega, hn0⟩ _ hz (by unfold inR at hf; omega)]
        exact ih _ _ (by omega) (by omega) hf
      · rw [nGo_far _ _ _ _ _ _ ⟨by omega, by omega, hn0⟩ _ hz (by unfold inR at hf; omega)]
        cases h : dGo (m * 10 + ((c.toNat : Int) - 48)) r with
        | none => rfl
        | some v =>
          have := dGo_le r _ v (by omega) h
          simp only [Option.bind_some, fin32]
          rw [if_neg]
          unfold inR at hf ⊢
          rcases hsg with rfl | rfl <;> omega

theorem nGo_first (n sg dg : Int) (c : UInt8) (r : List UInt8) (h : c.toNat ≠ 45) : nGo true n sg dg (c :: r) = nGo false n sg dg (c :: r) := by
  rw [nGo, if_neg (by omega)]
  conv => rhs; rw [nGo, if_neg (by simp)]

theorem nGo_main (sg : Int) (hsg : sg = 1 ∨ sg = -1) (L : Nat) (d : List UInt8) (hL : L = if sg = 1 then d.length else d.length + 1) :
    nGo false 0 sg 0 d = if badD L d then none else (dGo 0 d).bind (fin32 sg) := by
  cases d with
  | nil => rw [nGo, if_pos (.inl rfl), if_pos (.inl (by simp))]
  | cons c r =>
    by_cases hc : c.toNat < 48 ∨ 57 < c.toNat
    · rw [nGo_none _ _ _ _ _ _ (by simp) (by omega), dGo_bad _ _ _ hc]
      split <;> rfl
    · have hz : sg * (c.toNat - 48 : Int) = 10 * 0 + sg * ((c.toNat : Int) - 48) := by omega
      have hin : inR (sg * ((c.toNat : Int) - 48)) := by unfold inR; rcases hsg with rfl | rfl <;> omega
      rw [nGo_go _ _ _ _ _ _ ⟨by omega, by omega, by omega⟩ _ hz (by unfold inR at hin; omega)]
      have hhead : ((c :: r).head? = some 48) ↔ c.toNat = 48 := by
        rw [List.head?_cons, Option.some.injEq, ← UInt8.toNat_inj]; rfl
      by_cases h0 : c.toNat = 48
      · have hz0 : sg * ((c.toNat : Int) - 48) = 0 := by rw [h0]; rcases hsg with rfl | rfl <;> rfl
        rw [hz0]
        cases r with
        | nil =>
          rw [nGo]
          rcases hsg with rfl | rfl
          · rw [if_neg (by omega), if_neg]
            · rw [dGo_go _ _ _ hc, dGo, h0]; rfl
            · rw [hL]; unfold badD; simp
          · rw [if_pos (.inr ⟨by omega, rfl⟩), if_pos]
            unfold badD
            refine .inr (.inr ⟨hhead.2 h0, .inr ?_⟩)
            rw [hL]; simp
        | cons c2 r2 =>
          rw [nGo_none _ _ _ _ _ _ (by simp) (by omega), if_pos]
          unfold badD
          exact .inr (.inr ⟨hhead.2 h0, .inl (by simp)⟩)
      · have hs := nGo_steady sg hsg r ((c.toNat : Int) - 48) (0 + 1) (by omega) (by omega) hin
        rw [hs]
        by_cases hbad : badD L (c :: r)
        · rw [if_pos hbad]
          unfold badD at hbad
          have hlong : 10 ≤ r.length := by
            rcases hbad with h | h | h
            · simp at h
            · simp at h; omega
            · exact absurd (hhead.1 h.1) h0
          cases h : dGo ((c.toNat : Int) - 48) r with
          | none => rfl
          | some v =>
            have h1 := dGo_ge r _ v (by omega) h
            have hp : (10 : Int) ^ 10 ≤ 10 ^ r.length := by
              have : 10 ^ 10 ≤ 10 ^ r.length := Nat.pow_le_pow_right (by omega) hlong
              have h2 : ((10 ^ 10 : Nat) : Int) ≤ ((10 ^ r.length : Nat) : Int) := by omega
              simpa using h2
            have h3 : 1 * 10 ^ r.length ≤ ((c.toNat : Int) - 48) * 10 ^ r.length := Int.mul_le_mul_of_nonneg_right (by omega) (Int.pow_nonneg (by omega))
            have h4 : (10 : Int) ^ 10 = 10000000000 := by decide
            simp only [Option.bind_some, fin32]
            rw [if_neg]
            unfold inR
            rcases hsg with rfl | rfl <;> omega
        · rw [if_neg hbad, dGo_go _ _ _ hc]
          congr 2
          omega

/-- The code's number and the document's are one. -/
theorem num_same (s : ByteArray) : numT s = if (rNum s).2 = true then some (rNum s).1 else none := by
  have fold : ∀ (sg : Int) (hsg : sg = 1 ∨ sg = -1) (L : Nat) (d : List UInt8) (hL : L = if sg = 1 then d.length else d.length + 1),
      (if badD L d then none else (dGo 0 d).bind (fin32 sg)) = if (rN L d).2 = true then some (rN L d).1 else none := by
    intro sg hsg L d hL
    unfold rN
    by_cases hb : badD L d
    · rw [if_pos hb, if_pos hb]; rfl
    · rw [if_neg hb, if_neg hb]
      cases h : dGo 0 d with
      | none => rfl
      | some v =>
        have hv : (if d.length < L then -v else v) = sg * v := by
          rcases hsg with rfl | rfl
          · rw [if_neg (by rw [hL]; simp)]; omega
          · rw [if_pos (by rw [hL]; simp)]; omega
        simp only [Option.bind_some, Option.map_some, Option.getD_some, rFin, hv, fin32, inR, Bool.and_eq_true, decide_eq_true_eq]
  unfold numT rNum
  cases h : lst s with
  | nil =>
    have := nGo_main 1 (.inl rfl) 0 [] rfl
    have e : nGo true 0 1 0 [] = nGo false 0 1 0 [] := by rw [nGo, nGo]
    rw [e, this, fold 1 (.inl rfl) 0 [] rfl]
    rfl
  | cons c r =>
    by_cases hm : c.toNat = 45
    · have hc : c = 45 := UInt8.toNat_inj.1 hm
      rw [nGo_minus _ _ _ _ _ _ rfl hm]
      have e : strip (c :: r) = r := by unfold strip; rw [if_pos (by rw [hc]; rfl)]; rfl
      rw [e, nGo_main (-1) (.inr rfl) (r.length + 1) r (by simp), fold (-1) (.inr rfl) _ r (by simp)]
      rfl
    · have e : strip (c :: r) = c :: r := by
        unfold strip
        rw [if_neg]
        rw [List.head?_cons, Option.some.injEq, ← UInt8.toNat_inj]
        exact hm
      rw [nGo_first _ _ _ _ _ hm, e, nGo_main 1 (.inl rfl) (c :: r).length (c :: r) (by simp), fold 1 (.inl rfl) (c :: r).length (c :: r) (by simp)]
theorem dGo_append : ∀ (a b : List UInt8) (m : Int), dGo m (a ++ b) = (dGo m a).bind fun v => dGo v b := by
  intro a
  induction a with
  | nil => intro b m; rfl
  | cons c r ih =>
    intro b m
    rw [List.cons_append, dGo, dGo]
    split
    · rfl
    · exact ih b _
theorem digit_nat (d : Nat) (h : d < 10) : ((UInt8.ofNat (48 + d)).toNat : Int) - 48 = d := by rw [digit_byte d h]; omega
theorem dGo_digit (m : Int) (d : Nat) (h : d < 10) : dGo m [UInt8.ofNat (48 + d)] = some (m * 10 + d) := by
  rw [dGo, if_neg (by rw [digit_byte d h]; omega), digit_nat d h, dGo]
theorem dGo_dec (N : Nat) : dGo 0 (Lib.decDigits N) = some (N : Int) := by
  induction N using Nat.strongRecOn with
  | _ N ih =>
    by_cases h : N < 10
    · rw [Lib.decDigits, dif_pos h, dGo_digit 0 N h]; simp
    · rw [Lib.decDigits, dif_neg h, dGo_append, ih (N / 10) (by omega)]
      simp only [Option.bind_some]
      rw [dGo_digit _ _ (by omega)]
      congr 1
      omega
theorem dec_head (N : Nat) : ∃ c r, Lib.decDigits N = c :: r ∧ 48 ≤ c.toNat ∧ c.toNat ≤ 57 ∧ (c.toNat = 48 → N = 0 ∧ r = []) := by
  induction N using Nat.strongRecOn with
  | _ N ih =>
    by_cases h : N < 10
    · refine ⟨UInt8.ofNat (48 + N), [], by rw [Lib.decDigits, dif_pos h], ?_⟩
      rw [digit_byte N h]
      exact ⟨by omega, by omega, fun h => ⟨by omega, rfl⟩⟩
    · obtain ⟨c, r, e, h1, h2, h3⟩ := ih (N / 10) (by omega)
      refine ⟨c, r ++ [UInt8.ofNat (48 + N % 10)], by rw [Lib.decDigits, dif_neg h, e]; rfl, h1, h2, fun h => ?_⟩
      have := (h3 h).1
      omega
theorem dec_good (N L : Nat) (hN : N ≤ 2147483648) (hL : L = (Lib.decDigits N).length ∨ (L = (Lib.decDigits N).length + 1 ∧ 0 < N)) : ¬ badD L (Lib.decDigits N) := by
  obtain ⟨c, r, e, h1, h2, h3⟩ := dec_head N
  have hd := dGo_dec N
  rw [e] at hL hd ⊢
  unfold badD
  rintro (h | h | ⟨h, h4⟩)
  · simp at h
  · have hne : c.toNat ≠ 48 := fun h5 => by rw [(h3 h5).2] at h; simp at h
    rw [dGo_go _ _ _ (by omega)] at hd
    have h5 := dGo_ge r _ _ (by omega) hd
    have hp : (10 : Int) ^ 10 ≤ 10 ^ r.length := by
      have : 10 ^ 10 ≤ 10 ^ r.length := Nat.pow_le_pow_right (by omega) (by simp at h; omega)
      have h2 : ((10 ^ 10 : Nat) : Int) ≤ ((10 ^ r.length : Nat) : Int) := by omega
      simpa using h2
    have h6 : 1 * 10 ^ r.length ≤ (0 * 10 + ((c.toNat : Int) - 48)) * 10 ^ r.length := Int.mul_le_mul_of_nonneg_right (by omega) (Int.pow_nonneg (by omega))
    have h7 : (10 : Int) ^ 10 = 10000000000 := by decide
    omega
  · rw [List.head?_cons, Option.some.injEq] at h
    have h5 : c.toNat = 48 := by rw [h]; rfl
    obtain ⟨h6, rfl⟩ := h3 h5
    simp at h4 hL
    omega
/-- A number's text is read as that number. -/
theorem num_itoa (x : Int) (h1 : -2147483648 ≤ x) (h2 : x ≤ 2147483647) : numT ⟨(Lib.itoa x).toArray⟩ = some x := by
  have hl : lst (⟨(Lib.itoa x).toArray⟩ : ByteArray) = Lib.itoa x := by simp [lst]
  unfold numT
  rw [hl, Lib.itoa]
  by_cases hx : x < 0
  · rw [if_pos hx, nGo_minus _ _ _ _ _ _ rfl rfl, nGo_main (-1) (.inr rfl) ((Lib.decDigits x.natAbs).length + 1) _ (by simp), if_neg (dec_good _ _ (by omega) (.inr ⟨rfl, by omega⟩)), dGo_dec]
    simp only [Option.bind_some, fin32]
    rw [if_pos (by unfold inR; omega)]
    congr 1
    omega
  · obtain ⟨c, r, e, g1, g2, _⟩ := dec_head x.toNat
    have hf : nGo true 0 1 0 (Lib.decDigits x.toNat) = nGo false 0 1 0 (Lib.decDigits x.toNat) := by
      rw [e]; exact nGo_first _ _ _ _ _ (by omega)
    rw [if_neg hx, hf, nGo_main 1 (.inl rfl) (Lib.decDigits x.toNat).length _ (by simp), if_neg (dec_good _ _ (by omega) (.inl rfl)), dGo_dec]
    simp only [Option.bind_some, fin32]
    rw [if_pos (by unfold inR; omega)]
    congr 1
    omega
theorem itoa_size (x : Int) (h1 : -2147483648 ≤ x) (h2 : x ≤ 2147483647) : (⟨(Lib.itoa x).toArray⟩ : ByteArray).size ≤ 11 := by
  show (Lib.itoa x).toArray.size ≤ 11
  have key : ∀ N : Nat, N ≤ 2147483648 → (Lib.decDigits N).length ≤ 10 := by
    intro N hN
    have := dec_good N _ hN (.inl rfl)
    unfold badD at this
    omega
  rw [List.size_toArray, Lib.itoa]
  split
  · have := key x.natAbs (by omega)
    simp; omega
  · have := key x.toNat (by omega)
    omega

/-- Words, its list's length under a name. -/
theorem words_sl (s : ByteArray) (m : Nat) (hm : (wrds s).length = m) (w : World) (hs : s.size ≤ 140737488351232 / 16) :
    Calls Tryd.prog 44 #[.string s] w fun e w' => ∃ A c, e = .returned (.slice A m c) ∧ w'.ownsRow w.heap.size 9 1 (.slice A m c) m (wcell (wrds s)) ∧ Below w.heap.size w w' := by
  refine (words_any s w hs).mono ?_
  rintro e w' ⟨v, rfl, hown, hb⟩
  rw [hm] at hown
  obtain ⟨A, c, rfl⟩ := own_form hown
  exact ⟨A, c, rfl, hown, hb⟩
end Go.Proofs.YthidkkjhpdcenaaDoor
