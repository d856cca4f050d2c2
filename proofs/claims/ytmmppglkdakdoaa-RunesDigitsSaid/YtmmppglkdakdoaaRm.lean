/- THE WALKS OF THE LAWS: RunesWords, RunesNumber. -/
import Derived.Test.YtmmppglkdakdoaaRl
import Derived.BigQuiet
import Derived.Deep.QuietTactic
namespace Go.Proofs.Ytmmppglkdakdoaa
open Go.RowKit

theorem own_below {w w' : World} {base n : Nat} {e : TypeId} {size : Nat} {v : Value} {xs : List Value} (h : w.ownsRow base e size v n xs) (hb : Below w.heap.size w w') : w'.ownsRow base e size v n xs := by
  have hlt := h.lt
  obtain ⟨h1, h2⟩ := h
  refine ⟨h1, ?_⟩
  rcases h2 with h2 | ⟨g, cap, cur, a, b, c, d⟩
  · exact .inl h2
  · subst a
    have hg := (hlt g rfl).2
    exact .inr ⟨g, cap, cur, rfl, b, by rw [hb.block g hg]; exact c, d⟩
theorem wcell_at {l : List (List UInt8)} {k : Nat} (h : k < l.length) : (wcell l)[k]? = some (.string ⟨(l[k]'h).toArray⟩) := by
  simp [wcell, h]
theorem wordsL_len : ∀ (l cur : List UInt8), (wordsL cur l).length ≤ l.length + (if cur = [] then 0 else 1) := by
  intro l
  induction l with
  | nil => intro cur; rw [wordsL]; split <;> simp
  | cons c r ih =>
    intro cur
    rw [wordsL]
    have h0 := ih []
    rw [if_pos rfl] at h0
    split
    · split
      · simp; omega
      · simp; omega
    · have h1 := ih (cur ++ [c])
      rw [if_neg (by simp)] at h1
      simp
      split <;> omega
theorem wrds_len (s : ByteArray) : (wrds s).length ≤ s.size := by
  have := wordsL_len (lst s) []
  rw [if_pos rfl, lst_len] at this
  exact this
theorem neq_self (l : List UInt8) : (l != l) = false := by simp

set_option maxRecDepth 100000 in
set_option maxHeartbeats 1000000 in
theorem wordslaw_any (s : ByteArray) (w : World) :
    Calls Try.prog 4 #[.string s] w fun e w' => e = .returned (.bool true) ∧ Below w.heap.size w w' := by
  go_enter Try.func4, Try.ntmps4
  go_wp2_with fail
  refine (begun_any _).mono ?_
  rintro e w1 ⟨rfl, hb1⟩
  go_wp2_with fail
  refine (cut_any s 100 _ (by omega)).mono ?_
  rintro e w' ⟨rfl, rfl⟩
  obtain ⟨t, ht⟩ : ∃ t, t = s.extract 0 (min 100 s.size) := ⟨_, rfl⟩
  have htz : t.size ≤ 100 := by rw [ht]; exact cut_size s 100
  rw [← ht]
  clear ht
  go_wp2_with fail
  refine (words_any t _ (by omega)).mono ?_
  rintro e w2 ⟨v, rfl, hown, hb2⟩
  have hC2 := Below.next hb1 hb1.size hb2
  obtain ⟨A, c, rfl⟩ := own_form hown
  go_wp2_with fail
  refine (refwords_any t _ (by omega)).mono ?_
  rintro e w3 ⟨v2, rfl, hown2, hb3⟩
  have hC3 := Below.next hC2 hC2.size hb3
  have hownb := own_below hown hb3
  obtain ⟨A2, c2, rfl⟩ := own_form hown2
  have hwl := wrds_len t
  have HO1 := Lib.hid hownb
  have HO2 := Lib.hid hown2
  clear hown hown2 hownb hb2 hb3 hC2
  go_wp2
  go_loopw [6] (fun iv wr => ∃ k : Nat, k ≤ (wrds t).length ∧ iv = .int .i64 k ∧ Hid (wr.ownsRow w1.heap.size 9 1 (.slice A (wrds t).length c) (wrds t).length (wcell (wrds t))) ∧ Hid (wr.ownsRow w2.heap.size 9 1 (.slice A2 (wrds t).length c2) (wrds t).length (wcell (wrds t))) ∧ Below w.heap.size w wr) (fun iv _ => (wrds t).length - (intOf iv).toNat)
  case atStart => exact ⟨0, by omega, rfl, HO1, HO2, hC3⟩
  case round =>
    obtain ⟨k, hk, rfl, H1, H2, hb⟩ := hrel
    clear HO1 HO2 hC3
    by_cases hlt : k < (wrds t).length
    · have hk1 : (k : Int) < ((wrds t).length : Int) := by omega
      have hk0 : (0 : Int) ≤ (k : Int) := by omega
      obtain ⟨g, cap, hA, _, _⟩ := H1.out.form (by omega)
      obtain ⟨rfl, rfl⟩ : A = some ⟨g, 0, none⟩ ∧ c = cap := by injection hA with a b d; exact ⟨a, d⟩
      obtain ⟨g2, cap2, hA2, _, _⟩ := H2.out.form (by omega)
      obtain ⟨rfl, rfl⟩ : A2 = some ⟨g2, 0, none⟩ ∧ c2 = cap2 := by injection hA2 with a b d; exact ⟨a, d⟩
      have e1 := H1.out.cellAt k (by omega)
      have e2 := H2.out.cellAt k (by omega)
      rw [wcell_at hlt] at e1 e2
      have hc1 := H1.out
      clear hc1 hA hA2
      have hns := neq_self ((wrds t)[k]'hlt)
      go_wp2
      go_quiet (fail)
      go_wp2
      go_roundw
      case rel => exact ⟨k + 1, by omega, by go_num, H1, H2, below_drewN hb _⟩
      case measure => simp [intOf]; omega
    · have hk1 : ¬ (k : Int) < ((wrds t).length : Int) := by omega
      go_wp2
      go_ret
      exact ⟨rfl, hb⟩

theorem wordslaw_law (s : ByteArray) (w : World) (_ : s.size ≤ maxLen) :
    Calls Try.prog 4 #[.string s] w fun e w' => e = .returned (.bool true) ∧ Below w.heap.size w w' := wordslaw_any s w

/-! ### plain: the two ways of a number are one -/
theorem dGo_ge : ∀ (l : List UInt8) (m v : Int), 0 ≤ m → dGo m l = some v → m * 10 ^ l.length ≤ v := by
  intro l
  induction l with
  | nil => intro m v _ h; simp [dGo] at h; subst h; simp
  | cons c r ih =>
    intro m v hm h
    rw [dGo] at h
    split at h
    · cases h
    · rename_i hc
      have := ih (m * 10 + ((c.toNat : Int) - 48)) v (by omega) h
      rw [List.length_cons, Int.pow_succ, Int.mul_comm (10 ^ r.length) 10, ← Int.mul_assoc]
      have hp : (0 : Int) ≤ 10 ^ r.length := Int.pow_nonneg (by omega)
      have h2 : m * 10 * 10 ^ r.length ≤ (m * 10 + ((c.toNat : Int) - 48)) * 10 ^ r.length := Int.mul_le_mul_of_nonneg_right (by omega) hp
      omega
theorem dGo_le (l : List UInt8) (m v : Int) (hm : 0 ≤ m) (h : dGo m l = some v) : m ≤ v := by
  have h1 := dGo_ge l m v hm h
  have hp : (1 : Int) ≤ 10 ^ l.length := by
    have : (0 : Int) < 10 ^ l.length := Int.pow_pos (by omega)
    omega
  have h2 : m * 1 ≤ m * 10 ^ l.length := Int.mul_le_mul_of_nonneg_left hp hm
  omega

def inR (z : Int) : Prop := -2147483648 ≤ z ∧ z ≤ 2147483647
instance (z : Int) : Decidable (inR z) := by unfold inR; infer_instance
def fin32 (sg v : Int) : Option Int := if inR (sg * v) then some (sg * v) else none

theorem nGo_steady (sg : Int) (hsg : sg = 1 ∨ sg = -1) : ∀ (l : List UInt8) (m dg : Int), 1 ≤ m → 1 ≤ dg → inR (sg * m) → nGo false (sg * m) sg dg l = (dGo m l).bind (fin32 sg) := by
  intro l
  induction l with
  | nil =>
    intro m dg hm hd hr
    rw [nGo, dGo, if_neg]
    · simp [fin32, hr]
    · rcases hsg with rfl | rfl <;> omega
  | cons c r ih =>
    intro m dg hm hd hr
    by_cases hc : c.toNat < 48 ∨ 57 < c.toNat
    · rw [nGo_none _ _ _ _ _ _ (by simp) (by omega), dGo_bad _ _ _ hc]; rfl
    · have hz : sg * (m * 10 + ((c.toNat : Int) - 48)) = 10 * (sg * m) + sg * ((c.toNat : Int) - 48) := by
        rcases hsg with rfl | rfl <;> omega
      have hn0 : ¬ (0 < dg ∧ sg * m = 0) := by rcases hsg with rfl | rfl <;> omega
      rw [dGo_go _ _ _ hc]
      by_cases hf : inR (sg * (m * 10 + ((c.toNat : Int) - 48)))
      · rw [nGo_go _ _ _ _ _ _ ⟨by omega, by omega, hn0⟩ _ hz (by unfold inR at hf; omega)]
        exact ih _ _ (by omega) (by omega) hf
      · rw [nGo_far _ _ _ _ _ _ ⟨by omega, by omega, hn0⟩ _ hz (by unfold inR at hf; omega)]
        cases h : dGo (m * 10 + ((c.toNat : Int) - 48)) r with
        | none => rfl
        | some v =>
          have := dGo_le r _ v (by omega) h
          simp only [Option.bind_some, fin32]
          rw [if_neg]
          unfold inR at hf ⊢
          rcases hsg with rfl | rfl <;> omega

theorem nGo_first (n sg dg : Int) (c : UInt8) (r : List UInt8) (h : c.toNat ≠ 45) : nGo true n sg dg (c :: r) = nGo false n sg dg (c :: r) := by
  rw [nGo, if_neg (by omega)]
  conv => rhs; rw [nGo, if_neg (by simp)]

theorem nGo_main (sg : Int) (hsg : sg = 1 ∨ sg = -1) (L : Nat) (d : List UInt8) (hL : L = if sg = 1 then d.length else d.length + 1) :
    nGo false 0 sg 0 d = if badD L d then none else (dGo 0 d).bind (fin32 sg) := by
  cases d with
  | nil => rw [nGo, if_pos (.inl rfl), if_pos (.inl (by simp))]
  | cons c r =>
    by_cases hc : c.toNat < 48 ∨ 57 < c.toNat
    · rw [nGo_none _ _ _ _ _ _ (by simp) (by omega), dGo_bad _ _ _ hc]
      split <;> rfl
    · have hz : sg * (c.toNat - 48 : Int) = 10 * 0 + sg * ((c.toNat : Int) - 48) := by omega
      have hin : inR (sg * ((c.toNat : Int) - 48)) := by unfold inR; rcases hsg with rfl | rfl <;> omega
      rw [nGo_go _ _ _ _ _ _ ⟨by omega, by omega, by omega⟩ _ hz (by unfold inR at hin; omega)]
      have hhead : ((c :: r).head? = some 48) ↔ c.toNat = 48 := by
        rw [List.head?_cons, Option.some.injEq, ← UInt8.toNat_inj]; rfl
      by_cases h0 : c.toNat = 48
      · have hz0 : sg * ((c.toNat : Int) - 48) = 0 := by rw [h0]; rcases hsg with rfl | rfl <;> rfl
        rw [hz0]
        cases r with
        | nil =>
          rw [nGo]
          rcases hsg with rfl | rfl
          · rw [if_neg (by omega), if_neg]
            · rw [dGo_go _ _ _ hc, dGo, h0]; rfl
            · rw [hL]; unfold badD; simp
          · rw [if_pos (.inr ⟨by omega, rfl⟩), if_pos]
            unfold badD
            refine .inr (.inr ⟨hhead.2 h0, .inr ?_⟩)
            rw [hL]; simp
        | cons c2 r2 =>
          rw [nGo_none _ _ _ _ _ _ (by simp) (by omega), if_pos]
          unfold badD
          exact .inr (.inr ⟨hhead.2 h0, .inl (by simp)⟩)
      · have hs := nGo_steady sg hsg r ((c.toNat : Int) - 48) (0 + 1) (by omega) (by omega) hin
        rw [hs]
        by_cases hbad : badD L (c :: r)
        · rw [if_pos hbad]
          unfold badD at hbad
          have hlong : 10 ≤ r.length := by
            rcases hbad with h | h | h
            · simp at h
            · simp at h; omega
            · exact absurd (hhead.1 h.1) h0
          cases h : dGo ((c.toNat : Int) - 48) r with
          | none => rfl
          | some v =>
            have h1 := dGo_ge r _ v (by omega) h
            have hp : (10 : Int) ^ 10 ≤ 10 ^ r.length := by
              have : 10 ^ 10 ≤ 10 ^ r.length := Nat.pow_le_pow_right (by omega) hlong
              have h2 : ((10 ^ 10 : Nat) : Int) ≤ ((10 ^ r.length : Nat) : Int) := by omega
              simpa using h2
            have h3 : 1 * 10 ^ r.length ≤ ((c.toNat : Int) - 48) * 10 ^ r.length := Int.mul_le_mul_of_nonneg_right (by omega) (Int.pow_nonneg (by omega))
            have h4 : (10 : Int) ^ 10 = 10000000000 := by decide
            simp only [Option.bind_some, fin32]
            rw [if_neg]
            unfold inR
            rcases hsg with rfl | rfl <;> omega
        · rw [if_neg hbad, dGo_go _ _ _ hc]
          congr 2
          omega

/-- The code's number and the document's are one. -/
theorem num_same (s : ByteArray) : numO s = if (rNum s).2 = true then some (rNum s).1 else none := by
  have fold : ∀ (sg : Int) (hsg : sg = 1 ∨ sg = -1) (L : Nat) (d : List UInt8) (hL : L = if sg = 1 then d.length else d.length + 1),
      (if badD L d then none else (dGo 0 d).bind (fin32 sg)) = if (rN L d).2 = true then some (rN L d).1 else none := by
    intro sg hsg L d hL
    unfold rN
    by_cases hb : badD L d
    · rw [if_pos hb, if_pos hb]; rfl
    · rw [if_neg hb, if_neg hb]
      cases h : dGo 0 d with
      | none => rfl
      | some v =>
        have hv : (if d.length < L then -v else v) = sg * v := by
          rcases hsg with rfl | rfl
          · rw [if_neg (by rw [hL]; simp)]; omega
          · rw [if_pos (by rw [hL]; simp)]; omega
        simp only [Option.bind_some, Option.map_some, Option.getD_some, rFin, hv, fin32, inR, Bool.and_eq_true, decide_eq_true_eq]
  unfold numO rNum
  cases h : lst s with
  | nil =>
    have := nGo_main 1 (.inl rfl) 0 [] rfl
    have e : nGo true 0 1 0 [] = nGo false 0 1 0 [] := by rw [nGo, nGo]
    rw [e, this, fold 1 (.inl rfl) 0 [] rfl]
    rfl
  | cons c r =>
    by_cases hm : c.toNat = 45
    · have hc : c = 45 := UInt8.toNat_inj.1 hm
      rw [nGo_minus _ _ _ _ _ _ rfl hm]
      have e : strip (c :: r) = r := by unfold strip; rw [if_pos (by rw [hc]; rfl)]; rfl
      rw [e, nGo_main (-1) (.inr rfl) (r.length + 1) r (by simp), fold (-1) (.inr rfl) _ r (by simp)]
      rfl
    · have e : strip (c :: r) = c :: r := by
        unfold strip
        rw [if_neg]
        rw [List.head?_cons, Option.some.injEq, ← UInt8.toNat_inj]
        exact hm
      rw [nGo_first _ _ _ _ _ hm, e, nGo_main 1 (.inl rfl) (c :: r).length (c :: r) (by simp), fold 1 (.inl rfl) (c :: r).length (c :: r) (by simp)]
end Go.Proofs.Ytmmppglkdakdoaa
