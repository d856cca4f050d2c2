/- texts of YpJ -/
import Derived.LoopIn
import Derived.LoopNIn
import Derived.OwnWalkIn
import Derived.RangeFuncBound
import Derived.RangeFuncCalls
import Derived.RangeFuncLeaves
import Derived.RangeFuncNested
import Derived.Shelf.Abstract
import Derived.Shelf.RegionOpen
import Derived.TacticsInMore
import Derived.Test.YtpnobpligchpiaaGreatDoorYpK
import Derived.Test.YtpnobpligchpiaaGreatDoorYpO
import Derived.WalkKit
namespace Go.Proofs.YtpnobpligchpiaaGreatDoor
abbrev It := Int × UInt8 × Bool
def stepR (first : Bool) (l : List UInt8) : Option (Int × UInt8 × Nat) :=
 match getN l with
 | .ok u k => if h : k < l.length then (if zag u < 1 ∨ (first = false ∧ l[k] = 0) then none else some (zag u, l[k], k)) else none
 | _ => none
theorem stepR_lt {first : Bool} {l : List UInt8} {n : Int} {c : UInt8} {k : Nat} (h : stepR first l = some (n, c, k)) : k < l.length ∧ 0 < k ∧ 1 ≤ n ∧ in64 n := by
 unfold stepR at h
 split at h
 · rename_i u k' hg
   obtain ⟨h1, _, _, h2, h3⟩ := getN_got l u k' hg
   split at h
   · split at h
     · cases h
     · simp only [Option.some.injEq, Prod.mk.injEq] at h
       obtain ⟨rfl, _, rfl⟩ := h
       exact ⟨by assumption, h3, by omega, zag_in _ h1⟩
   · cases h
 · cases h
theorem stepR_small {l : List UInt8} {u k : Nat} (f : Bool) (hg : getN l = .ok u k) (h : zag u < 1) : stepR f l = none := by
 unfold stepR; rw [hg]; simp only; split
 · rw [if_pos (.inl h)]
 · rfl
theorem stepR_stop {l : List UInt8} {u k : Nat} (f : Bool) (hg : getN l = .ok u k) (h : l.length ≤ k) : stepR f l = none := by
 unfold stepR; rw [hg]; simp only; rw [dif_neg (by omega)]
theorem stepR_zero {l : List UInt8} {u k : Nat} (hg : getN l = .ok u k) (hk : k < l.length) (h : l[k] = 0) : stepR false l = none := by
 unfold stepR; rw [hg]; simp only; rw [dif_pos hk, if_pos (Or.inr ⟨by trivial, h⟩)]
theorem stepR_good {l : List UInt8} {u k : Nat} (f : Bool) (hg : getN l = .ok u k) (hk : k < l.length) (h1 : 1 ≤ zag u) (h2 : f = true ∨ l[k] ≠ 0) : stepR f l = some (zag u, l[k], k) := by
 unfold stepR; rw [hg]; simp only; rw [dif_pos hk, if_neg]
 rintro (h | ⟨h, h'⟩)
 · omega
 · rcases h2 with h2 | h2
   · rw [h] at h2; cases h2
   · exact h2 h'
def items (first : Bool) (l : List UInt8) : List It :=
 if l.length = 0 then [] else
 match h : stepR first l with
 | none => [(0, 0, false)]
 | some (n, c, k) => (n, c, true) :: items false (l.drop (k + 1))
termination_by l.length
decreasing_by
 have := (stepR_lt h).1
 rw [List.length_drop]; omega
theorem items_nil (first : Bool) : items first [] = [] := by rw [items]; simp
theorem items_bad {first : Bool} {l : List UInt8} (h0 : 0 < l.length) (h : stepR first l = none) : items first l = [(0, 0, false)] := by
 rw [items, if_neg (by omega)]
 split
 · rfl
 · rename_i h2; rw [h] at h2; cases h2
theorem items_ok {first : Bool} {l : List UInt8} {n : Int} {c : UInt8} {k : Nat} (h : stepR first l = some (n, c, k)) : items first l = (n, c, true) :: items false (l.drop (k + 1)) := by
 have h0 := (stepR_lt h).1
 rw [items, if_neg (by omega)]
 split
 · rename_i h2; rw [h] at h2; cases h2
 · rename_i h2
   rw [h] at h2
   simp only [Option.some.injEq, Prod.mk.injEq] at h2
   obtain ⟨rfl, rfl, rfl⟩ := h2
   rfl
theorem items_len (l : List UInt8) : ∀ first, (items first l).length ≤ l.length := by
 induction hn : l.length using Nat.strongRecOn generalizing l with
 | _ m ih =>
   intro first
   rcases Nat.eq_zero_or_pos l.length with h0 | h0
   · rw [List.eq_nil_of_length_eq_zero h0, items_nil]; simp
   cases hs : stepR first l with
   | none => rw [items_bad h0 hs]; simp; omega
   | some x =>
     obtain ⟨n, c, k⟩ := x
     rw [items_ok hs, List.length_cons]
     have h1 := stepR_lt hs
     have := ih (l.drop (k + 1)).length (by rw [List.length_drop]; omega) (l.drop (k + 1)) rfl false
     rw [List.length_drop] at this
     omega
theorem items_in (l : List UInt8) : ∀ first, ∀ x ∈ items first l, 0 ≤ x.1 ∧ x.1 ≤ 9223372036854775807 := by
 induction hn : l.length using Nat.strongRecOn generalizing l with
 | _ m ih =>
   intro first x hx
   rcases Nat.eq_zero_or_pos l.length with h0 | h0
   · rw [List.eq_nil_of_length_eq_zero h0, items_nil] at hx; cases hx
   cases hs : stepR first l with
   | none =>
     rw [items_bad h0 hs] at hx
     simp only [List.mem_singleton] at hx
     subst hx; simp
   | some y =>
     obtain ⟨n, c, k⟩ := y
     rw [items_ok hs, List.mem_cons] at hx
     have h1 := stepR_lt hs
     rcases hx with rfl | hx
     · obtain ⟨_, _, h2, h3, h4⟩ := h1
       exact ⟨by show (0 : Int) ≤ n; omega, h4⟩
     · exact ih (l.drop (k + 1)).length (by rw [List.length_drop]; omega) (l.drop (k + 1)) rfl false x hx
inductive Cnt where
 | form
 | full
 | ok (t : Int)
def cnt (most t : Int) : List It → Cnt
 | [] => .ok t
 | x :: r => if x.2.2 = false then .form else if most - t < x.1 then .full else cnt most (t + x.1) r
theorem cnt_nil (most t : Int) : cnt most t [] = .ok t := by rw [cnt]
theorem cnt_form (most t : Int) (x : It) (r : List It) (h : x.2.2 = false) : cnt most t (x :: r) = .form := by rw [cnt, if_pos h]
theorem cnt_full (most t : Int) (x : It) (r : List It) (h : x.2.2 = true) (h1 : most - t < x.1) : cnt most t (x :: r) = .full := by rw [cnt, if_neg (by rw [h]; simp), if_pos h1]
theorem cnt_on (most t : Int) (x : It) (r : List It) (h : x.2.2 = true) (h1 : ¬ most - t < x.1) : cnt most t (x :: r) = cnt most (t + x.1) r := by rw [cnt, if_neg (by rw [h]; simp), if_neg h1]
def Cnt.on (c : Cnt) (f : Int → Cnt) : Cnt := match c with | .ok t => f t | .form => .form | .full => .full
theorem cnt_app (most : Int) (a b : List It) : ∀ t, cnt most t (a ++ b) = (cnt most t a).on fun u => cnt most u b := by
 induction a with
 | nil => intro t; rw [cnt_nil]; rfl
 | cons x r ih =>
   intro t
   by_cases h : x.2.2 = true
   · by_cases h1 : most - t < x.1
     · rw [List.cons_append, cnt_full _ _ _ _ h h1, cnt_full _ _ _ _ h h1]; rfl
     · rw [List.cons_append, cnt_on _ _ _ _ h h1, cnt_on _ _ _ _ h h1]; exact ih _
   · have h : x.2.2 = false := by simpa using h
     rw [List.cons_append, cnt_form _ _ _ _ h, cnt_form _ _ _ _ h]; rfl
theorem cnt_le (most : Int) (l : List It) : ∀ t u, t ≤ most → (∀ x ∈ l, 0 ≤ x.1) → cnt most t l = .ok u → t ≤ u ∧ u ≤ most := by
 induction l with
 | nil => intro t u h _ e; rw [cnt_nil] at e; injection e with e; omega
 | cons x r ih =>
   intro t u h hp e
   have h0 := hp x (by simp)
   by_cases hk : x.2.2 = true
   · by_cases h1 : most - t < x.1
     · rw [cnt_full _ _ _ _ hk h1] at e; cases e
     · rw [cnt_on _ _ _ _ hk h1] at e
       have := ih _ _ (by omega) (fun y hy => hp y (by simp [hy])) e
       omega
   · rw [cnt_form _ _ _ _ (by simpa using hk)] at e; cases e
theorem cnt_each (most : Int) (l : List It) : ∀ t u, (∀ x ∈ l, 0 ≤ x.1) → cnt most t l = .ok u → ∀ x ∈ l, x.1 ≤ u - t ∧ x.2.2 = true := by
 induction l with
 | nil => intro t u _ _ x hx; cases hx
 | cons x r ih =>
   intro t u hp e y hy
   have h0 := hp x (by simp)
   by_cases hk : x.2.2 = true
   · by_cases h1 : most - t < x.1
     · rw [cnt_full _ _ _ _ hk h1] at e; cases e
     · rw [cnt_on _ _ _ _ hk h1] at e
       have hle := cnt_le most r _ _ (by omega) (fun z hz => hp z (by simp [hz])) e
       rcases List.mem_cons.1 hy with rfl | hy
       · exact ⟨by omega, hk⟩
       · have := ih _ _ (fun z hz => hp z (by simp [hz])) e y hy
         exact ⟨by omega, this.2⟩
   · rw [cnt_form _ _ _ _ (by simpa using hk)] at e; cases e
def expand (a : UInt8) : List It → List UInt8
 | [] => []
 | x :: r => List.replicate x.1.toNat (a ^^^ x.2.1) ++ expand (a ^^^ x.2.1) r
def lastV (a : UInt8) : List It → UInt8
 | [] => a
 | x :: r => lastV (a ^^^ x.2.1) r
theorem expand_app (l r : List It) : ∀ a, expand a (l ++ r) = expand a l ++ expand (lastV a l) r := by
 induction l with
 | nil => intro a; rfl
 | cons x t ih => intro a; rw [List.cons_append, expand, expand, lastV, ih, List.append_assoc]
theorem lastV_app (l r : List It) : ∀ a, lastV a (l ++ r) = lastV (lastV a l) r := by
 induction l with
 | nil => intro a; rfl
 | cons x t ih => intro a; rw [List.cons_append, lastV, lastV, ih]
theorem expand_one (a : UInt8) (x : It) : expand a [x] = List.replicate x.1.toNat (a ^^^ x.2.1) := by rw [expand, expand, List.append_nil]
theorem expand_len (most : Int) (l : List It) : ∀ t u a, (∀ x ∈ l, 0 ≤ x.1) → cnt most t l = .ok u → (expand a l).length = (u - t).toNat := by
 induction l with
 | nil => intro t u a _ e; rw [cnt_nil] at e; injection e with e; subst e; simp [expand]
 | cons x r ih =>
   intro t u a hp e
   have h0 := hp x (by simp)
   by_cases hk : x.2.2 = true
   · by_cases h1 : most - t < x.1
     · rw [cnt_full _ _ _ _ hk h1] at e; cases e
     · rw [cnt_on _ _ _ _ hk h1] at e
       have hle := cnt_le most r _ _ (by omega) (fun z hz => hp z (by simp [hz])) e
       rw [expand, List.length_append, List.length_replicate, ih _ _ _ (fun z hz => hp z (by simp [hz])) e]
       omega
   · rw [cnt_form _ _ _ _ (by simpa using hk)] at e; cases e
abbrev Gr := Nat × UInt8
def groups : List UInt8 → List Gr
 | [] => []
 | x :: r => match groups r with
   | [] => [(1, x)]
   | (n, y) :: g => if x = y then (n + 1, y) :: g else (1, x) :: (n, y) :: g
def flat : List Gr → List UInt8
 | [] => []
 | g :: r => List.replicate g.1 g.2 ++ flat r
def encG (a : UInt8) : List Gr → List UInt8
 | [] => []
 | g :: r => putN g.1 ++ (g.2 ^^^ a) :: encG g.2 r
def Gd : List Gr → Prop
 | [] => True
 | [g] => 1 ≤ g.1
 | g :: h :: r => 1 ≤ g.1 ∧ g.2 ≠ h.2 ∧ Gd (h :: r)
theorem Gd.head {g : Gr} {r : List Gr} (h : Gd (g :: r)) : 1 ≤ g.1 := by
 cases r with
 | nil => exact h
 | cons _ _ => exact h.1
theorem Gd.tail {g : Gr} {r : List Gr} (h : Gd (g :: r)) : Gd r := by
 cases r with
 | nil => trivial
 | cons _ _ => exact h.2.2
theorem flat_groups (l : List UInt8) : flat (groups l) = l := by
 induction l with
 | nil => rfl
 | cons x r ih =>
   unfold groups
   split
   · rename_i h; rw [h] at ih; rw [← ih]; rfl
   · rename_i n y g h
     rw [h] at ih
     split
     · rename_i e; subst e; rw [← ih]; rfl
     · rw [← ih]; rfl
theorem groups_gd (l : List UInt8) : Gd (groups l) := by
 induction l with
 | nil => trivial
 | cons x r ih =>
   unfold groups
   split
   · exact nl 1
   · rename_i n y g h
     rw [h] at ih
     split
     · cases g with
       | nil => exact Nat.le_add_left _ _
       | cons g2 g3 => exact ⟨Nat.le_add_left _ _, ih.2.1, ih.2.2⟩
     · rename_i e
       exact ⟨nl 1, e, ih⟩
theorem groups_run (k : Nat) (x : UInt8) (l : List UInt8) (h : ∀ g r, groups l = g :: r → g.2 ≠ x) : groups (List.replicate (k + 1) x ++ l) = (k + 1, x) :: groups l := by
 induction k with
 | zero =>
   show groups (x :: l) = _
   rw [groups]
   cases hg : groups l with
   | nil => rfl
   | cons g r =>
     obtain ⟨n, y⟩ := g
     have := h _ _ hg
     exact if_neg (fun e => this e.symm)
 | succ k ih =>
   rw [List.replicate_succ, List.cons_append, groups, ih]
   exact if_pos rfl
theorem groups_flat (gs : List Gr) (h : Gd gs) : groups (flat gs) = gs := by
 induction gs with
 | nil => rfl
 | cons g r ih =>
   obtain ⟨n, x⟩ := g
   have h1 := h.head
   have ih := ih h.tail
   obtain ⟨k, rfl⟩ : ∃ k, n = k + 1 := ⟨n - 1, by have : 1 ≤ n := h1; omega⟩
   show groups (List.replicate (k + 1) x ++ flat r) = _
   rw [groups_run k x (flat r), ih]
   intro g r' e
   rw [ih] at e
   subst e
   intro e
   exact h.2.1 e.symm
theorem groups_head (l : List UInt8) (g : Gr) (r : List Gr) (h : groups l = g :: r) : ∃ t, l = g.2 :: t := by
 have e := flat_groups l
 rw [h] at e
 have h1 := groups_gd l
 rw [h] at h1
 have h2 := h1.head
 obtain ⟨n, x⟩ := g
 obtain ⟨k, rfl⟩ : ∃ k, n = k + 1 := ⟨n - 1, by have : 1 ≤ n := h2; omega⟩
 exact ⟨_, e.symm⟩
theorem groups_at (l : List UInt8) (i : Nat) (x : UInt8) (h0 : 0 < i) (hi : i ≤ l.length) (hx : ∀ j (h : j < l.length), j < i → l[j] = x) (he : ∀ h : i < l.length, l[i] ≠ x) : groups l = (i, x) :: groups (l.drop i) := by
 have e : l = List.replicate i x ++ l.drop i := by
  have h1 : l.take i = List.replicate i x := by
   apply List.ext_getElem
   · rw [List.length_take, List.length_replicate]; omega
   · intro j h1 h2
     rw [List.length_take] at h1
     rw [List.getElem_take, List.getElem_replicate]
     exact hx j (by omega) (by omega)
  rw [← h1, List.take_append_drop]
 obtain ⟨k, rfl⟩ : ∃ k, i = k + 1 := ⟨i - 1, by omega⟩
 have h2 := groups_run k x (l.drop (k + 1)) (fun g r hg => by
  obtain ⟨t, ht⟩ := groups_head _ _ _ hg
  have hl : k + 1 < l.length := by
   have := congrArg List.length ht
   rw [List.length_drop, List.length_cons] at this
   omega
  have h3 := List.drop_eq_getElem_cons hl
  rw [h3] at ht
  injection ht with h4 h5
  rw [← h4]
  exact he hl)
 rw [← e] at h2
 exact h2
theorem flat_len (gs : List Gr) (h : Gd gs) : gs.length ≤ (flat gs).length := by
 induction gs with
 | nil => exact nl 0
 | cons g r ih =>
   have := ih h.tail
   have := h.head
   show r.length + 1 ≤ (List.replicate g.1 g.2 ++ flat r).length
   rw [List.length_append, List.length_replicate]
   omega
theorem encG_len (gs : List Gr) (h : ∀ g ∈ gs, g.1 ≤ 4611686018427387903) : ∀ a, (encG a gs).length ≤ 11 * gs.length := by
 induction gs with
 | nil => intro a; exact nl 0
 | cons g r ih =>
   intro a
   have h1 := ih (fun x hx => h x (by simp [hx])) g.2
   have h2 := h g (by simp)
   have h3 := putN_len (g.1 : Int) (by unfold in64; omega)
   rw [encG, List.length_append, List.length_cons, List.length_cons]
   omega
theorem group_le (l : List UInt8) : ∀ g ∈ groups l, g.1 ≤ l.length := by
 have e := flat_groups l
 intro g hg
 have h : ∀ gs : List Gr, g ∈ gs → g.1 ≤ (flat gs).length := by
  intro gs
  induction gs with
  | nil => intro h; cases h
  | cons x r ih =>
    intro h
    show _ ≤ (List.replicate x.1 x.2 ++ flat r).length
    rw [List.length_append, List.length_replicate]
    rcases List.mem_cons.1 h with rfl | h
    · omega
    · have := ih h; omega
 have h1 := h _ hg
 rw [e] at h1
 exact h1
theorem encG_groups_len (l : List UInt8) (hl : l.length ≤ 8192) (a : UInt8) : (encG a (groups l)).length ≤ 90112 := by
 have h1 := encG_len (groups l) (fun g hg => by have := group_le l g hg; omega) a
 have h2 := flat_len _ (groups_gd l)
 rw [flat_groups] at h2
 omega
def chg (a : UInt8) : List Gr → List It
 | [] => []
 | g :: r => ((g.1 : Int), g.2 ^^^ a, true) :: chg g.2 r
theorem xor_back (a x : UInt8) : a ^^^ (x ^^^ a) = x := by
 rw [UInt8.xor_comm x a, ← UInt8.xor_assoc, UInt8.xor_self, UInt8.zero_xor]
theorem xor_ne (a x : UInt8) (h : x ≠ a) : x ^^^ a ≠ 0 := fun e => h (by
 have := xor_back a x
 rw [e, UInt8.xor_zero] at this
 exact this.symm)
theorem step_put (first : Bool) (n : Nat) (c : UInt8) (r : List UInt8) (h1 : 1 ≤ n) (h2 : n ≤ 4611686018427387903) (hc : first = true ∨ c ≠ 0) :
 stepR first (putN n ++ c :: r) = some ((n : Int), c, (putN n).length) := by
 have hg := getN_put (n : Int) (c :: r) (by unfold in64; omega)
 have hlt : (putN (n : Int)).length < (putN (n : Int) ++ c :: r).length := by simp
 have he : (putN (n : Int) ++ c :: r)[(putN (n : Int)).length] = c := by
  rw [List.getElem_append_right (nl _)]; simp
 rw [stepR_good first hg hlt (by rw [zag_zig]; omega) (by rw [he]; exact hc), zag_zig, he]
theorem drop_put (p : List UInt8) (c : UInt8) (r : List UInt8) : (p ++ c :: r).drop (p.length + 1) = r := by
 rw [List.drop_append]
 simp
theorem items_enc (gs : List Gr) : ∀ first a, Gd gs → (∀ g ∈ gs, g.1 ≤ 4611686018427387903) → (first = true ∨ ∀ g r, gs = g :: r → g.2 ≠ a) → items first (encG a gs) = chg a gs := by
 induction gs with
 | nil => intro first a _ _ _; exact items_nil first
 | cons g r ih =>
   intro first a hg hn hf
   obtain ⟨n, x⟩ := g
   have h1 : 1 ≤ n := hg.head
   have h2 : n ≤ 4611686018427387903 := hn (n, x) (by simp)
   have hs := step_put first n (x ^^^ a) (encG x r) h1 h2 (by
    rcases hf with h | h
    · exact .inl h
    · exact .inr (xor_ne a x (h _ _ rfl)))
   show items first (putN n ++ (x ^^^ a) :: encG x r) = _
   rw [items_ok hs, drop_put, ih false x hg.tail (fun g hg => hn g (by simp [hg])) (.inr (fun g' r' e => by subst e; intro e; exact hg.2.1 e.symm))]
   rfl
theorem cnt_chg (gs : List Gr) : ∀ a t most, t ≤ most → cnt most t (chg a gs) = if most - t < ((flat gs).length : Int) then .full else .ok (t + ((flat gs).length : Int)) := by
 induction gs with
 | nil => intro a t most h; rw [chg, cnt_nil, if_neg (by simp [flat]; omega)]; simp [flat]
 | cons g r ih =>
   intro a t most h
   have hl : (flat (g :: r)).length = g.1 + (flat r).length := by
    show (List.replicate g.1 g.2 ++ flat r).length = _
    rw [List.length_append, List.length_replicate]
   rw [chg, hl]
   by_cases h1 : most - t < (g.1 : Int)
   · rw [cnt_full _ _ _ _ rfl h1, if_pos (by omega)]
   · rw [cnt_on _ _ _ _ rfl h1, ih _ _ _ (by show t + (g.1 : Int) ≤ _; omega)]
     show (if most - (t + (g.1 : Int)) < _ then _ else Cnt.ok (t + (g.1 : Int) + _)) = _
     by_cases h2 : most - t < ((g.1 + (flat r).length : Nat) : Int)
     · rw [if_pos (by omega), if_pos h2]
     · rw [if_neg (by omega), if_neg h2]; congr 1; omega
theorem expand_chg (gs : List Gr) : ∀ a, expand a (chg a gs) = flat gs := by
 induction gs with
 | nil => intro a; rfl
 | cons g r ih =>
   intro a
   rw [chg, expand]
   show List.replicate (g.1 : Int).toNat (a ^^^ (g.2 ^^^ a)) ++ expand (a ^^^ (g.2 ^^^ a)) (chg g.2 r) = List.replicate g.1 g.2 ++ flat r
   rw [xor_back, ih, Int.toNat_natCast]
def grs (a : UInt8) : List It → List Gr
 | [] => []
 | x :: r => (x.1.toNat, a ^^^ x.2.1) :: grs (a ^^^ x.2.1) r
theorem flat_grs (its : List It) : ∀ a, flat (grs a its) = expand a its := by
 induction its with
 | nil => intro a; rfl
 | cons x r ih => intro a; rw [grs, flat, expand, ih]
theorem xor_back2 (a c : UInt8) : (a ^^^ c) ^^^ a = c := by
 rw [UInt8.xor_comm a c, UInt8.xor_assoc, UInt8.xor_self, UInt8.xor_zero]
theorem xor_ne2 (a c : UInt8) (h : c ≠ 0) : a ^^^ c ≠ a := fun e => h (by
 have := xor_back2 a c
 rw [e, UInt8.xor_self] at this
 exact this.symm)
theorem stepR_split {f : Bool} {l : List UInt8} {n : Int} {c : UInt8} {k : Nat} (h : stepR f l = some (n, c, k)) : l = putN n ++ c :: l.drop (k + 1) ∧ 1 ≤ n ∧ (f = true ∨ c ≠ 0) := by
 unfold stepR at h
 split at h
 · rename_i u k' hg
   have hs := getN_split l u k' hg
   split at h
   · rename_i hk
     split at h
     · cases h
     · rename_i hn
       simp only [Option.some.injEq, Prod.mk.injEq] at h
       obtain ⟨rfl, rfl, rfl⟩ := h
       refine ⟨?_, by omega, ?_⟩
       · have hd := List.drop_eq_getElem_cons hk
         rw [← hd]
         exact hs
       · by_cases hf : f = true
         · exact .inl hf
         · exact .inr (fun e => hn (.inr ⟨by simpa using hf, e⟩))
   · cases h
 · cases h
theorem items_back (l : List UInt8) : ∀ f a, (∀ x ∈ items f l, x.2.2 = true) → encG a (grs a (items f l)) = l ∧ Gd (grs a (items f l)) ∧ (f = false → ∀ g r, grs a (items f l) = g :: r → g.2 ≠ a) := by
 induction hn : l.length using Nat.strongRecOn generalizing l with
 | _ m ih =>
   intro f a hall
   rcases Nat.eq_zero_or_pos l.length with h0 | h0
   · obtain rfl := List.eq_nil_of_length_eq_zero h0
     rw [items_nil]
     exact ⟨rfl, trivial, fun _ g r e => by cases e⟩
   cases hs : stepR f l with
   | none =>
     rw [items_bad h0 hs] at hall
     have := hall (0, 0, false) (by simp)
     cases this
   | some x =>
     obtain ⟨n, c, k⟩ := x
     obtain ⟨e1, e2, e3⟩ := stepR_split hs
     have hlt := (stepR_lt hs).1
     rw [items_ok hs] at hall ⊢
     obtain ⟨i1, i2, i3⟩ := ih (l.drop (k + 1)).length (by rw [List.length_drop]; omega) (l.drop (k + 1)) rfl false (a ^^^ c) (fun x hx => hall x (by simp [hx]))
     refine ⟨?_, ?_, fun hf g r e => ?_⟩
     · show putN ((n.toNat : Nat) : Int) ++ ((a ^^^ c) ^^^ a) :: encG (a ^^^ c) (grs (a ^^^ c) (items false (l.drop (k + 1)))) = l
       rw [i1, xor_back2, show ((n.toNat : Nat) : Int) = n by omega]
       exact e1.symm
     · show Gd ((n.toNat, a ^^^ c) :: grs (a ^^^ c) (items false (l.drop (k + 1))))
       cases hg : grs (a ^^^ c) (items false (l.drop (k + 1))) with
       | nil => show 1 ≤ n.toNat; omega
       | cons g r =>
         rw [hg] at i2
         exact ⟨by show 1 ≤ n.toNat; omega, fun e => i3 rfl g r hg e.symm, i2⟩
     · have e : ((n.toNat, a ^^^ c) : Gr) = g := by
        have := List.cons.inj e
        exact this.1
       rw [← e]
       rcases e3 with h | h
       · rw [hf] at h; cases h
       · exact xor_ne2 a c h
theorem enc_back (l : List UInt8) (most t : Int) (h : cnt most 0 (items true l) = .ok t) : encG 0 (groups (expand 0 (items true l))) = l := by
 have hall : ∀ x ∈ items true l, x.2.2 = true := fun x hx => (cnt_each most _ 0 t (fun y hy => (items_in l true y hy).1) h x hx).2
 obtain ⟨h1, h2, _⟩ := items_back l true 0 hall
 rw [← flat_grs, groups_flat _ h2]
 exact h1
theorem items_of (l : List UInt8) (hl : l.length ≤ 4096) : items true (encG 0 (groups l)) = chg 0 (groups l) :=
 items_enc (groups l) true 0 (groups_gd l) (fun g hg => by have := group_le l g hg; omega) (.inl rfl)
theorem expand_of (l : List UInt8) (hl : l.length ≤ 4096) : expand 0 (items true (encG 0 (groups l))) = l := by rw [items_of l hl, expand_chg, flat_groups]
theorem cnt_of (l : List UInt8) (hl : l.length ≤ 4096) (most : Int) (h : 0 ≤ most) : cnt most 0 (items true (encG 0 (groups l))) = if most < (l.length : Int) then .full else .ok (l.length : Int) := by
 rw [items_of l hl, cnt_chg _ _ _ _ h, flat_groups]
 simp
theorem putN_small (n : Nat) (h : n ≤ 63) : putN (n : Int) = [UInt8.ofNat (2 * n)] := by
 have e : zig (n : Int) = 2 * n := by unfold zig; rw [if_neg (by omega)]; simp
 unfold putN
 rw [e, putU_small _ (by omega)]
set_option maxRecDepth 100000
open Go.RowKit Go.Shelf
attribute [local go_sem] Oper.semAt_some
set_option linter.unusedVariables false
abbrev ItT (T : Int) := { x : It // 0 ≤ x.1 ∧ x.1 ≤ T }
def vals {T : Int} (l : List (ItT T)) : List It := l.map Subtype.val
theorem vals_snoc {T : Int} (l : List (ItT T)) (x : ItT T) : vals (l ++ [x]) = vals l ++ [x.1] := by unfold vals; rw [List.map_append]; rfl
theorem vals_len {T : Int} (l : List (ItT T)) : (vals l).length = l.length := by unfold vals; rw [List.length_map]
def itV (n : Int) (c : UInt8) (ok : Bool) : Array Value := #[.agg #[.int .i64 n, .int .u8 (c.toNat : Int)], .bool ok]
def encI {T : Int} (x : ItT T) : Array Value := itV x.1.1 x.1.2.1 x.1.2.2
def KR (n₀ Bn : Nat) (W W' : World) : Prop := Below n₀ W W' ∧ W'.heap[Bn]? = W.heap[Bn]?
theorem KR.refl (n₀ Bn : Nat) (W : World) : KR n₀ Bn W W := ⟨bR _ _, rfl⟩
theorem KR.trans {n₀ Bn : Nat} {A B C : World} (h : KR n₀ Bn A B) (k : KR n₀ Bn B C) : KR n₀ Bn A C := ⟨h.1.trans k.1, k.2.trans h.2⟩
theorem KR.box {n₀ Bn : Nat} {A B : World} (h : KR n₀ Bn A B) {t : TypeId} {v : Value} (hb : Boxed A Bn t v) : Boxed B Bn t v := h.2.trans hb
theorem get_cut (A : Option Addr) (l : List UInt8) (n cap B : Nat) (w : World) (hr : RB w B A l) (hn : l.length = n) (hc : n ≤ cap) (hm : cap ≤ maxLen) :
 Calls Tryz.prog 175 #[.slice A n cap] w fun e w' => e = .returned (gotV (getN l)) ∧ w = w' := by
 subst hn
 exact get_any A l cap B w hr hc hm
theorem w64_in (n : Int) (h : -9223372036854775808 ≤ n ∧ n ≤ 9223372036854775807) : wrap64 n = n := by unfold wrap64; omega
set_option maxHeartbeats 4000000 in
theorem read1_in (n : Nat) (hn : 1 ≤ n) (T : Int) (lo Bn n₀ : Nat) (A : Option Addr) (l : List UInt8) (cap : Nat) (hT : ∀ x ∈ items true l, x.1 ≤ T) (hc : l.length ≤ cap) (hm : cap ≤ maxLen)
 (J Jx : List (ItT T) → World → Prop)
 (hY : ∀ pre x W, J pre W → pre.length < (items true l).length → YieldAt Fence.wide (n - 1) Tryz.prog lo (encI x) W fun e W' =>
   (e = .returned (.bool true) ∧ J (pre ++ [x]) W' ∧ KR n₀ Bn W W') ∨ (e = .returned (.bool false) ∧ Jx (pre ++ [x]) W'))
 (W : World) (hB : Boxed W Bn 33 (.slice A l.length cap)) (hr : RB W n₀ A l) (h0 : J [] W) :
 CallsIn Fence.wide n Tryz.prog 199 #[.func (.yield lo) #[] #[], .pointer (some ⟨Bn, 0, none⟩)] W fun e W' => (∃ v, e = .returned v) ∧
  ((∃ ys, vals ys = items true l ∧ J ys W') ∨ (∃ pre, (∃ rest, vals pre ++ rest = items true l) ∧ Jx pre W')) := by
 have HT := qh hT; have HY := qh hY; have HR := qh hr; have HB := qh hB
 clear hT hY hr hB
 refine callsIn_of_wp Tryz.func199 rfl trivial ?_ rfl
 simp only [Tryz.ntmps199, List.size_toArray, List.length_cons, List.length_nil, Nat.reduceAdd, Nat.reduceSub, Array.replicate_succ, Array.replicate_zero, List.push_toArray, List.append_toArray, List.nil_append, List.cons_append]
 gi_wp2
 gi_loopw [3] (fun s wr => ∃ (k : Nat) (pre : List (ItT T)), s = .int .i64 k ∧ k ≤ l.length ∧ Hid (vals pre ++ items (decide (k = 0)) (l.drop k) = items true l) ∧ Hid (J pre wr) ∧ Hid (KR n₀ Bn W wr))
  (fun s _ => l.length - (intOf s).toNat)
 case atStart => exact ⟨0, [], rfl, by omega, rfl, h0, KR.refl _ _ _⟩
 case round =>
  obtain ⟨k, pre, rfl, hk, hit, hj, hkr⟩ := hrel
  have hbox := (hkr.out.box HB.out).cell
  by_cases hlt : k < l.length
  · obtain ⟨d, hd⟩ : ∃ d, d = l.drop k := ⟨_, rfl⟩
    have hdl : d.length = l.length - k := by rw [hd, List.length_drop]
    obtain ⟨b, off, rfl, hb, hcell⟩ := HR.out (by omega)
    have hrw : RB wr n₀ (some ⟨b, off + k, none⟩) d := by
     have h1 := (HR.out.cut k cap (by omega) hc).below hkr.out.1
     rw [if_neg (by omega)] at h1
     simp only [Option.map_some, Addr.add_lit] at h1
     rw [hd]; exact h1
    have hcl : ∀ j (h : j < d.length), wr.cell? ⟨b, off + (k + j), none⟩ = some (vb d[j]) := fun j h => by
     obtain ⟨b', off', e, _, hc'⟩ := hrw (by omega)
     have e := Option.some.inj e
     injection e with e1 e2
     subst e1
     have h2 := hc' j h
     rw [← e2] at h2
     rw [← Nat.add_assoc]; exact h2
    have hg : ∀ n, CallsIn Fence.wide n Tryz.prog 175 #[.slice (some ⟨b, off + k, none⟩) (l.length - k) (cap - k)] wr fun e w' => e = .returned (gotV (getN d)) ∧ wr = w' := fun n =>
     callsIn_wide.2 (get_cut _ d _ _ n₀ wr hrw hdl (by omega) (by unfold maxLen at *; omega))
    have HG := qh hg
    clear hrw hg hcell
    have hcap : ¬ cap = k := by omega
    have HCL := qh hcl; clear hcl
    have hit' : Hid (vals pre ++ items (decide (k = 0)) d = items true l) := by rw [hd]; exact hit
    clear hit
    have bad : stepR (decide (k = 0)) d = none → ∃ x : ItT T, x.1 = (0, 0, false) ∧ vals (pre ++ [x]) = items true l ∧ pre.length < (items true l).length := fun h => by
     have h1 := hit'.out
     rw [items_bad (by omega) h] at h1
     have h2 := HT.out (0, 0, false) (by rw [← h1]; simp)
     refine ⟨⟨(0, 0, false), by omega, h2⟩, rfl, by rw [vals_snoc]; exact h1, ?_⟩
     rw [← h1, List.length_append, vals_len]; simp
    have BAD := qh bad; clear bad
    cases hgd : getN d with
    | more =>
      obtain ⟨x, hx, hxs, hxl⟩ := BAD.out (by unfold stepR; rw [hgd])
      obtain ⟨fn, tmps, assign, body, hy, hR⟩ := HY.out pre x wr hj.out hxl
      rw [encI, hx] at hy
      change (Instr.yield lo #[Value.agg #[Value.int .i64 0, Value.int .u8 0], Value.bool false]).run Tryz.prog wr = _ at hy
      have HG2 : Hid (∀ n, CallsIn Fence.wide n Tryz.prog 175 #[.slice (some ⟨b, off + k, none⟩) (l.length - k) (cap - k)] wr fun e w' => e = .returned (.tuple #[.int .i64 0, .int .i64 0, .int .i64 2]) ∧ wr = w') := by rw [hgd] at HG; exact HG
      clear BAD HCL
      gi_wp2_with (refine ⟨trivial, ?_⟩; gi_at_call 175; refine (HG2.out _).mono ?_; rintro e w' ⟨rfl, rfl⟩)
      refine hR.mono ?_
      rintro e W3 (⟨rfl, hJ3, hk3⟩ | ⟨rfl, hJx3⟩)
      · gi_wp2
        refine bodyPost_ret (results_none rfl _ _ _) rfl ?_
        exact ⟨⟨_, rfl⟩, .inl ⟨_, hxs, hJ3⟩⟩
      · gi_wp2
        refine bodyPost_ret (results_none rfl _ _ _) rfl ?_
        exact ⟨⟨_, rfl⟩, .inr ⟨_, ⟨[], by rw [List.append_nil]; exact hxs⟩, hJx3⟩⟩
    | form =>
      obtain ⟨x, hx, hxs, hxl⟩ := BAD.out (by unfold stepR; rw [hgd])
      obtain ⟨fn, tmps, assign, body, hy, hR⟩ := HY.out pre x wr hj.out hxl
      rw [encI, hx] at hy
      change (Instr.yield lo #[Value.agg #[Value.int .i64 0, Value.int .u8 0], Value.bool false]).run Tryz.prog wr = _ at hy
      have HG2 : Hid (∀ n, CallsIn Fence.wide n Tryz.prog 175 #[.slice (some ⟨b, off + k, none⟩) (l.length - k) (cap - k)] wr fun e w' => e = .returned (.tuple #[.int .i64 0, .int .i64 0, .int .i64 1]) ∧ wr = w') := by rw [hgd] at HG; exact HG
      clear BAD HCL
      gi_wp2_with (refine ⟨trivial, ?_⟩; gi_at_call 175; refine (HG2.out _).mono ?_; rintro e w' ⟨rfl, rfl⟩)
      refine hR.mono ?_
      rintro e W3 (⟨rfl, hJ3, hk3⟩ | ⟨rfl, hJx3⟩)
      · gi_wp2
        refine bodyPost_ret (results_none rfl _ _ _) rfl ?_
        exact ⟨⟨_, rfl⟩, .inl ⟨_, hxs, hJ3⟩⟩
      · gi_wp2
        refine bodyPost_ret (results_none rfl _ _ _) rfl ?_
        exact ⟨⟨_, rfl⟩, .inr ⟨_, ⟨[], by rw [List.append_nil]; exact hxs⟩, hJx3⟩⟩
    | ok u kk =>
      obtain ⟨hu, hkp, _, hkl, hkk⟩ := getN_got d u kk hgd
      have hkk0 := qh hkk
      have hz := zag_in u hu
      obtain ⟨y, hyy⟩ : ∃ y : Int, zag u = y := ⟨_, rfl⟩
      rw [hyy] at hz
      obtain ⟨hz0, hz1⟩ := hz
      have HG3 : Hid (∀ n, CallsIn Fence.wide n Tryz.prog 175 #[.slice (some ⟨b, off + k, none⟩) (l.length - k) (cap - k)] wr fun e w' => e = .returned (gotV (.ok u kk)) ∧ wr = w') := by rw [hgd] at HG; exact HG
      have HG2 : Hid (∀ n, CallsIn Fence.wide n Tryz.prog 175 #[.slice (some ⟨b, off + k, none⟩) (l.length - k) (cap - k)] wr fun e w' => e = .returned (.tuple #[.int .i64 y, .int .i64 (kk : Int), .int .i64 0]) ∧ wr = w') := by rw [← hyy]; exact HG3
      clear HG3 HG
      obtain ⟨ee, hee⟩ : ∃ ee, Hid (ee = k + kk) := ⟨_, rfl⟩
      have hw1 : wrap64 ((k : Int) + (kk : Int)) = (ee : Int) := by have := hee.out; rw [w64_in _ (by unfold maxLen at hm; omega)]; omega
      clear hu hkp hkk
      by_cases hy1 : y < 1
      · have hyl := hyy; clear hw1
        obtain ⟨x, hx, hxs, hxl⟩ := BAD.out (stepR_small _ hgd (by omega))
        obtain ⟨fn, tmps, assign, body, hy, hR⟩ := HY.out pre x wr hj.out hxl
        rw [encI, hx] at hy
        change (Instr.yield lo #[Value.agg #[Value.int .i64 0, Value.int .u8 0], Value.bool false]).run Tryz.prog wr = _ at hy
        clear BAD HCL
        gi_wp2_with (refine ⟨trivial, ?_⟩; gi_at_call 175; refine (HG2.out _).mono ?_; rintro e w' ⟨rfl, rfl⟩)
        refine hR.mono ?_
        rintro e W3 (⟨rfl, hJ3, hk3⟩ | ⟨rfl, hJx3⟩)
        · gi_wp2
          refine bodyPost_ret (results_none rfl _ _ _) rfl ?_
          exact ⟨⟨_, rfl⟩, .inl ⟨_, hxs, hJ3⟩⟩
        · gi_wp2
          refine bodyPost_ret (results_none rfl _ _ _) rfl ?_
          exact ⟨⟨_, rfl⟩, .inr ⟨_, ⟨[], by rw [List.append_nil]; exact hxs⟩, hJx3⟩⟩
      · by_cases hend : d.length ≤ kk
        · have heq : ee = l.length := by have := hee.out; omega
          have heq2 : ((ee : Int) == (l.length : Int)) = true := by simp [heq]
          have HEQ := qh heq; clear heq
          obtain ⟨x, hx, hxs, hxl⟩ := BAD.out (stepR_stop _ hgd hend)
          obtain ⟨fn, tmps, assign, body, hy, hR⟩ := HY.out pre x wr hj.out hxl
          rw [encI, hx] at hy
          change (Instr.yield lo #[Value.agg #[Value.int .i64 0, Value.int .u8 0], Value.bool false]).run Tryz.prog wr = _ at hy
          clear BAD HCL
          gi_wp2_with (refine ⟨trivial, ?_⟩; gi_at_call 175; refine (HG2.out _).mono ?_; rintro e w' ⟨rfl, rfl⟩)
          refine hR.mono ?_
          rintro e W3 (⟨rfl, hJ3, hk3⟩ | ⟨rfl, hJx3⟩)
          · gi_wp2
            refine bodyPost_ret (results_none rfl _ _ _) rfl ?_
            exact ⟨⟨_, rfl⟩, .inl ⟨_, hxs, hJ3⟩⟩
          · gi_wp2
            refine bodyPost_ret (results_none rfl _ _ _) rfl ?_
            exact ⟨⟨_, rfl⟩, .inr ⟨_, ⟨[], by rw [List.append_nil]; exact hxs⟩, hJx3⟩⟩
        · have hlt2 : ee < l.length := by have := hee.out; omega
          have heq2 : ((ee : Int) == (l.length : Int)) = false := by simp; omega
          have hlt3 : (ee : Int) < (l.length : Int) := by omega
          obtain ⟨c, hcc⟩ : ∃ c, d[kk]'(by omega) = c := ⟨_, rfl⟩
          have hcell := HCL.out kk (by omega)
          rw [hcc, ← hee.out] at hcell
          unfold vb at hcell
          obtain ⟨m, hmm⟩ : ∃ m : Int, Hid ((c.toNat : Int) = m) := ⟨_, rfl⟩
          rw [hmm.out] at hcell
          obtain ⟨k2, hk2⟩ : ∃ k2 : Nat, Hid (k2 = ee + 1) := ⟨_, rfl⟩
          have hw2 : wrap64 ((ee : Int) + 1) = (k2 : Int) := by have := hk2.out; rw [w64_in _ (by unfold maxLen at hm; omega)]; omega
          by_cases hk0 : k = 0
          · have hst : stepR (decide (k = 0)) d = some (y, c, kk) := by rw [← hyy, ← hcc]; exact stepR_good _ hgd (by omega) (by omega) (.inl (by simp [hk0]))
            have hn0 : ¬ (0 : Int) < (k : Int) := by omega
            have HK0 := qh hk0; clear hk0
            have h1 := hit'.out
            rw [items_ok hst] at h1
            have h2 := HT.out (y, c, true) (by rw [← h1]; simp)
            have hdd : d.drop (kk + 1) = l.drop k2 := by rw [hd, List.drop_drop]; congr 1; have := hk2.out; have := hee.out; omega
            rw [hdd] at h1
            obtain ⟨x, hx⟩ : ∃ x : ItT T, x.1 = (y, c, true) := ⟨⟨(y, c, true), by show (0 : Int) ≤ y; omega, h2⟩, rfl⟩
            obtain ⟨fn, tmps, assign, body, hy, hR⟩ := HY.out pre x wr hj.out (by rw [← h1, List.length_append, vals_len]; simp)
            rw [encI, hx] at hy
            change (Instr.yield lo #[Value.agg #[Value.int .i64 y, Value.int .u8 (c.toNat : Int)], Value.bool true]).run Tryz.prog wr = _ at hy
            rw [hmm.out] at hy
            have hn1 : vals (pre ++ [x]) ++ items false (l.drop k2) = items true l := by rw [vals_snoc, hx, List.append_assoc]; exact h1
            have HN1 := qh hn1
            clear BAD HCL h1 h2 hst hn1 hdd
            gi_wp2_with (refine ⟨trivial, ?_⟩; gi_at_call 175; refine (HG2.out _).mono ?_; rintro e w' ⟨rfl, rfl⟩)
            refine hR.mono ?_
            rintro e W3 (⟨rfl, hJ3, hk3⟩ | ⟨rfl, hJx3⟩)
            · gi_wp2
              go_roundw
              case rel => exact ⟨k2, _, by rw [hw2], by have := hk2.out; omega, by rw [show decide (k2 = 0) = false by have := hk2.out; simp; omega]; exact HN1, hJ3, hkr.out.trans hk3⟩
              case measure => rw [hw2]; have := hk2.out; have := hee.out; have := hkk0.out; simp only [intOf, Int.toNat_natCast]; omega
            · gi_wp2
              refine bodyPost_ret (results_none rfl _ _ _) rfl ?_
              exact ⟨⟨_, rfl⟩, .inr ⟨_, ⟨_, HN1.out⟩, hJx3⟩⟩
          · have hn0 : (0 : Int) < (k : Int) := by omega
            by_cases hm0 : m = 0
            · have hmz : (m == 0) = true := by simp [hm0]
              have hc0 : c = 0 := by
               have h1 := hmm.out
               apply UInt8.toNat.inj
               show c.toNat = 0
               omega
              have hbz : stepR (decide (k = 0)) d = none := by rw [show decide (k = 0) = false by simpa using hk0]; exact stepR_zero hgd (by omega) (by rw [hcc]; exact hc0)
              have HM0 := qh hm0; have HK0 := qh hk0; clear hm0 hk0 hc0
              obtain ⟨x, hx, hxs, hxl⟩ := BAD.out (hbz)
              obtain ⟨fn, tmps, assign, body, hy, hR⟩ := HY.out pre x wr hj.out hxl
              rw [encI, hx] at hy
              change (Instr.yield lo #[Value.agg #[Value.int .i64 0, Value.int .u8 0], Value.bool false]).run Tryz.prog wr = _ at hy
              clear BAD HCL
              gi_wp2_with (refine ⟨trivial, ?_⟩; gi_at_call 175; refine (HG2.out _).mono ?_; rintro e w' ⟨rfl, rfl⟩)
              refine hR.mono ?_
              rintro e W3 (⟨rfl, hJ3, hk3⟩ | ⟨rfl, hJx3⟩)
              · gi_wp2
                refine bodyPost_ret (results_none rfl _ _ _) rfl ?_
                exact ⟨⟨_, rfl⟩, .inl ⟨_, hxs, hJ3⟩⟩
              · gi_wp2
                refine bodyPost_ret (results_none rfl _ _ _) rfl ?_
                exact ⟨⟨_, rfl⟩, .inr ⟨_, ⟨[], by rw [List.append_nil]; exact hxs⟩, hJx3⟩⟩
            · have hmz : (m == 0) = false := by simpa using hm0
              have hst : stepR (decide (k = 0)) d = some (y, c, kk) := by
               rw [← hyy, ← hcc]
               refine stepR_good _ hgd (by omega) (by omega) (.inr ?_)
               rw [hcc]
               intro h
               have h1 := hmm.out
               rw [h] at h1
               exact hm0 h1.symm
              have HM0 := qh hm0; have HK0 := qh hk0; clear hm0 hk0
              have h1 := hit'.out
              rw [items_ok hst] at h1
              have h2 := HT.out (y, c, true) (by rw [← h1]; simp)
              have hdd : d.drop (kk + 1) = l.drop k2 := by rw [hd, List.drop_drop]; congr 1; have := hk2.out; have := hee.out; omega
              rw [hdd] at h1
              obtain ⟨x, hx⟩ : ∃ x : ItT T, x.1 = (y, c, true) := ⟨⟨(y, c, true), by show (0 : Int) ≤ y; omega, h2⟩, rfl⟩
              obtain ⟨fn, tmps, assign, body, hy, hR⟩ := HY.out pre x wr hj.out (by rw [← h1, List.length_append, vals_len]; simp)
              rw [encI, hx] at hy
              change (Instr.yield lo #[Value.agg #[Value.int .i64 y, Value.int .u8 (c.toNat : Int)], Value.bool true]).run Tryz.prog wr = _ at hy
              rw [hmm.out] at hy
              have hn1 : vals (pre ++ [x]) ++ items false (l.drop k2) = items true l := by rw [vals_snoc, hx, List.append_assoc]; exact h1
              have HN1 := qh hn1
              clear BAD HCL h1 h2 hst hn1 hdd
              gi_wp2_with (refine ⟨trivial, ?_⟩; gi_at_call 175; refine (HG2.out _).mono ?_; rintro e w' ⟨rfl, rfl⟩)
              refine hR.mono ?_
              rintro e W3 (⟨rfl, hJ3, hk3⟩ | ⟨rfl, hJx3⟩)
              · gi_wp2
                go_roundw
                case rel => exact ⟨k2, _, by rw [hw2], by have := hk2.out; omega, by rw [show decide (k2 = 0) = false by have := hk2.out; simp; omega]; exact HN1, hJ3, hkr.out.trans hk3⟩
                case measure => rw [hw2]; have := hk2.out; have := hee.out; have := hkk0.out; simp only [intOf, Int.toNat_natCast]; omega
              · gi_wp2
                refine bodyPost_ret (results_none rfl _ _ _) rfl ?_
                exact ⟨⟨_, rfl⟩, .inr ⟨_, ⟨_, HN1.out⟩, hJx3⟩⟩
  · obtain rfl : k = l.length := by omega
    have hfin := hit.out
    rw [List.drop_length, items_nil, List.append_nil] at hfin
    gi_wp2
    go_end0
    exact ⟨⟨_, rfl⟩, .inl ⟨_, hfin, hj.out⟩⟩
theorem read_stops (n : Nat) (hn : 1 ≤ n) (T : Int) (Bn n₀ : Nat) (A : Option Addr) (l : List UInt8) (cap : Nat) (hT : ∀ x ∈ items true l, x.1 ≤ T) (hc : l.length ≤ cap) (hm : cap ≤ maxLen) (w : World) (hBn : Bn < w.heap.size) (hn₀ : n₀ ≤ w.heap.size)
 (hB : Boxed w Bn 33 (.slice A l.length cap)) (hr : RB w n₀ A l) :
 SeqStopsK Fence.wide n Tryz.prog 199 #[.pointer (some ⟨Bn, 0, none⟩)] (encI (T := T)) (KR n₀ Bn) (fun ys => vals ys = items true l) (fun pre => ∃ rest, vals pre ++ rest = items true l) (items true l).length w := fun lo J Jx W hW _ _ hY h0 =>
 read1_in n hn T lo Bn n₀ A l cap hT hc hm J Jx hY W ((hW.block Bn hBn).trans hB) (hr.below (hW.mono hn₀)) h0
theorem krB {w : World} {n₀ Bn : Nat} (hn : n₀ ≤ w.heap.size) (hB : Bn < w.heap.size) (W : World) (l : Nat) (o o' : Obj) (hl : w.heap.size ≤ l) (h : W.heap[l]? = some o) (h1 : o.isCells = false) (h2 : o.isWalk = false) : KR n₀ Bn W (W.putObj l o') :=
 ⟨belowK_b hn W l o o' hl h h1 h2, World.putObj_heap_other (by omega)⟩
theorem read_any (A : Option Addr) (n cap : Nat) (w : World) :
 Calls Tryz.prog 192 #[.slice A n cap] w fun e w' => e = .returned (.func (.func 199) #[] #[.pointer (some ⟨w.heap.size, 0, none⟩)]) ∧ w' = w.alloc (.cells #[.slice A n cap] 33) := by
 go_enter Tryz.func192, Tryz.ntmps192
 go_wp2
 go_ret
 exact ⟨rfl, rfl⟩
open Go.RowKit Go.Shelf
attribute [local go_sem] Oper.semAt_some
def Pair (W : World) (B : Nat) (t : TypeId) (u v : Value) : Prop := W.heap[B]? = some (.cells #[u, v] t (0, 0))
theorem Pair.lt {W : World} {B : Nat} {t : TypeId} {u v : Value} (h : Pair W B t u v) : B < W.heap.size := (Array.getElem?_eq_some_iff.1 h).1
theorem Pair.cell0 {W : World} {B : Nat} {t : TypeId} {u v : Value} (h : Pair W B t u v) : W.cell? ⟨B, 0, none⟩ = some u := by simp [World.cell?, show W.heap[B]? = _ from h]
theorem Pair.cell1 {W : World} {B : Nat} {t : TypeId} {u v : Value} (h : Pair W B t u v) : W.cell? ⟨B, 1, none⟩ = some v := by simp [World.cell?, show W.heap[B]? = _ from h]
theorem Pair.kept {W W' : World} {row : Option Nat} {B : Nat} {t : TypeId} {u v : Value} (h : Pair W B t u v) (hg : W.grownBy W' row) (hne : some B ≠ row) : Pair W' B t u v := (hg.block B h.lt hne).trans h
theorem Pair.other {W : World} {B B' : Nat} {t : TypeId} {u v : Value} (h : Pair W B t u v) (hne : B ≠ B') (x : Value) : Pair (W.setCell ⟨B', 0, none⟩ x) B t u v := h.kept (grownBy_setCell' W B' x) (fun e => hne (by cases e; rfl))
theorem pair_own {β : Type} (B : Nat) (t : TypeId) (f g : β → Value) : Own (fun s W => Pair W B t (f s) (g s)) := fun s X Y row hs hg hrow =>
 hs.kept hg (fun e' => by obtain ⟨o, ho, hc⟩ := hrow B e'.symm; rw [show X.heap[B]? = _ from hs] at ho; cases ho; cases hc)
def cntV : Cnt → Value
 | .form => .tuple #[.int .i64 0, .int .i64 1]
 | .full => .tuple #[.int .i64 0, .int .i64 4]
 | .ok t => .tuple #[.int .i64 t, .int .i64 0]
def CI (w : World) (m : Int) {T : Int} (pre : List (ItT T)) (W : World) : Prop :=
 (∃ t, cnt m 0 (vals pre) = .ok t ∧ Boxed W (w.heap.size + 1 + 1 + 1) 3 (.int .i64 t)) ∧ Boxed W w.heap.size 3 (.int .i64 m) ∧ Boxed W (w.heap.size + 1) 3 (.int .i64 0) ∧ Boxed W (w.heap.size + 1 + 1) 27 (.int .i64 0) ∧ w.heap.size + 5 ≤ W.heap.size ∧ Below w.heap.size w W
def CX (w : World) (m : Int) {T : Int} (c : Code) (pre : List (ItT T)) (W : World) : Prop :=
 (c = .ret ∧ ∃ e, cntV (cnt m 0 (vals pre)) = .tuple #[.int .i64 0, .int .i64 e] ∧ (∀ r, cnt m 0 (vals pre ++ r) = cnt m 0 (vals pre)) ∧ Boxed W (w.heap.size + 1) 3 (.int .i64 0) ∧ Boxed W (w.heap.size + 1 + 1) 27 (.int .i64 e)) ∧ Below w.heap.size w W
theorem ci_own (w : World) (m : Int) {T : Int} (B : Nat) (hB : w.heap.size ≤ B) : OwnFrom B (CI w m (T := T)) := fun s X Y row hs hg hr => by
 obtain ⟨⟨t, h1, h2⟩, h3, h4, h5, hz, h6⟩ := hs
 have hk : ∀ {b ty v}, Boxed X b ty v → Boxed Y b ty v := fun {b ty v} h => boxed_own b ty (fun _ : Unit => v) () X Y row h hg (fun r e => (hr r e).2)
 exact ⟨⟨t, h1, hk h2⟩, hk h3, hk h4, hk h5, Nat.le_trans hz hg.size, ownFrom_below (β := Unit) (n₀ := w.heap.size) (w₀ := w) (B := B) (nl _) hB () X Y row h6 hg hr⟩
theorem cx_own (w : World) (m : Int) {T : Int} (B : Nat) (hB : w.heap.size ≤ B) (c : Code) : OwnFrom B (CX w m (T := T) c) := fun s X Y row hs hg hr => by
 obtain ⟨⟨h0, e, h1, h2, h3, h4⟩, h6⟩ := hs
 have hk : ∀ {b ty v}, Boxed X b ty v → Boxed Y b ty v := fun {b ty v} h => boxed_own b ty (fun _ : Unit => v) () X Y row h hg (fun r e => (hr r e).2)
 exact ⟨⟨h0, e, h1, h2, hk h3, hk h4⟩, ownFrom_below (β := Unit) (n₀ := w.heap.size) (w₀ := w) (B := B) (nl _) hB () X Y row h6 hg hr⟩
set_option maxHeartbeats 4000000 in
theorem count_any (A : Option Addr) (l : List UInt8) (cap : Nat) (m : Int) (w : World) (hm0 : 0 ≤ m) (hm1 : m ≤ 9223372036854775807) (hr : RB w w.heap.size A l) (hc : l.length ≤ cap) (hm : cap ≤ maxLen) :
 Calls Tryz.prog 191 #[.slice A l.length cap, .int .i64 m] w fun e w' => e = .returned (cntV (cnt m 0 (items true l))) ∧ Below w.heap.size w w' := by
 have HR := qh hr; have HM := qh hm; have HM1 := qh hm1; clear hr hm hm1
 refine (callsIn_wide (n := 6)).1 ?_
 refine callsIn_of_wp_marks Tryz.func191 rfl trivial ?_ rfl
 simp only [Tryz.ntmps191, List.size_toArray, List.length_cons, List.length_nil, Nat.reduceAdd, Nat.reduceSub, Array.replicate_succ, Array.replicate_zero, List.push_toArray, List.append_toArray, List.nil_append, List.cons_append]
 gi_wp2_with (refine ⟨trivial, ?_⟩; gi_at_call 192; refine (callsIn_wide.2 (read_any _ _ _ _)).mono ?_; rintro e w' ⟨rfl, rfl⟩)
 have b0 := (((((Boxed.new w 3 (.int .i64 m)).alloc (.cells #[.int .i64 0] 3)).alloc (.cells #[.int .i64 0] 27)).alloc (.cells #[.int .i64 0] 3)).alloc (.cells #[.slice A l.length cap] 33))
 have b1 := ((((Boxed.new (w.alloc (.cells #[.int .i64 m] 3)) 3 (.int .i64 0)).alloc (.cells #[.int .i64 0] 27)).alloc (.cells #[.int .i64 0] 3)).alloc (.cells #[.slice A l.length cap] 33))
 have b2 := (((Boxed.new ((w.alloc (.cells #[.int .i64 m] 3)).alloc (.cells #[.int .i64 0] 3)) 27 (.int .i64 0)).alloc (.cells #[.int .i64 0] 3)).alloc (.cells #[.slice A l.length cap] 33))
 have b3 := ((Boxed.new (((w.alloc (.cells #[.int .i64 m] 3)).alloc (.cells #[.int .i64 0] 3)).alloc (.cells #[.int .i64 0] 27)) 3 (.int .i64 0)).alloc (.cells #[.slice A l.length cap] 33))
 have b4 := (Boxed.new ((((w.alloc (.cells #[.int .i64 m] 3)).alloc (.cells #[.int .i64 0] 3)).alloc (.cells #[.int .i64 0] 27)).alloc (.cells #[.int .i64 0] 3)) 33 (.slice A l.length cap))
 simp only [World.size_alloc] at b1 b2 b3 b4
 have hB0 : Below w.heap.size w (((((w.alloc (.cells #[.int .i64 m] 3)).alloc (.cells #[.int .i64 0] 3)).alloc (.cells #[.int .i64 0] 27)).alloc (.cells #[.int .i64 0] 3)).alloc (.cells #[.slice A l.length cap] 33)) :=
  ((((bR _ w).alloc (nl _) _).alloc (by simp) _).alloc (by simp; omega) _).alloc (by simp; omega) _ |>.alloc (by simp; omega) _
 have hsz : (((((w.alloc (.cells #[.int .i64 m] 3)).alloc (.cells #[.int .i64 0] 3)).alloc (.cells #[.int .i64 0] 27)).alloc (.cells #[.int .i64 0] 3)).alloc (.cells #[.slice A l.length cap] 33)).heap.size = w.heap.size + 5 := by simp
 obtain ⟨W0, hW0⟩ : ∃ W0, (((((w.alloc (.cells #[.int .i64 m] 3)).alloc (.cells #[.int .i64 0] 3)).alloc (.cells #[.int .i64 0] 27)).alloc (.cells #[.int .i64 0] 3)).alloc (.cells #[.slice A l.length cap] 33)) = W0 := ⟨_, rfl⟩
 rw [hW0] at b0 b1 b2 b3 b4 hB0 hsz ⊢
 clear hW0
 have hT : ∀ x ∈ items true l, x.1 ≤ 9223372036854775807 := fun x hx => (items_in l true x hx).2
 refine wpIn_rangeFunc_ownH rfl (by omega) (gf := 199) (lb := #[.pointer (some ⟨w.heap.size + 1 + 1 + 1 + 1, 0, none⟩)]) rfl trivial (enters_of Tryz.func199 (by kernel_rfl) rfl)
  (read_stops 5 (by omega) 9223372036854775807 (w.heap.size + 1 + 1 + 1 + 1) w.heap.size A l cap hT hc HM.out W0 (by omega) (by omega) b4 (HR.out.below hB0)) (fun h k => KR.trans h k) (krB (by omega) (by omega)) (bR _ _) (fun _ => rfl)
  (CI w m) (CX w m) (ci_own w m _ (by omega)) (cx_own w m _ (by omega))
  ⟨⟨0, cnt_nil _ _, b3⟩, b0, b1, b2, by omega, hB0⟩
  (fun x a' W => ∃ Bx, w.heap.size + 1 + 1 + 1 + 1 < Bx ∧ Pair W Bx 262 (.int .i64 x.1.1) (.int .u8 (x.1.2.1.toNat : Int)) ∧ a' = { tmps := #[.slice A l.length cap, .int .i64 m, undef, .pointer (some ⟨w.heap.size, 0, none⟩), .pointer (some ⟨w.heap.size + 1, 0, none⟩), .pointer (some ⟨w.heap.size + 1 + 1, 0, none⟩), .pointer (some ⟨w.heap.size + 1 + 1 + 1, 0, none⟩), .pointer (some ⟨Bx, 0, none⟩), .bool x.1.2.2, .slice A l.length cap, .func (.func 199) #[] #[.pointer (some ⟨w.heap.size + 1 + 1 + 1 + 1, 0, none⟩)], .agg #[.int .i64 x.1.1, .int .u8 (x.1.2.1.toNat : Int)], .bool x.1.2.2, undef, undef, undef, undef, undef, undef, undef, undef, undef, undef, undef, undef, undef], defers := [] })
  (fun x a' _ X Y row hs hg hr => by obtain ⟨Bx, h1, h2, h3⟩ := hs; exact ⟨Bx, h1, pair_own Bx 262 (fun _ : Unit => Value.int .i64 x.1.1) (fun _ => Value.int .u8 (x.1.2.1.toNat : Int)) () X Y row h2 hg (fun r e => (hr r e).2), h3⟩)
  ?assign ?body ?done ?stop
 case assign =>
  rintro lo pre ⟨⟨n, c, ok⟩, hx0, hx1⟩ W K ⟨⟨t, h1, h2⟩, h3, h4, h5, hz, h6⟩ hK
  have hsW := h6.size
  dsimp only [encI, itV]
  gi_wp2
  exact hK _ _ ((KeepsOthers.alloc _ _).from _) ⟨(bR _ W).alloc hsW _, Below.heap_alloc W _ _ (by omega)⟩ ⟨⟨t, h1, h2.alloc _⟩, h3.alloc _, h4.alloc _, h5.alloc _, by simp; omega, h6.alloc hsW _⟩ ⟨W.heap.size, by omega, World.alloc_heap_new W _, rfl⟩
 case body =>
  rintro lo pre ⟨⟨n, c, ok⟩, hx0, hx1⟩ a' W hl ⟨r, hr⟩ ⟨⟨t, h1, h2⟩, h3, h4, h5, hz, h6⟩ ⟨Bx, hBx, bX, rfl⟩ hlt
  have hsW := h6.size
  have f1 := h4.frozen
  have c1 := h4.cell
  have f2 := h5.frozen
  have c2 := h5.cell
  have hx0 : 0 ≤ n := hx0
  have hx1 : n ≤ 9223372036854775807 := hx1
  cases ok with
  | false =>
    have e1 : cnt m 0 (vals (pre ++ [⟨(n, c, false), hx0, hx1⟩])) = .form := by rw [vals_snoc, cnt_app, h1]; exact cnt_form _ _ _ _ rfl
    have e2 : ∀ r, cnt m 0 (vals (pre ++ [⟨(n, c, false), hx0, hx1⟩]) ++ r) = .form := fun r => by rw [cnt_app, e1]; rfl
    have E1 := qh e1; have E2 := qh e2; clear e1 e2 h1
    have g4 := h4.set (.int .i64 0)
    have g5 := (h5.other (show w.heap.size + 1 + 1 ≠ w.heap.size + 1 by omega) (.int .i64 0)).set (.int .i64 1)
    have g4 := g4.other (show w.heap.size + 1 ≠ w.heap.size + 1 + 1 by omega) (.int .i64 1)
    have f2' := (h5.other (show w.heap.size + 1 + 1 ≠ w.heap.size + 1 by omega) (.int .i64 0)).frozen
    have c2' := (h5.other (show w.heap.size + 1 + 1 ≠ w.heap.size + 1 by omega) (.int .i64 0)).cell
    have G4 := qh g4; have G5 := qh g5; clear g4 g5
    gi_wp2
    exact ⟨((KeepsOthers.setCell _ _ _).trans (KeepsOthers.setCell _ _ _)).from _, ⟨rfl, 1, by rw [E1.out]; rfl, fun r => by rw [E2.out, E1.out], G4.out, G5.out⟩, (h6.setCell (p := ⟨w.heap.size + 1, 0, none⟩) (by simp) _).setCell (p := ⟨w.heap.size + 1 + 1, 0, none⟩) (by simp; omega) _⟩
  | true =>
    obtain ⟨ht0, ht1⟩ : 0 ≤ t ∧ t ≤ m := by
     have := cnt_le m (vals pre) 0 t hm0 (fun x hx => by obtain ⟨y, _, rfl⟩ := List.mem_map.1 hx; exact y.2.1) h1
     omega
    have cX := bX.cell0
    have cM := h3.cell
    have cT := h2.cell
    have fT := h2.frozen
    obtain ⟨q, hq⟩ : ∃ q : Int, Hid (m - t = q) := ⟨_, rfl⟩
    have hq1 : wrap64 (m - t) = q := by rw [w64_in _ (by have := HM1.out; omega)]; exact hq.out
    by_cases hfull : q < n
    · have e1 : cnt m 0 (vals (pre ++ [⟨(n, c, true), hx0, hx1⟩])) = .full := by rw [vals_snoc, cnt_app, h1]; exact cnt_full _ _ _ _ rfl (by rw [hq.out]; exact hfull)
      have e2 : ∀ r, cnt m 0 (vals (pre ++ [⟨(n, c, true), hx0, hx1⟩]) ++ r) = .full := fun r => by rw [cnt_app, e1]; rfl
      have E1 := qh e1; have E2 := qh e2; clear e1 e2 h1
      have g4 := h4.set (.int .i64 0)
      have g5 := (h5.other (show w.heap.size + 1 + 1 ≠ w.heap.size + 1 by omega) (.int .i64 0)).set (.int .i64 4)
      have g4 := g4.other (show w.heap.size + 1 ≠ w.heap.size + 1 + 1 by omega) (.int .i64 4)
      have f2' := (h5.other (show w.heap.size + 1 + 1 ≠ w.heap.size + 1 by omega) (.int .i64 0)).frozen
      have c2' := (h5.other (show w.heap.size + 1 + 1 ≠ w.heap.size + 1 by omega) (.int .i64 0)).cell
      have G4 := qh g4; have G5 := qh g5; clear g4 g5
      gi_wp2
      exact ⟨((KeepsOthers.setCell _ _ _).trans (KeepsOthers.setCell _ _ _)).from _, ⟨rfl, 4, by rw [E1.out]; rfl, fun r => by rw [E2.out, E1.out], G4.out, G5.out⟩, (h6.setCell (p := ⟨w.heap.size + 1, 0, none⟩) (by simp) _).setCell (p := ⟨w.heap.size + 1 + 1, 0, none⟩) (by simp; omega) _⟩
    · have e1 : cnt m 0 (vals (pre ++ [⟨(n, c, true), hx0, hx1⟩])) = .ok (t + n) := by rw [vals_snoc, cnt_app, h1]; show cnt m t [_] = _; rw [cnt_on _ _ _ _ rfl (by rw [hq.out]; exact hfull), cnt_nil]
      obtain ⟨s, hs⟩ : ∃ s : Int, Hid (t + n = s) := ⟨_, rfl⟩
      have hs1 : wrap64 (t + n) = s := by rw [w64_in _ (by have := HM1.out; have := hq.out; omega)]; exact hs.out
      rw [hs.out] at e1
      have E1 := qh e1; clear e1 h1
      gi_wp2
      exact ⟨(KeepsOthers.setCell _ _ _).from _, ⟨(bR w.heap.size W).setCell (p := ⟨w.heap.size + 1 + 1 + 1, 0, none⟩) (by simp; omega) _, Below.heap_setCell _ _ _ _ (by simp)⟩, ⟨s, E1.out, h2.set _⟩, h3.other (by omega) _, h4.other (by omega) _, h5.other (by omega) _, by rw [World.size_setCell]; omega, h6.setCell (p := ⟨w.heap.size + 1 + 1 + 1, 0, none⟩) (by simp; omega) _⟩
 case done =>
  rintro D ys W hD hys ⟨⟨t, h1, h2⟩, h3, h4, h5, hz, h6⟩ hK
  rw [hys] at h1
  have cT := h2.cell
  have f1 := h4.frozen
  have c1 := h4.cell
  have g5 := (h5.other (show w.heap.size + 1 + 1 ≠ w.heap.size + 1 by omega) (.int .i64 t))
  have f2' := g5.frozen
  have c2' := g5.cell
  have g4 := (h4.set (.int .i64 t)).other (show w.heap.size + 1 ≠ w.heap.size + 1 + 1 by omega) (.int .i64 0)
  have g5 := g5.set (.int .i64 0)
  have hK' := ((KeepsOthers.setCell W ⟨w.heap.size + 1, 0, none⟩ (.int .i64 t)).trans (KeepsOthers.setCell _ ⟨w.heap.size + 1 + 1, 0, none⟩ (.int .i64 0))).same D _ hK rfl
  have hb := (h6.setCell (p := ⟨w.heap.size + 1, 0, none⟩) (by simp) (.int .i64 t)).setCell (p := ⟨w.heap.size + 1 + 1, 0, none⟩) (by simp; omega) (.int .i64 0)
  have c4 := cell_kept g4.cell (grownBy_putObj' _ D (.deferred none)) (fun r e => by cases e; exact ⟨_, hK', rfl⟩)
  have c5 := cell_kept g5.cell (grownBy_putObj' _ D (.deferred none)) (fun r e => by cases e; exact ⟨_, hK', rfl⟩)
  have H1 := qh h1; have HK' := qh hK'; have HB := qh hb; have C4 := qh c4; have C5 := qh c5
  clear h1 hK' hb c4 c5 g4 g5
  gi_wp2
  refine ⟨by simp, .inl ⟨_, _, rfl, run_takeDeferred HK'.out, ?_⟩⟩
  have c4 := C4.out
  have c5 := C5.out
  refine ⟨.tuple #[.int .i64 t, .int .i64 0], ?_, by rw [H1.out]; rfl, HB.out.trans (belowK_b (w := w) (nl _) _ D _ _ (by omega) HK'.out rfl rfl)⟩
  simp [results, Tryz.f191, go_sem, c4, c5]
 case stop =>
  rintro D c pre W hD ⟨rest, hrest⟩ ⟨⟨rfl, e, h1, h2, h3, h4⟩, h6⟩ hK
  have h5 := h2 rest
  rw [hrest] at h5
  rw [← h5] at h1
  have c4 := cell_kept h3.cell (grownBy_putObj' _ D (.deferred none)) (fun r e => by cases e; exact ⟨_, hK, rfl⟩)
  have c5 := cell_kept h4.cell (grownBy_putObj' _ D (.deferred none)) (fun r e => by cases e; exact ⟨_, hK, rfl⟩)
  have C4 := qh c4; have C5 := qh c5; have H1 := qh h1
  clear c4 c5 h1 h5 h2
  gi_wp2
  refine ⟨by simp, .inl ⟨_, _, rfl, run_takeDeferred hK, ?_⟩⟩
  have c4 := C4.out
  have c5 := C5.out
  refine ⟨.tuple #[.int .i64 0, .int .i64 e], ?_, by rw [H1.out], h6.trans (belowK_b (w := w) (nl _) _ D _ _ (by omega) hK rfl rfl)⟩
  simp [results, Tryz.f191, go_sem, c4, c5]
open Go.RowKit Go.Shelf
attribute [local go_sem] Oper.semAt_some
theorem wpListIn_append_bytes {F : Fence} {n : Nat} {w : World} {ops : Array Oper} {rest : List Oper} {o : Oper} {a : Act} {Q : Exit → Act → World → Prop} (hgd : o.guard = none) (s x : Operand)
 (ho : o.op = .call { callee := .builtin .append, args := #[s, x], argTypes := #[33, 33] })
 (base : Nat) (v : Value) (xs l : List UInt8) (hs : a.eval s = v) (hown : OB w base v xs)
 (B : Nat) (A : Option Addr) (c : Nat) (hx : a.eval x = .slice A l.length c) (hr : RB w B A l) (hlen : xs.length + l.length ≤ 140737488355328) (hbase : base ≤ w.heap.size)
 (h : ∀ v' w', OB w' base v' (xs ++ l) → w.grownBy w' v.ownBlock → (v'.ownBlock = v.ownBlock ∨ v'.ownBlock = some w.heap.size) → wpListIn F n Tryz.prog ops Q rest (a.put o.dst v') w') : wpListIn F n Tryz.prog ops Q (o :: rest) a w := by
 refine wpListIn_plain hgd fun K hK => ?_
 obtain ⟨v', w', hrun, h2, h3, h4⟩ := run_append_bytes w base o.type v xs l hown B A c hr hlen hbase
 unfold Oper.wpIn
 refine ⟨by simp [Oper.about, ho, resolve, Target.leads, Sem.run_pure], ?_⟩
 rw [Oper.semAt_plain F _ _ (by rw [ho]; intro c hc'; cases hc')]
 simp [execOp, ho, resolve, invoke, builtin, hs, hx, hrun, Result.andThen]
 exact hK _ _ (h v' w' h2 h3 h4)
theorem expand_le (T : Int) (pre : List (ItT T)) : ∀ a, (expand a (vals pre)).length ≤ pre.length * T.toNat := by
 induction pre with
 | nil => intro a; simp [vals, expand]
 | cons x r ih =>
   intro a
   have h := ih (a ^^^ x.1.2.1)
   show (List.replicate x.1.1.toNat _ ++ expand _ (vals r)).length ≤ _
   rw [List.length_append, List.length_replicate, List.length_cons, Nat.add_mul, Nat.one_mul]
   have h2 : x.1.1.toNat ≤ T.toNat := by have := x.2; omega
   omega
theorem Pair.not_row {W : World} {B : Nat} {t e : TypeId} {u u' : Value} (h : Pair W B t u u') (hte : t ≠ e) {base size k : Nat} {v : Value} {xs : List Value} (hr : W.ownsRow base e size v k xs) : some B ≠ v.ownBlock := by
 rcases hr.2 with ⟨rfl, _⟩ | ⟨g, cap, cur, rfl, _, hgb, _⟩
 · simp [Value.ownBlock]
 · intro e'
   obtain rfl : B = g := by simpa [Value.ownBlock] using e'
   have := (show W.heap[B]? = _ from h).symm.trans hgb
   simp at this
   exact hte this.2
theorem app_other {wr w3 : World} {o : Obj} {v x : Value} {q B : Nat} (hq : q < wr.heap.size) (hqB : q ≠ B) (hqv : some q ≠ v.ownBlock) (hg : (wr.alloc o).grownBy w3 v.ownBlock) : (w3.setCell ⟨B, 0, none⟩ x).heap[q]? = wr.heap[q]? :=
 (Below.heap_setCell _ _ _ q hqB).trans ((hg.block q (by rw [World.size_alloc]; omega) hqv).trans (Below.heap_alloc wr o q hq))
def Far (v : Value) (q : Nat) : Prop := ∀ k, v.ownBlock = some k → k ≠ q ∧ k ≠ q + 1 ∧ k ≠ q + 1 + 1
def DI (w : World) (q : Nat) {T : Int} (pre : List (ItT T)) (W : World) : Prop :=
 (∃ v, Boxed W q 33 v ∧ OB W w.heap.size v (expand 0 (vals pre)) ∧ Far v q) ∧ Boxed W (q + 1) 5 (.int .u8 ((lastV 0 (vals pre)).toNat : Int)) ∧ q + 3 ≤ W.heap.size ∧ Below w.heap.size w W
theorem di_own (w : World) (q : Nat) {T : Int} (B : Nat) (hB : w.heap.size ≤ B) : OwnFrom B (DI w q (T := T)) := fun s X Y row hs hg hr => by
 obtain ⟨h1, h2, h3, h4⟩ := hs
 exact ⟨holdsRow_own w.heap.size q 33 5 1 (fun s : List (ItT T) => (expand 0 (vals s)).length) (fun s => (expand 0 (vals s)).map vb) (fun _ v => Far v q) s X Y row h1 hg (fun r e => (hr r e).2),
  boxed_own (q + 1) 5 (fun s : List (ItT T) => Value.int .u8 ((lastV 0 (vals s)).toNat : Int)) s X Y row h2 hg (fun r e => (hr r e).2), Nat.le_trans h3 hg.size,
  ownFrom_below (β := Unit) (n₀ := w.heap.size) (w₀ := w) (B := B) (nl _) hB () X Y row h4 hg hr⟩
theorem rep_snoc (k : Nat) (x : UInt8) : List.replicate k x ++ [x] = List.replicate (k + 1) x := by rw [List.replicate_succ', ]
theorem app_len (L : List UInt8) (k nn : Nat) (x : UInt8) (h1 : L.length ≤ 8796093018112) (h2 : k < nn) (h3 : nn ≤ 2147483647) : (L ++ List.replicate k x).length + [x].length ≤ 140737488355328 := by
 rw [List.length_append, List.length_replicate]
 show L.length + k + 1 ≤ 140737488355328
 omega
theorem app_pos (L : List UInt8) (k : Nat) (x : UInt8) : 0 < (L ++ List.replicate k x ++ [x]).length := by simp; omega
theorem pre_len {T : Int} (pre : List (ItT T)) (a : UInt8) (h1 : pre.length ≤ 4096) (h2 : T ≤ 2147483647) : (expand a (vals pre)).length ≤ 8796093018112 := by
 have h := expand_le T pre a
 have h3 : pre.length * T.toNat ≤ 4096 * 2147483647 := Nat.mul_le_mul h1 (by omega)
 omega
set_option maxHeartbeats 4000000 in
theorem dec_err (A : Option Addr) (l : List UInt8) (cap : Nat) (m M er : Int) (w : World) (hM : (m < 0 ∧ M = 0) ∨ (0 ≤ m ∧ M = m)) (hM1 : M ≤ 9223372036854775807) (hr : RB w w.heap.size A l) (hc : l.length ≤ cap) (hm : cap ≤ maxLen)
 (h : cntV (cnt M 0 (items true l)) = .tuple #[.int .i64 0, .int .i64 er]) (her : er = 1 ∨ er = 4) :
 Calls Tryz.prog 176 #[.slice A l.length cap, .int .i64 m] w fun e w' => e = .returned (.tuple #[.slice none 0 0, .int .i64 er]) ∧ Below w.heap.size w w' := by
 have HC : Hid (∀ n, CallsIn Fence.wide n Tryz.prog 191 #[.slice A l.length cap, .int .i64 M] w fun e w' => e = .returned (.tuple #[.int .i64 0, .int .i64 er]) ∧ Below w.heap.size w w') := fun n => by
  have := count_any A l cap M w (by omega) hM1 hr hc hm
  rw [h] at this
  exact callsIn_wide.2 this
 clear h hr hM1
 refine (callsIn_wide (n := 6)).1 ?_
 rcases her with rfl | rfl <;> rcases hM with ⟨hM, rfl⟩ | ⟨hM, rfl⟩
 all_goals
  refine callsIn_of_wp_marks Tryz.func176 rfl trivial ?_ rfl
  simp only [Tryz.ntmps176, List.size_toArray, List.length_cons, List.length_nil, Nat.reduceAdd, Nat.reduceSub, Array.replicate_succ, Array.replicate_zero, List.push_toArray, List.append_toArray, List.nil_append, List.cons_append]
  gi_wp2_with (refine ⟨trivial, ?_⟩; gi_at_call 191; (with_reducible refine (HC.out _).mono ?_); rintro e w' ⟨rfl, hb⟩)
  exact ⟨_, by simp [results, Tryz.f176, go_sem], rfl, hb⟩
set_option maxHeartbeats 4000000 in
theorem dec_ok (A : Option Addr) (l : List UInt8) (cap : Nat) (m M t : Int) (w : World) (hM : (m < 0 ∧ M = 0) ∨ (0 ≤ m ∧ M = m)) (hM1 : M ≤ 9223372036854775807) (hr : RB w w.heap.size A l) (hc : l.length ≤ cap) (hm : cap ≤ maxLen)
 (h : cnt M 0 (items true l) = .ok t) (ht : t ≤ 2147483647) (hl : l.length ≤ 4096) :
 Calls Tryz.prog 176 #[.slice A l.length cap, .int .i64 m] w fun e w' => ∃ v, e = .returned (.tuple #[v, .int .i64 0]) ∧ OB w' w.heap.size v (expand 0 (items true l)) ∧ Below w.heap.size w w' := by
 have HC : Hid (∀ n, CallsIn Fence.wide n Tryz.prog 191 #[.slice A l.length cap, .int .i64 M] w fun e w' => e = .returned (.tuple #[.int .i64 t, .int .i64 0]) ∧ Below w.heap.size w w') := fun n => by
  have := count_any A l cap M w (by omega) hM1 hr hc hm
  rw [h] at this
  exact callsIn_wide.2 this
 have hpos : ∀ x ∈ items true l, 0 ≤ x.1 := fun x hx => (items_in l true x hx).1
 have ht0 : 0 ≤ t := (cnt_le M _ 0 t (by omega) hpos h).1
 have hT : ∀ x ∈ items true l, x.1 ≤ t := fun x hx => by have := (cnt_each M _ 0 t hpos h x hx).1; omega
 have HT := qh hT; have HR := qh hr; have HL := qh hl; have HM := qh hm; have HM1 := qh hM1
 clear h hr hpos hT hl hm hM1
 obtain ⟨tn, htn⟩ : ∃ tn : Nat, t = (tn : Int) := ⟨t.toNat, by omega⟩
 obtain ⟨i0, hi0, hz0, hz1, hz2⟩ := info_parts byte_info
 refine (callsIn_wide (n := 6)).1 ?_
 have HTN := qh htn; clear htn
 have hdec : decide ((2147483647 : Int) < t) = false := by simp; omega
 rcases hM with ⟨hM, rfl⟩ | ⟨hM, hMm⟩
 · refine callsIn_of_wp_marks Tryz.func176 rfl trivial ?_ rfl
   simp only [Tryz.ntmps176, List.size_toArray, List.length_cons, List.length_nil, Nat.reduceAdd, Nat.reduceSub, Array.replicate_succ, Array.replicate_zero, List.push_toArray, List.append_toArray, List.nil_append, List.cons_append]
   gi_wp2_with first
    | (refine ⟨trivial, ?_⟩; gi_at_call 191; (with_reducible refine (HC.out _).mono ?_); rintro e w1 ⟨rfl, hb1⟩)
    | (refine ⟨trivial, ?_⟩; gi_at_call 192; (with_reducible refine (callsIn_wide.2 (read_any _ _ _ _)).mono ?_); rintro e w' ⟨rfl, rfl⟩)
    | (gi_at_make; refine wpListIn_make_own _ rfl _ _ 33 rfl w.heap.size 5 i0 (.int .u8 0) 1 Tryz.underlying33 hi0 hz0 hz1 .i64 .i64 t tn rfl rfl HTN.out (by rw [hz2]; have := HTN.out; omega) (by unfold maxLen; have := HTN.out; omega) hb1.size ?_; intro w2 o2 g2)
   have o2' : OB w2 w.heap.size (.slice (some ⟨w1.heap.size, 0, none⟩) 0 tn) [] := o2
   have hb2 : Below w.heap.size w w2 := hb1.grown g2 hb1.size (by simp)
   have hs2 := hb2.size
   have hlow : w1.heap.size < w2.heap.size := o2'.low _ rfl
   clear o2 g2
   have b8 := ((Boxed.new w2 33 (.slice (some ⟨w1.heap.size, 0, none⟩) 0 tn)).alloc (.cells #[.int .u8 0] 5)).alloc (.cells #[.slice A l.length cap] 33)
   have b9 := (Boxed.new (w2.alloc (.cells #[.slice (some ⟨w1.heap.size, 0, none⟩) 0 tn] 33)) 5 (.int .u8 0)).alloc (.cells #[.slice A l.length cap] 33)
   have b10 := Boxed.new ((w2.alloc (.cells #[.slice (some ⟨w1.heap.size, 0, none⟩) 0 tn] 33)).alloc (.cells #[.int .u8 0] 5)) 33 (.slice A l.length cap)
   have o3 : OB (((w2.alloc (.cells #[.slice (some ⟨w1.heap.size, 0, none⟩) 0 tn] 33)).alloc (.cells #[.int .u8 0] 5)).alloc (.cells #[.slice A l.length cap] 33)) w.heap.size (.slice (some ⟨w1.heap.size, 0, none⟩) 0 tn) [] := ((o2'.alloc _).alloc _).alloc _
   simp only [World.size_alloc] at b9 b10
   have hB0 : Below w.heap.size w (((w2.alloc (.cells #[.slice (some ⟨w1.heap.size, 0, none⟩) 0 tn] 33)).alloc (.cells #[.int .u8 0] 5)).alloc (.cells #[.slice A l.length cap] 33)) := ((hb2.alloc hs2 _).alloc (by simp; omega) _).alloc (by simp; omega) _
   have hsz : (((w2.alloc (.cells #[.slice (some ⟨w1.heap.size, 0, none⟩) 0 tn] 33)).alloc (.cells #[.int .u8 0] 5)).alloc (.cells #[.slice A l.length cap] 33)).heap.size = w2.heap.size + 3 := by simp
   obtain ⟨q, hq⟩ : ∃ q, w2.heap.size = q := ⟨_, rfl⟩
   obtain ⟨W0, hW0⟩ : ∃ W0, (((w2.alloc (.cells #[.slice (some ⟨w1.heap.size, 0, none⟩) 0 tn] 33)).alloc (.cells #[.int .u8 0] 5)).alloc (.cells #[.slice A l.length cap] 33)) = W0 := ⟨_, rfl⟩
   rw [hW0] at b8 b9 b10 o3 hB0 hsz ⊢
   rw [hq] at b8 b9 b10 hsz hs2 hlow ⊢
   clear hW0 o2' hb2 hq
   have hfar : Far (.slice (some ⟨w1.heap.size, 0, none⟩) 0 tn) q := fun k e => by
    have e : w1.heap.size = k := Option.some.inj e
    have hk : k < q := by rw [← e]; exact hlow
    exact ⟨by omega, by omega, by omega⟩
   refine wpIn_rangeFunc_ownH rfl (by omega) (gf := 199) (lb := #[.pointer (some ⟨q + 1 + 1, 0, none⟩)]) rfl trivial (enters_of Tryz.func199 (by kernel_rfl) rfl)
    (read_stops 5 (by omega) t (q + 1 + 1) w.heap.size A l cap HT.out hc HM.out W0 (by omega) (by omega) b10 (HR.out.below hB0)) (fun h k => KR.trans h k) (krB (by omega) (by omega)) (bR _ _) (fun _ => rfl)
    (DI w q) (fun _ _ _ => False) (di_own w q _ (by omega)) (fun _ _ _ _ _ hs _ _ => hs)
    ⟨⟨_, b8, o3, hfar⟩, b9, by omega, hB0⟩
    (fun x a' W => ∃ Bx, q + 1 + 1 < Bx ∧ Pair W Bx 262 (.int .i64 x.1.1) (.int .u8 (x.1.2.1.toNat : Int)) ∧ a' = { tmps := #[.slice A l.length cap, .int .i64 m, undef, undef, .slice none 0 0, .int .i64 0, .int .i64 t, .int .i64 0, .pointer (some ⟨q, 0, none⟩), .pointer (some ⟨q + 1, 0, none⟩), .pointer (some ⟨Bx, 0, none⟩), .tuple #[.int .i64 t, .int .i64 0], .slice A l.length cap, .int .i64 m, .int .i64 0, .tuple #[.int .i64 t, .int .i64 0], .int .i64 t, .int .i64 0, .int .i64 0, .bool false, undef, .int .i64 t, .bool false, .int .i64 t, .slice (some ⟨w1.heap.size, 0, none⟩) 0 tn, .slice A l.length cap, .func (.func 199) #[] #[.pointer (some ⟨q + 1 + 1, 0, none⟩)], .agg #[.int .i64 x.1.1, .int .u8 (x.1.2.1.toNat : Int)], .bool x.1.2.2, undef, undef, undef, undef, undef, undef, undef, undef, undef, undef, undef, undef, undef, undef], defers := [] })
    (fun x a' _ X Y row hs hg hr => by obtain ⟨Bx, h1, h2, h3⟩ := hs; exact ⟨Bx, h1, pair_own Bx 262 (fun _ : Unit => Value.int .i64 x.1.1) (fun _ => Value.int .u8 (x.1.2.1.toNat : Int)) () X Y row h2 hg (fun r e => (hr r e).2), h3⟩)
    ?assign ?body ?done ?stop
   case assign =>
    rintro lo pre ⟨⟨n, c, ok⟩, hx0, hx1⟩ W K ⟨⟨v, hv, ho, hf⟩, h9, hz, hB⟩ hK
    have hsW := hB.size
    dsimp only [encI, itV]
    gi_wp2
    exact hK _ _ ((KeepsOthers.alloc _ _).from _) ⟨(bR _ W).alloc hsW _, Below.heap_alloc W _ _ (by omega)⟩ ⟨⟨v, hv.alloc _, ho.alloc _, hf⟩, h9.alloc _, by simp; omega, hB.alloc hsW _⟩ ⟨W.heap.size, by omega, World.alloc_heap_new W _, rfl⟩
   case body =>
    rintro lo pre ⟨⟨n, c, ok⟩, hx0, hx1⟩ a' W hl ⟨r, hr⟩ ⟨⟨v, hv, ho, hf⟩, h9, hz, hB⟩ ⟨Bx, hBx, bX, rfl⟩ hlt
    have hsW := hB.size
    have hx0 : 0 ≤ n := hx0
    have hx1 : n ≤ t := hx1
    obtain ⟨nn, hnn⟩ : ∃ nn : Nat, n = (nn : Int) := ⟨n.toNat, by omega⟩
    have hnn' : n.toNat = nn := by omega
    -- the list's length, and the value that is written
    obtain ⟨L, hL⟩ : ∃ L, Hid (expand 0 (vals pre) = L) := ⟨_, rfl⟩
    have hLl : L.length ≤ 8796093018112 := by
     rw [← hL.out]
     have h1 := items_len l true
     have h2 := HL.out
     exact pre_len pre 0 (by omega) ht
    obtain ⟨x, hx⟩ : ∃ x, Hid (lastV 0 (vals pre) ^^^ c = x) := ⟨_, rfl⟩
    have hxor := b8_xor (lastV 0 (vals pre)) c
    rw [hx.out] at hxor
    rw [hL.out] at ho
    obtain ⟨y, hy⟩ : ∃ y : Int, ((lastV 0 (vals pre)).toNat : Int) = y := ⟨_, rfl⟩
    obtain ⟨z, hz'⟩ : ∃ z : Int, Hid ((x.toNat : Int) = z) := ⟨_, rfl⟩
    rw [hy, hz'.out] at hxor
    rw [hy] at h9
    clear hy
    have hE : Hid (expand 0 (vals (pre ++ [⟨(n, c, ok), hx0, hx1⟩])) = L ++ List.replicate nn x) := by
     show _ = _
     rw [vals_snoc, expand_app, expand_one, hL.out, ← hx.out]
     show L ++ List.replicate n.toNat _ = _
     rw [hnn']
    have hV : Hid (lastV 0 (vals (pre ++ [⟨(n, c, ok), hx0, hx1⟩])) = x) := by
     show _ = _
     rw [vals_snoc, lastV_app]
     exact hx.out
    obtain ⟨ci, hci⟩ : ∃ ci : Int, Hid ((c.toNat : Int) = ci) := ⟨_, rfl⟩
    have hci' := hci.out
    rw [hci'] at hxor bX
    dsimp only
    rw [hci']
    clear hci'
    have hrow := bX.not_row (by decide) ho
    have c9 := h9.cell
    have f9 := h9.frozen
    have cX := bX.cell1
    have bX1 := bX.other (show Bx ≠ q + 1 by omega) (.int .u8 z)
    have cX0 := bX1.cell0
    have g8 := hv.other (show q ≠ q + 1 by omega) (.int .u8 z)
    have g9 := h9.set (.int .u8 z)
    have go := (ho.kept (grownBy_setCell' W (q + 1) (.int .u8 z)) (by
     cases hvb : v.ownBlock with
     | none => exact .inl rfl
     | some k => exact .inr (by have := (hf k hvb).2.1; intro e; exact this (Option.some.inj e))) : OB (W.setCell ⟨q + 1, 0, none⟩ (.int .u8 z)) w.heap.size v L)
    have gf : ∀ k, v.ownBlock = some k → (k ≠ q ∧ k ≠ q + 1 ∧ k ≠ q + 1 + 1) ∧ k ≠ Bx := fun k e => ⟨hf k e, fun h => hrow (by rw [e, h])⟩
    have gk : KeepsFrom W0.heap.size W (W.setCell ⟨q + 1, 0, none⟩ (.int .u8 z)) := (KeepsOthers.setCell _ _ _).from _
    have gb : Below w.heap.size W (W.setCell ⟨q + 1, 0, none⟩ (.int .u8 z)) := (bR w.heap.size W).setCell (p := ⟨q + 1, 0, none⟩) (by simp; omega) _
    have gh : (W.setCell ⟨q + 1, 0, none⟩ (.int .u8 z)).heap[q + 1 + 1]? = W.heap[q + 1 + 1]? := Below.heap_setCell _ _ _ _ (by simp)
    have gz : W.heap.size ≤ (W.setCell ⟨q + 1, 0, none⟩ (.int .u8 z)).heap.size := by rw [World.size_setCell]; exact nl _
    have G8 := qh g8; have G9 := qh g9; have GO := qh go; have GF := qh gf; have GK := qh gk; have GB := qh gb; have GH := qh gh; have GX := qh bX1; have GZ := qh gz
    have HB := qh hB; have HLl := qh hLl; have HN' := qh hnn'
    have hbl := bX.lt
    have HSZ := qh hsz; clear hsz
    clear g8 g9 go gf gk gb gh gz bX1 hv ho hf h9 bX hrow hB hLl hr hnn'
    have HNN := qh hnn; clear hnn
    gi_wp2
    gi_loopw [35] (fun i wr => ∃ (k : Nat) (y : Int) (v : Value), i = .int .i64 y ∧ Hid (y = (k : Int)) ∧ 0 ≤ y ∧ y ≤ n ∧ Hid (Boxed wr q 33 v) ∧ Hid (OB wr w.heap.size v (L ++ List.replicate k x)) ∧ Hid (∀ k, v.ownBlock = some k → (k ≠ q ∧ k ≠ q + 1 ∧ k ≠ q + 1 + 1) ∧ k ≠ Bx) ∧ Hid (Boxed wr (q + 1) 5 (.int .u8 z)) ∧ Hid (KeepsFrom W0.heap.size W wr) ∧ Hid (Below w.heap.size W wr) ∧ Hid (wr.heap[q + 1 + 1]? = W.heap[q + 1 + 1]?) ∧ Hid (W.heap.size ≤ wr.heap.size))
     (fun i _ => nn - (intOf i).toNat)
    case atStart => exact ⟨0, 0, v, rfl, rfl, by omega, by omega, G8, by show OB _ _ _ _; rw [List.replicate_zero, List.append_nil]; exact GO.out, GF, G9, GK, GB, GH, GZ⟩
    case round =>
     obtain ⟨k, y, v, rfl, hyk, hy0, hyn, i8, io, jf, i9, ik, ib, ih, iz⟩ := hrel
     clear G8 GO GF G9 GK GB GH GZ GX
     by_cases hlt3 : y < n
     · have HLT2 : Hid (k < nn) := by have := hyk.out; have := HNN.out; show _ < _; omega
       have cv := i8.out.cell
       have cx := i9.out.cell
       have hyk2 : Hid (y + 1 = ((k + 1 : Nat) : Int)) := by have := hyk.out; show _ = _; omega
       have hone := one_reads wr z x hz'.out
       have HONE := qh hone; clear hone
       have hlen : (L ++ List.replicate k x).length + [x].length ≤ 140737488355328 := app_len L k nn x HLl.out HLT2.out (by have := HNN.out; omega)
       have HLEN := qh hlen; clear hlen
       have hba : w.heap.size ≤ (wr.alloc (bOne z)).heap.size := by rw [World.size_alloc]; have := iz.out; omega
       have HBA := qh hba; clear hba
       gi_wp2_with (gi_at_builtin; refine wpListIn_append_bytes rfl _ _ rfl w.heap.size v (L ++ List.replicate k x) [x] rfl (io.out.alloc _) (wr.heap.size + 1) (some ⟨wr.heap.size, 0, none⟩) 1 rfl HONE.out HLEN.out HBA.out ?_; intro v2 w3 o4 g4 e4; obtain ⟨gg, cap2, rfl, _⟩ := OB.some_ o4 (app_pos L k x); obtain ⟨n2, hn2⟩ : ∃ n2, Hid ((L ++ List.replicate k x ++ [x]).length = n2) := ⟨_, rfl⟩; rw [hn2.out] at o4 e4 ⊢; obtain ⟨hv1, hv2, hr2, hk2, hb2⟩ := i8.out.appended (by decide) io.out (Nat.le_trans hsW iz.out) hs2 o4 g4; have hc1 := hv1.cell; have hf1 := hv1.frozen)
       have hqw : q + 1 + 1 < wr.heap.size := by have := iz.out; omega
       have ne1 : some (q + 1) ≠ v.ownBlock := fun e => (jf.out _ e.symm).1.2.1 rfl
       have ne2 : some (q + 1 + 1) ≠ v.ownBlock := fun e => (jf.out _ e.symm).1.2.2 rfl
       have p9 := (app_other (x := .slice (some ⟨gg, 0, none⟩) n2 cap2) (by omega) (show q + 1 ≠ q by omega) ne1 g4).trans i9.out
       have p10 := (app_other (x := .slice (some ⟨gg, 0, none⟩) n2 cap2) hqw (show q + 1 + 1 ≠ q by omega) ne2 g4).trans ih.out
       have hsz4 : W.heap.size ≤ (w3.setCell ⟨q, 0, none⟩ (.slice (some ⟨gg, 0, none⟩) n2 cap2)).heap.size := by
        have h1 := g4.size
        rw [World.size_alloc] at h1
        rw [World.size_setCell]
        have := iz.out
        omega
       have hfar2 : ∀ j, (Value.slice (some ⟨gg, 0, none⟩) n2 cap2).ownBlock = some j → (j ≠ q ∧ j ≠ q + 1 ∧ j ≠ q + 1 + 1) ∧ j ≠ Bx := fun j ej => by
        rcases e4 with e | e
        · exact jf.out j (e.symm.trans ej)
        · have e5 := Option.some.inj (e.symm.trans ej)
          rw [World.size_alloc] at e5
          have := iz.out
          exact ⟨⟨by omega, by omega, by omega⟩, by omega⟩
       have hfin : OB (w3.setCell ⟨q, 0, none⟩ (.slice (some ⟨gg, 0, none⟩) n2 cap2)) w.heap.size (.slice (some ⟨gg, 0, none⟩) n2 cap2) (L ++ List.replicate (k + 1) x) := by
        rw [← rep_snoc, ← List.append_assoc]; exact hr2
       go_roundw
       case rel => exact ⟨k + 1, y + 1, _, rfl, hyk2, by omega, by omega, hv2, hfin, hfar2, p9, ik.out.trans (hk2.from _), ib.out.trans hb2, p10, hsz4⟩
       case measure => have := hyk.out; have := HNN.out; simp only [intOf]; omega
     · have hke : k = nn := by have := hyk.out; have := HNN.out; omega
       subst hke
       gi_wp2
       exact ⟨ik.out, ⟨ib.out, ih.out⟩, ⟨v, i8.out, by rw [hE.out]; exact io.out, fun k e => (jf.out k e).1⟩, by rw [hV.out, hz'.out]; exact i9.out, Nat.le_trans hz iz.out, HB.out.trans ib.out⟩
   case done =>
    rintro D ys W hD hys ⟨⟨v, hv, ho, hf⟩, h9, hz, hB⟩ hK
    rw [hys] at ho
    have hc8 := hv.cell
    gi_wp2
    refine ⟨by simp, .inl ⟨_, _, rfl, run_takeDeferred hK, ?_⟩⟩
    refine ⟨.tuple #[v, .int .i64 0], ?_, v, rfl, ownsRow_putObj ho _ hK rfl, hB.trans (belowK_b (w := w) (nl _) _ D _ _ (by omega) hK rfl rfl)⟩
    simp [results, Tryz.f176, go_sem]
   case stop =>
    rintro D c pre W _ _ h _
    exact h.elim
 · obtain rfl := hMm.symm
   refine callsIn_of_wp_marks Tryz.func176 rfl trivial ?_ rfl
   simp only [Tryz.ntmps176, List.size_toArray, List.length_cons, List.length_nil, Nat.reduceAdd, Nat.reduceSub, Array.replicate_succ, Array.replicate_zero, List.push_toArray, List.append_toArray, List.nil_append, List.cons_append]
   gi_wp2_with first
    | (refine ⟨trivial, ?_⟩; gi_at_call 191; (with_reducible refine (HC.out _).mono ?_); rintro e w1 ⟨rfl, hb1⟩)
    | (refine ⟨trivial, ?_⟩; gi_at_call 192; (with_reducible refine (callsIn_wide.2 (read_any _ _ _ _)).mono ?_); rintro e w' ⟨rfl, rfl⟩)
    | (gi_at_make; refine wpListIn_make_own _ rfl _ _ 33 rfl w.heap.size 5 i0 (.int .u8 0) 1 Tryz.underlying33 hi0 hz0 hz1 .i64 .i64 t tn rfl rfl HTN.out (by rw [hz2]; have := HTN.out; omega) (by unfold maxLen; have := HTN.out; omega) hb1.size ?_; intro w2 o2 g2)
   have o2' : OB w2 w.heap.size (.slice (some ⟨w1.heap.size, 0, none⟩) 0 tn) [] := o2
   have hb2 : Below w.heap.size w w2 := hb1.grown g2 hb1.size (by simp)
   have hs2 := hb2.size
   have hlow : w1.heap.size < w2.heap.size := o2'.low _ rfl
   clear o2 g2
   have b8 := ((Boxed.new w2 33 (.slice (some ⟨w1.heap.size, 0, none⟩) 0 tn)).alloc (.cells #[.int .u8 0] 5)).alloc (.cells #[.slice A l.length cap] 33)
   have b9 := (Boxed.new (w2.alloc (.cells #[.slice (some ⟨w1.heap.size, 0, none⟩) 0 tn] 33)) 5 (.int .u8 0)).alloc (.cells #[.slice A l.length cap] 33)
   have b10 := Boxed.new ((w2.alloc (.cells #[.slice (some ⟨w1.heap.size, 0, none⟩) 0 tn] 33)).alloc (.cells #[.int .u8 0] 5)) 33 (.slice A l.length cap)
   have o3 : OB (((w2.alloc (.cells #[.slice (some ⟨w1.heap.size, 0, none⟩) 0 tn] 33)).alloc (.cells #[.int .u8 0] 5)).alloc (.cells #[.slice A l.length cap] 33)) w.heap.size (.slice (some ⟨w1.heap.size, 0, none⟩) 0 tn) [] := ((o2'.alloc _).alloc _).alloc _
   simp only [World.size_alloc] at b9 b10
   have hB0 : Below w.heap.size w (((w2.alloc (.cells #[.slice (some ⟨w1.heap.size, 0, none⟩) 0 tn] 33)).alloc (.cells #[.int .u8 0] 5)).alloc (.cells #[.slice A l.length cap] 33)) := ((hb2.alloc hs2 _).alloc (by simp; omega) _).alloc (by simp; omega) _
   have hsz : (((w2.alloc (.cells #[.slice (some ⟨w1.heap.size, 0, none⟩) 0 tn] 33)).alloc (.cells #[.int .u8 0] 5)).alloc (.cells #[.slice A l.length cap] 33)).heap.size = w2.heap.size + 3 := by simp
   obtain ⟨q, hq⟩ : ∃ q, w2.heap.size = q := ⟨_, rfl⟩
   obtain ⟨W0, hW0⟩ : ∃ W0, (((w2.alloc (.cells #[.slice (some ⟨w1.heap.size, 0, none⟩) 0 tn] 33)).alloc (.cells #[.int .u8 0] 5)).alloc (.cells #[.slice A l.length cap] 33)) = W0 := ⟨_, rfl⟩
   rw [hW0] at b8 b9 b10 o3 hB0 hsz ⊢
   rw [hq] at b8 b9 b10 hsz hs2 hlow ⊢
   clear hW0 o2' hb2 hq
   have hfar : Far (.slice (some ⟨w1.heap.size, 0, none⟩) 0 tn) q := fun k e => by
    have e : w1.heap.size = k := Option.some.inj e
    have hk : k < q := by rw [← e]; exact hlow
    exact ⟨by omega, by omega, by omega⟩
   refine wpIn_rangeFunc_ownH rfl (by omega) (gf := 199) (lb := #[.pointer (some ⟨q + 1 + 1, 0, none⟩)]) rfl trivial (enters_of Tryz.func199 (by kernel_rfl) rfl)
    (read_stops 5 (by omega) t (q + 1 + 1) w.heap.size A l cap HT.out hc HM.out W0 (by omega) (by omega) b10 (HR.out.below hB0)) (fun h k => KR.trans h k) (krB (by omega) (by omega)) (bR _ _) (fun _ => rfl)
    (DI w q) (fun _ _ _ => False) (di_own w q _ (by omega)) (fun _ _ _ _ _ hs _ _ => hs)
    ⟨⟨_, b8, o3, hfar⟩, b9, by omega, hB0⟩
    (fun x a' W => ∃ Bx, q + 1 + 1 < Bx ∧ Pair W Bx 262 (.int .i64 x.1.1) (.int .u8 (x.1.2.1.toNat : Int)) ∧ a' = { tmps := #[.slice A l.length cap, .int .i64 m, undef, undef, .slice none 0 0, .int .i64 0, .int .i64 t, .int .i64 0, .pointer (some ⟨q, 0, none⟩), .pointer (some ⟨q + 1, 0, none⟩), .pointer (some ⟨Bx, 0, none⟩), .tuple #[.int .i64 t, .int .i64 0], .slice A l.length cap, .int .i64 m, .int .i64 m, .tuple #[.int .i64 t, .int .i64 0], .int .i64 t, .int .i64 0, .int .i64 0, .bool false, undef, .int .i64 t, .bool false, .int .i64 t, .slice (some ⟨w1.heap.size, 0, none⟩) 0 tn, .slice A l.length cap, .func (.func 199) #[] #[.pointer (some ⟨q + 1 + 1, 0, none⟩)], .agg #[.int .i64 x.1.1, .int .u8 (x.1.2.1.toNat : Int)], .bool x.1.2.2, undef, undef, undef, undef, undef, undef, undef, undef, undef, undef, undef, undef, undef, undef], defers := [] })
    (fun x a' _ X Y row hs hg hr => by obtain ⟨Bx, h1, h2, h3⟩ := hs; exact ⟨Bx, h1, pair_own Bx 262 (fun _ : Unit => Value.int .i64 x.1.1) (fun _ => Value.int .u8 (x.1.2.1.toNat : Int)) () X Y row h2 hg (fun r e => (hr r e).2), h3⟩)
    ?assign ?body ?done ?stop
   case assign =>
    rintro lo pre ⟨⟨n, c, ok⟩, hx0, hx1⟩ W K ⟨⟨v, hv, ho, hf⟩, h9, hz, hB⟩ hK
    have hsW := hB.size
    dsimp only [encI, itV]
    gi_wp2
    exact hK _ _ ((KeepsOthers.alloc _ _).from _) ⟨(bR _ W).alloc hsW _, Below.heap_alloc W _ _ (by omega)⟩ ⟨⟨v, hv.alloc _, ho.alloc _, hf⟩, h9.alloc _, by simp; omega, hB.alloc hsW _⟩ ⟨W.heap.size, by omega, World.alloc_heap_new W _, rfl⟩
   case body =>
    rintro lo pre ⟨⟨n, c, ok⟩, hx0, hx1⟩ a' W hl ⟨r, hr⟩ ⟨⟨v, hv, ho, hf⟩, h9, hz, hB⟩ ⟨Bx, hBx, bX, rfl⟩ hlt
    have hsW := hB.size
    have hx0 : 0 ≤ n := hx0
    have hx1 : n ≤ t := hx1
    obtain ⟨nn, hnn⟩ : ∃ nn : Nat, n = (nn : Int) := ⟨n.toNat, by omega⟩
    have hnn' : n.toNat = nn := by omega
    -- the list's length, and the value that is written
    obtain ⟨L, hL⟩ : ∃ L, Hid (expand 0 (vals pre) = L) := ⟨_, rfl⟩
    have hLl : L.length ≤ 8796093018112 := by
     rw [← hL.out]
     have h1 := items_len l true
     have h2 := HL.out
     exact pre_len pre 0 (by omega) ht
    obtain ⟨x, hx⟩ : ∃ x, Hid (lastV 0 (vals pre) ^^^ c = x) := ⟨_, rfl⟩
    have hxor := b8_xor (lastV 0 (vals pre)) c
    rw [hx.out] at hxor
    rw [hL.out] at ho
    obtain ⟨y, hy⟩ : ∃ y : Int, ((lastV 0 (vals pre)).toNat : Int) = y := ⟨_, rfl⟩
    obtain ⟨z, hz'⟩ : ∃ z : Int, Hid ((x.toNat : Int) = z) := ⟨_, rfl⟩
    rw [hy, hz'.out] at hxor
    rw [hy] at h9
    clear hy
    have hE : Hid (expand 0 (vals (pre ++ [⟨(n, c, ok), hx0, hx1⟩])) = L ++ List.replicate nn x) := by
     show _ = _
     rw [vals_snoc, expand_app, expand_one, hL.out, ← hx.out]
     show L ++ List.replicate n.toNat _ = _
     rw [hnn']
    have hV : Hid (lastV 0 (vals (pre ++ [⟨(n, c, ok), hx0, hx1⟩])) = x) := by
     show _ = _
     rw [vals_snoc, lastV_app]
     exact hx.out
    obtain ⟨ci, hci⟩ : ∃ ci : Int, Hid ((c.toNat : Int) = ci) := ⟨_, rfl⟩
    have hci' := hci.out
    rw [hci'] at hxor bX
    dsimp only
    rw [hci']
    clear hci'
    have hrow := bX.not_row (by decide) ho
    have c9 := h9.cell
    have f9 := h9.frozen
    have cX := bX.cell1
    have bX1 := bX.other (show Bx ≠ q + 1 by omega) (.int .u8 z)
    have cX0 := bX1.cell0
    have g8 := hv.other (show q ≠ q + 1 by omega) (.int .u8 z)
    have g9 := h9.set (.int .u8 z)
    have go := (ho.kept (grownBy_setCell' W (q + 1) (.int .u8 z)) (by
     cases hvb : v.ownBlock with
     | none => exact .inl rfl
     | some k => exact .inr (by have := (hf k hvb).2.1; intro e; exact this (Option.some.inj e))) : OB (W.setCell ⟨q + 1, 0, none⟩ (.int .u8 z)) w.heap.size v L)
    have gf : ∀ k, v.ownBlock = some k → (k ≠ q ∧ k ≠ q + 1 ∧ k ≠ q + 1 + 1) ∧ k ≠ Bx := fun k e => ⟨hf k e, fun h => hrow (by rw [e, h])⟩
    have gk : KeepsFrom W0.heap.size W (W.setCell ⟨q + 1, 0, none⟩ (.int .u8 z)) := (KeepsOthers.setCell _ _ _).from _
    have gb : Below w.heap.size W (W.setCell ⟨q + 1, 0, none⟩ (.int .u8 z)) := (bR w.heap.size W).setCell (p := ⟨q + 1, 0, none⟩) (by simp; omega) _
    have gh : (W.setCell ⟨q + 1, 0, none⟩ (.int .u8 z)).heap[q + 1 + 1]? = W.heap[q + 1 + 1]? := Below.heap_setCell _ _ _ _ (by simp)
    have gz : W.heap.size ≤ (W.setCell ⟨q + 1, 0, none⟩ (.int .u8 z)).heap.size := by rw [World.size_setCell]; exact nl _
    have G8 := qh g8; have G9 := qh g9; have GO := qh go; have GF := qh gf; have GK := qh gk; have GB := qh gb; have GH := qh gh; have GX := qh bX1; have GZ := qh gz
    have HB := qh hB; have HLl := qh hLl; have HN' := qh hnn'
    have hbl := bX.lt
    have HSZ := qh hsz; clear hsz
    clear g8 g9 go gf gk gb gh gz bX1 hv ho hf h9 bX hrow hB hLl hr hnn'
    have HNN := qh hnn; clear hnn
    gi_wp2
    gi_loopw [35] (fun i wr => ∃ (k : Nat) (y : Int) (v : Value), i = .int .i64 y ∧ Hid (y = (k : Int)) ∧ 0 ≤ y ∧ y ≤ n ∧ Hid (Boxed wr q 33 v) ∧ Hid (OB wr w.heap.size v (L ++ List.replicate k x)) ∧ Hid (∀ k, v.ownBlock = some k → (k ≠ q ∧ k ≠ q + 1 ∧ k ≠ q + 1 + 1) ∧ k ≠ Bx) ∧ Hid (Boxed wr (q + 1) 5 (.int .u8 z)) ∧ Hid (KeepsFrom W0.heap.size W wr) ∧ Hid (Below w.heap.size W wr) ∧ Hid (wr.heap[q + 1 + 1]? = W.heap[q + 1 + 1]?) ∧ Hid (W.heap.size ≤ wr.heap.size))
     (fun i _ => nn - (intOf i).toNat)
    case atStart => exact ⟨0, 0, v, rfl, rfl, by omega, by omega, G8, by show OB _ _ _ _; rw [List.replicate_zero, List.append_nil]; exact GO.out, GF, G9, GK, GB, GH, GZ⟩
    case round =>
     obtain ⟨k, y, v, rfl, hyk, hy0, hyn, i8, io, jf, i9, ik, ib, ih, iz⟩ := hrel
     clear G8 GO GF G9 GK GB GH GZ GX
     by_cases hlt3 : y < n
     · have HLT2 : Hid (k < nn) := by have := hyk.out; have := HNN.out; show _ < _; omega
       have cv := i8.out.cell
       have cx := i9.out.cell
       have hyk2 : Hid (y + 1 = ((k + 1 : Nat) : Int)) := by have := hyk.out; show _ = _; omega
       have hone := one_reads wr z x hz'.out
       have HONE := qh hone; clear hone
       have hlen : (L ++ List.replicate k x).length + [x].length ≤ 140737488355328 := app_len L k nn x HLl.out HLT2.out (by have := HNN.out; omega)
       have HLEN := qh hlen; clear hlen
       have hba : w.heap.size ≤ (wr.alloc (bOne z)).heap.size := by rw [World.size_alloc]; have := iz.out; omega
       have HBA := qh hba; clear hba
       gi_wp2_with (gi_at_builtin; refine wpListIn_append_bytes rfl _ _ rfl w.heap.size v (L ++ List.replicate k x) [x] rfl (io.out.alloc _) (wr.heap.size + 1) (some ⟨wr.heap.size, 0, none⟩) 1 rfl HONE.out HLEN.out HBA.out ?_; intro v2 w3 o4 g4 e4; obtain ⟨gg, cap2, rfl, _⟩ := OB.some_ o4 (app_pos L k x); obtain ⟨n2, hn2⟩ : ∃ n2, Hid ((L ++ List.replicate k x ++ [x]).length = n2) := ⟨_, rfl⟩; rw [hn2.out] at o4 e4 ⊢; obtain ⟨hv1, hv2, hr2, hk2, hb2⟩ := i8.out.appended (by decide) io.out (Nat.le_trans hsW iz.out) hs2 o4 g4; have hc1 := hv1.cell; have hf1 := hv1.frozen)
       have hqw : q + 1 + 1 < wr.heap.size := by have := iz.out; omega
       have ne1 : some (q + 1) ≠ v.ownBlock := fun e => (jf.out _ e.symm).1.2.1 rfl
       have ne2 : some (q + 1 + 1) ≠ v.ownBlock := fun e => (jf.out _ e.symm).1.2.2 rfl
       have p9 := (app_other (x := .slice (some ⟨gg, 0, none⟩) n2 cap2) (by omega) (show q + 1 ≠ q by omega) ne1 g4).trans i9.out
       have p10 := (app_other (x := .slice (some ⟨gg, 0, none⟩) n2 cap2) hqw (show q + 1 + 1 ≠ q by omega) ne2 g4).trans ih.out
       have hsz4 : W.heap.size ≤ (w3.setCell ⟨q, 0, none⟩ (.slice (some ⟨gg, 0, none⟩) n2 cap2)).heap.size := by
        have h1 := g4.size
        rw [World.size_alloc] at h1
        rw [World.size_setCell]
        have := iz.out
        omega
       have hfar2 : ∀ j, (Value.slice (some ⟨gg, 0, none⟩) n2 cap2).ownBlock = some j → (j ≠ q ∧ j ≠ q + 1 ∧ j ≠ q + 1 + 1) ∧ j ≠ Bx := fun j ej => by
        rcases e4 with e | e
        · exact jf.out j (e.symm.trans ej)
        · have e5 := Option.some.inj (e.symm.trans ej)
          rw [World.size_alloc] at e5
          have := iz.out
          exact ⟨⟨by omega, by omega, by omega⟩, by omega⟩
       have hfin : OB (w3.setCell ⟨q, 0, none⟩ (.slice (some ⟨gg, 0, none⟩) n2 cap2)) w.heap.size (.slice (some ⟨gg, 0, none⟩) n2 cap2) (L ++ List.replicate (k + 1) x) := by
        rw [← rep_snoc, ← List.append_assoc]; exact hr2
       go_roundw
       case rel => exact ⟨k + 1, y + 1, _, rfl, hyk2, by omega, by omega, hv2, hfin, hfar2, p9, ik.out.trans (hk2.from _), ib.out.trans hb2, p10, hsz4⟩
       case measure => have := hyk.out; have := HNN.out; simp only [intOf]; omega
     · have hke : k = nn := by have := hyk.out; have := HNN.out; omega
       subst hke
       gi_wp2
       exact ⟨ik.out, ⟨ib.out, ih.out⟩, ⟨v, i8.out, by rw [hE.out]; exact io.out, fun k e => (jf.out k e).1⟩, by rw [hV.out, hz'.out]; exact i9.out, Nat.le_trans hz iz.out, HB.out.trans ib.out⟩
   case done =>
    rintro D ys W hD hys ⟨⟨v, hv, ho, hf⟩, h9, hz, hB⟩ hK
    rw [hys] at ho
    have hc8 := hv.cell
    gi_wp2
    refine ⟨by simp, .inl ⟨_, _, rfl, run_takeDeferred hK, ?_⟩⟩
    refine ⟨.tuple #[v, .int .i64 0], ?_, v, rfl, ownsRow_putObj ho _ hK rfl, hB.trans (belowK_b (w := w) (nl _) _ D _ _ (by omega) hK rfl rfl)⟩
    simp [results, Tryz.f176, go_sem]
   case stop =>
    rintro D c pre W _ _ h _
    exact h.elim
end Go.Proofs.YtpnobpligchpiaaGreatDoor
