/- texts of YpFb -/
import Derived.Deep.CutBlock
import Derived.Deep.CutRange
import Derived.Test.YtpnobpligchpiaaGreatDoorYpFa
import Derived.Test.YtpnobpligchpiaaGreatDoorYpK
namespace Go.Proofs.YtpnobpligchpiaaGreatDoor
set_option maxRecDepth 100000
set_option linter.unusedVariables false
def ins (S : Nat → Int) (v : UInt8) : List UInt8 → List UInt8
 | [] => [v]
 | u :: t => if S u.toNat ≤ S v.toNat then v :: u :: t else u :: ins S v t
def rkF (S : Nat → Int) : Nat → Nat → List UInt8
 | 0, _ => []
 | n + 1, a => ins S (UInt8.ofNat a) (rkF S n (a + 1))
def rk (S : Nat → Int) : List UInt8 := rkF S 256 0
theorem ins_mem {S : Nat → Int} {v x : UInt8} : ∀ {l : List UInt8}, x ∈ ins S v l ↔ x = v ∨ x ∈ l
 | [] => by simp [ins]
 | u :: t => by
   unfold ins
   split
   · simp
   · rw [List.mem_cons, ins_mem, List.mem_cons]
     constructor
     · rintro (h | h | h) <;> simp [h]
     · rintro (h | h | h) <;> simp [h]
theorem ins_len {S : Nat → Int} {v : UInt8} : ∀ {l : List UInt8}, (ins S v l).length = l.length + 1
 | [] => rfl
 | u :: t => by
   unfold ins
   split
   · simp
   · simp [ins_len]
theorem ins_pair {S : Nat → Int} {v : UInt8} : ∀ {l : List UInt8}, l.Pairwise (ah S) → (∀ u ∈ l, v.toNat < u.toNat) → (ins S v l).Pairwise (ah S)
 | [], _, _ => by simp [ins]
 | u :: t, h, hv => by
   have h2 := List.pairwise_cons.1 h
   have hu := hv u (by simp)
   unfold ins
   split
   · rename_i hs
     have h0 : ah S v u := by unfold ah; omega
     refine List.pairwise_cons.2 ⟨fun x hx => ?_, h⟩
     rcases List.mem_cons.1 hx with rfl | hx
     · exact h0
     · exact ah_trans h0 (h2.1 x hx)
   · rename_i hs
     refine List.pairwise_cons.2 ⟨fun x hx => ?_, ins_pair h2.2 (fun u hu => hv u (by simp [hu]))⟩
     rcases ins_mem.1 hx with rfl | hx
     · exact .inl (by omega)
     · exact h2.1 x hx
theorem rkF_len (S : Nat → Int) : ∀ n a, (rkF S n a).length = n
 | 0, _ => rfl
 | n + 1, a => by unfold rkF; rw [ins_len, rkF_len]
theorem rkF_mem (S : Nat → Int) : ∀ n a, a + n ≤ 256 → ∀ x : UInt8, x ∈ rkF S n a ↔ a ≤ x.toNat ∧ x.toNat < a + n
 | 0, a, _, x => by simp [rkF] <;> omega
 | n + 1, a, h, x => by
   unfold rkF
   rw [ins_mem, rkF_mem S n (a + 1) (by omega)]
   have e : (UInt8.ofNat a).toNat = a := by rw [UInt8.toNat_ofNat']; omega
   constructor
   · rintro (rfl | h2)
     · rw [e]; omega
     · omega
   · intro h2
     by_cases c : x.toNat = a
     · left; exact UInt8.toNat_inj.1 (by rw [e, c])
     · right; omega
theorem rkF_pair (S : Nat → Int) : ∀ n a, a + n ≤ 256 → (rkF S n a).Pairwise (ah S)
 | 0, a, _ => by simp [rkF]
 | n + 1, a, h => by
   unfold rkF
   refine ins_pair (rkF_pair S n (a + 1) (by omega)) (fun u hu => ?_)
   have := (rkF_mem S n (a + 1) (by omega) u).1 hu
   have e : (UInt8.ofNat a).toNat = a := by rw [UInt8.toNat_ofNat']; omega
   rw [e]; omega
theorem rk_len (S : Nat → Int) : (rk S).length = 256 := rkF_len S _ _
theorem rk_mem (S : Nat → Int) (x : UInt8) : x ∈ rk S := by
 unfold rk; rw [rkF_mem S 256 0 (by omega)]
 have := x.toNat_lt; omega
theorem rk_pair (S : Nat → Int) : (rk S).Pairwise (ah S) := rkF_pair S _ _ (by omega)
theorem pair_uniq {S : Nat → Int} : ∀ {l m : List UInt8}, l.Pairwise (ah S) → m.Pairwise (ah S) → (∀ x, x ∈ l ↔ x ∈ m) → l = m
 | [], [], _, _, _ => rfl
 | [], y :: m, _, _, h => by have := (h y).2 (by simp); simp at this
 | x :: l, [], _, _, h => by have := (h x).1 (by simp); simp at this
 | x :: l, y :: m, hl, hm, h => by
   have a1 := List.pairwise_cons.1 hl
   have a2 := List.pairwise_cons.1 hm
   have e : x = y := by
    rcases List.mem_cons.1 ((h x).1 (by simp)) with e | e
    · exact e
    · rcases List.mem_cons.1 ((h y).2 (by simp)) with e2 | e2
      · exact e2.symm
      · exact absurd (ah_asymm (a1.1 y e2) (a2.1 x e)) id
   subst e
   congr 1
   refine pair_uniq a1.2 a2.2 (fun z => ?_)
   have hz := h z
   constructor
   · intro hz1
     rcases List.mem_cons.1 (hz.1 (by simp [hz1])) with rfl | e
     · exact absurd (ah_irr (a1.1 z hz1)) id
     · exact e
   · intro hz1
     rcases List.mem_cons.1 (hz.2 (by simp [hz1])) with rfl | e
     · exact absurd (ah_irr (a2.1 z hz1)) id
     · exact e
theorem row_rk {S : Nat → Int} {F : Nat → UInt8} (h : Srt S F 0 256) (p : Pm F) : rL F = rk S := by
 refine pair_uniq ?_ (rk_pair S) (fun x => ⟨fun _ => rk_mem S x, fun _ => ?_⟩)
 · rw [List.pairwise_iff_getElem]
   intro i j hi hj hij
   rw [rL_get, rL_get]
   exact h i j (Nat.zero_le _) hij (by rw [rL_len] at hj; exact hj)
 · obtain ⟨j, _, q2, q3⟩ := p.sub x.toNat (Nat.zero_le _) x.toNat_lt
   have e : id8 x.toNat = x := UInt8.toNat_inj.1 (id8_nat _ x.toNat_lt)
   rw [e] at q3
   unfold rL
   exact List.mem_map.2 ⟨j, List.mem_range.2 q2, q3⟩
def hd (S : Nat → Int) : UInt8 := (rk S).headD 0
theorem rk_cons (S : Nat → Int) : ∃ t, rk S = hd S :: t := by
 have h := rk_len S
 unfold hd
 cases hr : rk S with
 | nil => rw [hr] at h; cases h
 | cons x t => exact ⟨t, rfl⟩
theorem hd_ahead (S : Nat → Int) (u : UInt8) (h : u ≠ hd S) : ah S (hd S) u := by
 obtain ⟨t, ht⟩ := rk_cons S
 have hp := rk_pair S
 have hm := rk_mem S u
 rw [ht] at hp hm
 rcases List.mem_cons.1 hm with e | e
 · exact absurd e h
 · exact (List.pairwise_cons.1 hp).1 u e
theorem hd_uniq {S : Nat → Int} {v : UInt8} (h : ∀ u, u ≠ v → ah S v u) : hd S = v := by
 by_cases e : hd S = v
 · exact e
 · exact absurd (ah_asymm (h _ e) (hd_ahead S v (fun x => e x.symm))) id
def Best (S : Nat → Int) (b n : Nat) : Prop := b < n ∧ (∀ j, j < b → S j < S b) ∧ ∀ j, j < n → S j ≤ S b
theorem best_hd {S : Nat → Int} {b : Nat} (h : Best S b 256) : hd S = UInt8.ofNat b := by
 obtain ⟨h0, h1, h2⟩ := h
 have e : (UInt8.ofNat b).toNat = b := by rw [UInt8.toNat_ofNat']; omega
 refine hd_uniq (fun u hu => ?_)
 have hu2 : u.toNat ≠ b := fun x => hu (UInt8.toNat_inj.1 (by rw [e, x]))
 have h3 := h2 u.toNat u.toNat_lt
 have h4 := h1 u.toNat
 unfold ah
 rw [e]
 omega
def endN (o : Nat) (p : List UInt8) : List UInt8 := p.drop (p.length - o)
def hit (o : Nat) (e p : List UInt8) (i v : Nat) : Prop := o ≤ i ∧ (p.drop (i - o)).take o = e ∧ (p.getD i 0).toNat = v
instance (o : Nat) (e p : List UInt8) (i v : Nat) : Decidable (hit o e p i v) := by unfold hit; infer_instance
def wts (o : Nat) (e p : List UInt8) : Nat → Nat → Int
 | 0, _ => 0
 | i + 1, v => wts o e p i v + (if hit o e p i v then 1 else 0)
theorem wts_nonneg (o : Nat) (e p : List UInt8) (v : Nat) : ∀ i, 0 ≤ wts o e p i v ∧ wts o e p i v ≤ i
 | 0 => by simp [wts]
 | i + 1 => by
   have := wts_nonneg o e p v i
   unfold wts
   split <;> omega
theorem wts_low (o : Nat) (e p : List UInt8) (v : Nat) : ∀ i, i ≤ o → wts o e p i v = 0
 | 0, _ => rfl
 | i + 1, h => by
   unfold wts
   rw [wts_low o e p v i (by omega), if_neg (fun h2 => by have := h2.1; omega)]; rfl
theorem wts_app (o : Nat) (e p : List UInt8) (x : UInt8) (v : Nat) : ∀ i, i ≤ p.length → wts o e (p ++ [x]) i v = wts o e p i v
 | 0, _ => rfl
 | i + 1, h => by
   unfold wts
   rw [wts_app o e p x v i (by omega)]
   congr 1
   have e1 : hit o e (p ++ [x]) i v ↔ hit o e p i v := by
    unfold hit
    by_cases ho : o ≤ i
    · have e2 : ((p ++ [x]).drop (i - o)).take o = (p.drop (i - o)).take o := by
       rw [List.drop_append_of_le_length (by omega), List.take_append_of_le_length (by rw [List.length_drop]; omega)]
      have e3 : (p ++ [x]).getD i 0 = p.getD i 0 := by
       simp only [List.getD, List.getElem?_append_left (show i < p.length by omega)]
      rw [e2, e3]
    · simp [ho]
   simp only [e1]
def wN (o : Nat) (p : List UInt8) (v : Nat) : Int := wts o (endN o p) p p.length v
theorem wts_push (o : Nat) (e p : List UInt8) (x : UInt8) (v : Nat) : wts o e (p ++ [x]) (p ++ [x]).length v = wts o e p p.length v + (if o ≤ p.length ∧ endN o p = e ∧ x.toNat = v then 1 else 0) := by
 rw [List.length_append, List.length_singleton]
 have h0 : wts o e (p ++ [x]) (p.length + 1) v = wts o e (p ++ [x]) p.length v + (if hit o e (p ++ [x]) p.length v then 1 else 0) := rfl
 rw [h0, wts_app o e p x v p.length (nl _)]
 have e1 : hit o e (p ++ [x]) p.length v ↔ (o ≤ p.length ∧ endN o p = e ∧ x.toNat = v) := by
  unfold hit endN
  by_cases ho : o ≤ p.length
  · have e2 : ((p ++ [x]).drop (p.length - o)).take o = p.drop (p.length - o) := by
     rw [List.drop_append_of_le_length (by omega), List.take_append_of_le_length (by rw [List.length_drop]; omega), List.take_of_length_le (by rw [List.length_drop]; omega)]
    have e3 : (p ++ [x]).getD p.length 0 = x := by simp [List.getD]
    rw [e2, e3]
  · simp [ho]
 by_cases hh : hit o e (p ++ [x]) p.length v
 · rw [if_pos hh, if_pos (e1.1 hh)]
 · rw [if_neg hh, if_neg (fun h => hh (e1.2 h))]
structure Kd where
 k : Nat
 o : Nat
 tb : List UInt8
def Kd.ok (b : Kd) : Prop := (b.k = 1 ∧ b.o = 0 ∧ b.tb = []) ∨ (b.k = 2 ∧ b.o ≤ 3 ∧ b.tb = []) ∨ (b.k = 3 ∧ b.o = 0 ∧ 1 ≤ b.tb.length ∧ b.tb.length ≤ 1000)
def lst (p : List UInt8) : UInt8 := p.getD (p.length - 1) 0
def drw (b : Kd) (p : List UInt8) : UInt8 := b.tb.getD (p.length % b.tb.length) 0
def sc (b : Kd) (p : List UInt8) (v : Nat) : Int :=
 2 * (if b.k = 2 then wN b.o p v else 0) + (if 0 < p.length ∧ (lst p).toNat = v then 1 else 0) + (if b.k = 3 ∧ (drw b p).toNat = v then 2 else 0)
def nxt (b : Kd) (p : List UInt8) : UInt8 := hd (sc b p)
def chN (b : Kd) : Nat → List UInt8 → List UInt8
 | 0, _ => []
 | n + 1, p => nxt b p :: chN b n (p ++ [nxt b p])
theorem chN_len (b : Kd) : ∀ n p, (chN b n p).length = n
 | 0, _ => rfl
 | n + 1, p => by unfold chN; rw [List.length_cons, chN_len]
theorem chN_snoc (b : Kd) : ∀ n p, chN b (n + 1) p = chN b n p ++ [nxt b (p ++ chN b n p)]
 | 0, p => by simp [chN]
 | n + 1, p => by
   rw [chN, chN_snoc b n (p ++ [nxt b p])]
   rw [chN]
   simp
theorem sc_1 {b : Kd} (hk : b.k = 1) (p : List UInt8) (v : Nat) : sc b p v = if 0 < p.length ∧ (lst p).toNat = v then 1 else 0 := by unfold sc; simp [hk]
theorem sc_2 {b : Kd} (hk : b.k = 2) (p : List UInt8) (v : Nat) : sc b p v = 2 * wN b.o p v + if 0 < p.length ∧ (lst p).toNat = v then 1 else 0 := by unfold sc; simp [hk]
theorem nxt_weight {b : Kd} {p : List UInt8} {v : UInt8} (hk : b.k = 2) (h : ∀ u : UInt8, u ≠ v → wN b.o p u.toNat < wN b.o p v.toNat) : nxt b p = v := by
 unfold nxt
 refine hd_uniq (fun u hu => .inl ?_)
 have := h u hu
 rw [sc_2 hk, sc_2 hk]
 split <;> split <;> omega
theorem nat_ne {u v : UInt8} (h : u ≠ v) : ¬ v.toNat = u.toNat := fun x => h (UInt8.toNat_inj.1 x.symm)
theorem nxt_last {b : Kd} {p : List UInt8} (hk : b.k = 1) (h : 0 < p.length) : nxt b p = lst p := by
 unfold nxt
 refine hd_uniq (fun u hu => .inl ?_)
 have := nat_ne hu
 rw [sc_1 hk, sc_1 hk, if_neg (fun x => this x.2), if_pos ⟨h, rfl⟩]
 omega
theorem nxt_max {b : Kd} {p : List UInt8} (hk : b.k = 2) (u : UInt8) : wN b.o p u.toNat ≤ wN b.o p (nxt b p).toNat := by
 by_cases e : u = nxt b p
 · rw [e]; exact Int.le_refl _
 have h := hd_ahead (sc b p) u e
 have h2 : sc b p u.toNat ≤ sc b p (nxt b p).toNat := ah_le h
 rw [sc_2 hk, sc_2 hk] at h2
 split at h2 <;> split at h2 <;> omega
open Go.RowKit
set_option linter.unusedSimpArgs false
def byA (z o : Int) (A : Option Addr) (n c : Nat) : Array Value := #[.int .i64 z, .int .i64 o, .slice A n c]
def byV (z o : Int) (A : Option Addr) (n c : Nat) : Value := .agg (byA z o A n c)
def mayB (z o : Int) (n : Nat) : Bool := decide ((z = 1 ∧ o = 0 ∧ n = 0) ∨ (z = 2 ∧ 0 ≤ o ∧ o ≤ 3 ∧ n = 0) ∨ (z = 3 ∧ o = 0 ∧ 1 ≤ n ∧ n ≤ 1000))
theorem mayB_t {z o : Int} {n : Nat} (h : (z = 1 ∧ o = 0 ∧ n = 0) ∨ (z = 2 ∧ 0 ≤ o ∧ o ≤ 3 ∧ n = 0) ∨ (z = 3 ∧ o = 0 ∧ 1 ≤ n ∧ n ≤ 1000)) : mayB z o n = true := decide_eq_true h
theorem mayB_f {z o : Int} {n : Nat} (h : ¬ ((z = 1 ∧ o = 0 ∧ n = 0) ∨ (z = 2 ∧ 0 ≤ o ∧ o ≤ 3 ∧ n = 0) ∨ (z = 3 ∧ o = 0 ∧ 1 ≤ n ∧ n ≤ 1000))) : mayB z o n = false := decide_eq_false h
set_option maxHeartbeats 2000000 in
theorem pmay_any (z o : Int) (A : Option Addr) (n c : Nat) (w : World) (hn0 : n ≤ maxLen) :
 Calls Tryz.prog 95 #[byV z o A n c] w fun e w' => e = .returned (.bool (mayB z o n)) ∧ Below w.heap.size w w' := by
 unfold maxLen at hn0
 unfold byV byA
 obtain ⟨r, hr⟩ : ∃ r, mayB z o n = r := ⟨_, rfl⟩
 rw [hr]
 by_cases z0 : z < 1
 · have z1 : (z == 1) = false := by simp; omega
   have z2 : (z == 2) = false := by simp; omega
   have z3 : (z == 3) = false := by simp; omega
   obtain rfl : r = false := by rw [← hr]; exact mayB_f (by omega)
   clear hr
   go_enter Tryz.func95, Tryz.ntmps95
   go_wp2_with fail
   go_ret
   exact ⟨by first | rfl | simp | (simp; omega), (bR _ _).alloc (nl _) _⟩
 by_cases z4 : 3 < z
 · have z1 : (z == 1) = false := by simp; omega
   have z2 : (z == 2) = false := by simp; omega
   have z3 : (z == 3) = false := by simp; omega
   obtain rfl : r = false := by rw [← hr]; exact mayB_f (by omega)
   clear hr
   go_enter Tryz.func95, Tryz.ntmps95
   go_wp2_with fail
   go_ret
   exact ⟨by first | rfl | simp | (simp; omega), (bR _ _).alloc (nl _) _⟩
 by_cases o0 : o < 0
 · have o1 : (o == 0) = false := by simp; omega
   have o2 : ¬ 0 ≤ o := by omega
   obtain rfl | rfl | rfl : z = 1 ∨ z = 2 ∨ z = 3 := by omega
   · skip
     obtain rfl : r = false := by rw [← hr]; exact mayB_f (by omega)
     clear hr
     go_enter Tryz.func95, Tryz.ntmps95
     go_wp2_with fail
     go_ret
     exact ⟨by first | rfl | simp | (simp; omega), (bR _ _).alloc (nl _) _⟩
   · skip
     obtain rfl : r = false := by rw [← hr]; exact mayB_f (by omega)
     clear hr
     go_enter Tryz.func95, Tryz.ntmps95
     go_wp2_with fail
     go_ret
     exact ⟨by first | rfl | simp | (simp; omega), (bR _ _).alloc (nl _) _⟩
   · skip
     obtain rfl : r = false := by rw [← hr]; exact mayB_f (by omega)
     clear hr
     go_enter Tryz.func95, Tryz.ntmps95
     go_wp2_with fail
     go_ret
     exact ⟨by first | rfl | simp | (simp; omega), (bR _ _).alloc (nl _) _⟩
 by_cases o3 : 3 < o
 · have o1 : (o == 0) = false := by simp; omega
   have o2 : 0 ≤ o := by omega
   have o4 : ¬ o ≤ 3 := by omega
   obtain rfl | rfl | rfl : z = 1 ∨ z = 2 ∨ z = 3 := by omega
   · skip
     obtain rfl : r = false := by rw [← hr]; exact mayB_f (by omega)
     clear hr
     go_enter Tryz.func95, Tryz.ntmps95
     go_wp2_with fail
     go_ret
     exact ⟨by first | rfl | simp | (simp; omega), (bR _ _).alloc (nl _) _⟩
   · skip
     obtain rfl : r = false := by rw [← hr]; exact mayB_f (by omega)
     clear hr
     go_enter Tryz.func95, Tryz.ntmps95
     go_wp2_with fail
     go_ret
     exact ⟨by first | rfl | simp | (simp; omega), (bR _ _).alloc (nl _) _⟩
   · skip
     obtain rfl : r = false := by rw [← hr]; exact mayB_f (by omega)
     clear hr
     go_enter Tryz.func95, Tryz.ntmps95
     go_wp2_with fail
     go_ret
     exact ⟨by first | rfl | simp | (simp; omega), (bR _ _).alloc (nl _) _⟩
 have o2 : 0 ≤ o := by omega
 have o4 : o ≤ 3 := by omega
 by_cases o5 : o = 0
 · subst o5
   obtain rfl | rfl | rfl : z = 1 ∨ z = 2 ∨ z = 3 := by omega
   · skip
     by_cases hn : n = 0
     · have n1 : (n : Int) = 0 := by omega
       obtain rfl : r = true := by rw [← hr]; exact mayB_t (by omega)
       clear hr
       go_enter Tryz.func95, Tryz.ntmps95
       go_wp2_with fail
       go_ret
       exact ⟨by first | rfl | simp | (simp; omega), (bR _ _).alloc (nl _) _⟩
     · have n1 : ((n : Int) == 0) = false := by simp; omega
       obtain rfl : r = false := by rw [← hr]; exact mayB_f (by omega)
       clear hr
       go_enter Tryz.func95, Tryz.ntmps95
       go_wp2_with fail
       go_ret
       exact ⟨by first | rfl | simp | (simp; omega), (bR _ _).alloc (nl _) _⟩
   · skip
     by_cases hn : n = 0
     · have n1 : (n : Int) = 0 := by omega
       obtain rfl : r = true := by rw [← hr]; exact mayB_t (by omega)
       clear hr
       go_enter Tryz.func95, Tryz.ntmps95
       go_wp2_with fail
       go_ret
       exact ⟨by first | rfl | simp | (simp; omega), (bR _ _).alloc (nl _) _⟩
     · have n1 : ((n : Int) == 0) = false := by simp; omega
       obtain rfl : r = false := by rw [← hr]; exact mayB_f (by omega)
       clear hr
       go_enter Tryz.func95, Tryz.ntmps95
       go_wp2_with fail
       go_ret
       exact ⟨by first | rfl | simp | (simp; omega), (bR _ _).alloc (nl _) _⟩
   · by_cases hn : 1 ≤ n
     · by_cases hn2 : n ≤ 1000
       · have n1 : (1 : Int) ≤ (n : Int) := by omega
         have n2 : (n : Int) ≤ 1000 := by omega
         obtain rfl : r = true := by rw [← hr]; exact mayB_t (by omega)
         clear hr
         go_enter Tryz.func95, Tryz.ntmps95
         go_wp2_with fail
         go_ret
         exact ⟨by first | rfl | simp | (simp; omega), (bR _ _).alloc (nl _) _⟩
       · have n1 : (1 : Int) ≤ (n : Int) := by omega
         have n2 : ¬ (n : Int) ≤ 1000 := by omega
         obtain rfl : r = false := by rw [← hr]; exact mayB_f (by omega)
         clear hr
         go_enter Tryz.func95, Tryz.ntmps95
         go_wp2_with fail
         go_ret
         exact ⟨by first | rfl | simp | (simp; omega), (bR _ _).alloc (nl _) _⟩
     · have n1 : ¬ (1 : Int) ≤ (n : Int) := by omega
       obtain rfl : r = false := by rw [← hr]; exact mayB_f (by omega)
       clear hr
       go_enter Tryz.func95, Tryz.ntmps95
       go_wp2_with fail
       go_ret
       exact ⟨by first | rfl | simp | (simp; omega), (bR _ _).alloc (nl _) _⟩
 · have o1 : (o == 0) = false := by simp; omega
   have o7 : (o != 0) = true := by simp; omega
   obtain rfl | rfl | rfl : z = 1 ∨ z = 2 ∨ z = 3 := by omega
   · skip
     obtain rfl : r = false := by rw [← hr]; exact mayB_f (by omega)
     clear hr
     go_enter Tryz.func95, Tryz.ntmps95
     go_wp2_with fail
     go_ret
     exact ⟨by first | rfl | simp | (simp; omega), (bR _ _).alloc (nl _) _⟩
   · skip
     by_cases hn : n = 0
     · have n1 : (n : Int) = 0 := by omega
       obtain rfl : r = true := by rw [← hr]; exact mayB_t (by omega)
       clear hr
       go_enter Tryz.func95, Tryz.ntmps95
       go_wp2_with fail
       go_ret
       exact ⟨by first | rfl | simp | (simp; omega), (bR _ _).alloc (nl _) _⟩
     · have n1 : ((n : Int) == 0) = false := by simp; omega
       obtain rfl : r = false := by rw [← hr]; exact mayB_f (by omega)
       clear hr
       go_enter Tryz.func95, Tryz.ntmps95
       go_wp2_with fail
       go_ret
       exact ⟨by first | rfl | simp | (simp; omega), (bR _ _).alloc (nl _) _⟩
   · skip
     obtain rfl : r = false := by rw [← hr]; exact mayB_f (by omega)
     clear hr
     go_enter Tryz.func95, Tryz.ntmps95
     go_wp2_with fail
     go_ret
     exact ⟨by first | rfl | simp | (simp; omega), (bR _ _).alloc (nl _) _⟩
set_option maxHeartbeats 2000000 in
theorem mayBy_any (z o : Int) (A : Option Addr) (n c : Nat) (w : World) (hn0 : n ≤ maxLen) :
 Calls Tryz.prog 100 #[byV z o A n c] w fun e w' => e = .returned (.bool (mayB z o n)) ∧ Below w.heap.size w w' := by
 unfold maxLen at hn0
 unfold byV byA
 obtain ⟨r, hr⟩ : ∃ r, mayB z o n = r := ⟨_, rfl⟩
 rw [hr]
 by_cases z0 : z < 1
 · have z1 : (z == 1) = false := by simp; omega
   have z2 : (z == 2) = false := by simp; omega
   have z3 : (z == 3) = false := by simp; omega
   obtain rfl : r = false := by rw [← hr]; exact mayB_f (by omega)
   clear hr
   go_enter Tryz.func100, Tryz.ntmps100
   go_wp2_with fail
   go_ret
   exact ⟨by first | rfl | simp | (simp; omega), (bR _ _).alloc (nl _) _⟩
 by_cases z4 : 3 < z
 · have z1 : (z == 1) = false := by simp; omega
   have z2 : (z == 2) = false := by simp; omega
   have z3 : (z == 3) = false := by simp; omega
   obtain rfl : r = false := by rw [← hr]; exact mayB_f (by omega)
   clear hr
   go_enter Tryz.func100, Tryz.ntmps100
   go_wp2_with fail
   go_ret
   exact ⟨by first | rfl | simp | (simp; omega), (bR _ _).alloc (nl _) _⟩
 by_cases o0 : o < 0
 · have o1 : (o == 0) = false := by simp; omega
   have o2 : ¬ 0 ≤ o := by omega
   obtain rfl | rfl | rfl : z = 1 ∨ z = 2 ∨ z = 3 := by omega
   · skip
     obtain rfl : r = false := by rw [← hr]; exact mayB_f (by omega)
     clear hr
     go_enter Tryz.func100, Tryz.ntmps100
     go_wp2_with fail
     go_ret
     exact ⟨by first | rfl | simp | (simp; omega), (bR _ _).alloc (nl _) _⟩
   · skip
     obtain rfl : r = false := by rw [← hr]; exact mayB_f (by omega)
     clear hr
     go_enter Tryz.func100, Tryz.ntmps100
     go_wp2_with fail
     go_ret
     exact ⟨by first | rfl | simp | (simp; omega), (bR _ _).alloc (nl _) _⟩
   · skip
     obtain rfl : r = false := by rw [← hr]; exact mayB_f (by omega)
     clear hr
     go_enter Tryz.func100, Tryz.ntmps100
     go_wp2_with fail
     go_ret
     exact ⟨by first | rfl | simp | (simp; omega), (bR _ _).alloc (nl _) _⟩
 by_cases o3 : 3 < o
 · have o1 : (o == 0) = false := by simp; omega
   have o2 : 0 ≤ o := by omega
   have o4 : ¬ o ≤ 3 := by omega
   obtain rfl | rfl | rfl : z = 1 ∨ z = 2 ∨ z = 3 := by omega
   · skip
     obtain rfl : r = false := by rw [← hr]; exact mayB_f (by omega)
     clear hr
     go_enter Tryz.func100, Tryz.ntmps100
     go_wp2_with fail
     go_ret
     exact ⟨by first | rfl | simp | (simp; omega), (bR _ _).alloc (nl _) _⟩
   · skip
     obtain rfl : r = false := by rw [← hr]; exact mayB_f (by omega)
     clear hr
     go_enter Tryz.func100, Tryz.ntmps100
     go_wp2_with fail
     go_ret
     exact ⟨by first | rfl | simp | (simp; omega), (bR _ _).alloc (nl _) _⟩
   · skip
     obtain rfl : r = false := by rw [← hr]; exact mayB_f (by omega)
     clear hr
     go_enter Tryz.func100, Tryz.ntmps100
     go_wp2_with fail
     go_ret
     exact ⟨by first | rfl | simp | (simp; omega), (bR _ _).alloc (nl _) _⟩
 have o2 : 0 ≤ o := by omega
 have o4 : o ≤ 3 := by omega
 by_cases o5 : o = 0
 · subst o5
   obtain rfl | rfl | rfl : z = 1 ∨ z = 2 ∨ z = 3 := by omega
   · skip
     by_cases hn : n = 0
     · have n1 : (n : Int) = 0 := by omega
       obtain rfl : r = true := by rw [← hr]; exact mayB_t (by omega)
       clear hr
       go_enter Tryz.func100, Tryz.ntmps100
       go_wp2_with fail
       go_ret
       exact ⟨by first | rfl | simp | (simp; omega), (bR _ _).alloc (nl _) _⟩
     · have n1 : ((n : Int) == 0) = false := by simp; omega
       obtain rfl : r = false := by rw [← hr]; exact mayB_f (by omega)
       clear hr
       go_enter Tryz.func100, Tryz.ntmps100
       go_wp2_with fail
       go_ret
       exact ⟨by first | rfl | simp | (simp; omega), (bR _ _).alloc (nl _) _⟩
   · skip
     by_cases hn : n = 0
     · have n1 : (n : Int) = 0 := by omega
       obtain rfl : r = true := by rw [← hr]; exact mayB_t (by omega)
       clear hr
       go_enter Tryz.func100, Tryz.ntmps100
       go_wp2_with fail
       go_ret
       exact ⟨by first | rfl | simp | (simp; omega), (bR _ _).alloc (nl _) _⟩
     · have n1 : ((n : Int) == 0) = false := by simp; omega
       obtain rfl : r = false := by rw [← hr]; exact mayB_f (by omega)
       clear hr
       go_enter Tryz.func100, Tryz.ntmps100
       go_wp2_with fail
       go_ret
       exact ⟨by first | rfl | simp | (simp; omega), (bR _ _).alloc (nl _) _⟩
   · by_cases hn : 1 ≤ n
     · by_cases hn2 : n ≤ 1000
       · have n1 : (1 : Int) ≤ (n : Int) := by omega
         have n2 : (n : Int) ≤ 1000 := by omega
         obtain rfl : r = true := by rw [← hr]; exact mayB_t (by omega)
         clear hr
         go_enter Tryz.func100, Tryz.ntmps100
         go_wp2_with fail
         go_ret
         exact ⟨by first | rfl | simp | (simp; omega), (bR _ _).alloc (nl _) _⟩
       · have n1 : (1 : Int) ≤ (n : Int) := by omega
         have n2 : ¬ (n : Int) ≤ 1000 := by omega
         obtain rfl : r = false := by rw [← hr]; exact mayB_f (by omega)
         clear hr
         go_enter Tryz.func100, Tryz.ntmps100
         go_wp2_with fail
         go_ret
         exact ⟨by first | rfl | simp | (simp; omega), (bR _ _).alloc (nl _) _⟩
     · have n1 : ¬ (1 : Int) ≤ (n : Int) := by omega
       obtain rfl : r = false := by rw [← hr]; exact mayB_f (by omega)
       clear hr
       go_enter Tryz.func100, Tryz.ntmps100
       go_wp2_with fail
       go_ret
       exact ⟨by first | rfl | simp | (simp; omega), (bR _ _).alloc (nl _) _⟩
 · have o1 : (o == 0) = false := by simp; omega
   have o7 : (o != 0) = true := by simp; omega
   obtain rfl | rfl | rfl : z = 1 ∨ z = 2 ∨ z = 3 := by omega
   · skip
     obtain rfl : r = false := by rw [← hr]; exact mayB_f (by omega)
     clear hr
     go_enter Tryz.func100, Tryz.ntmps100
     go_wp2_with fail
     go_ret
     exact ⟨by first | rfl | simp | (simp; omega), (bR _ _).alloc (nl _) _⟩
   · skip
     by_cases hn : n = 0
     · have n1 : (n : Int) = 0 := by omega
       obtain rfl : r = true := by rw [← hr]; exact mayB_t (by omega)
       clear hr
       go_enter Tryz.func100, Tryz.ntmps100
       go_wp2_with fail
       go_ret
       exact ⟨by first | rfl | simp | (simp; omega), (bR _ _).alloc (nl _) _⟩
     · have n1 : ((n : Int) == 0) = false := by simp; omega
       obtain rfl : r = false := by rw [← hr]; exact mayB_f (by omega)
       clear hr
       go_enter Tryz.func100, Tryz.ntmps100
       go_wp2_with fail
       go_ret
       exact ⟨by first | rfl | simp | (simp; omega), (bR _ _).alloc (nl _) _⟩
   · skip
     obtain rfl : r = false := by rw [← hr]; exact mayB_f (by omega)
     clear hr
     go_enter Tryz.func100, Tryz.ntmps100
     go_wp2_with fail
     go_ret
     exact ⟨by first | rfl | simp | (simp; omega), (bR _ _).alloc (nl _) _⟩
set_option maxHeartbeats 1000000 in
theorem ending_any (z : Int) (o : Nat) (A : Option Addr) (n c : Nat) (P : Option Addr) (p : List UInt8) (L pc B : Nat) (w : World) (hL : p.length = L) (hc : L ≤ pc) (hm : pc ≤ maxLen) (hp : RB w B P p) (hB : B ≤ w.heap.size) (ho : o ≤ 3) (m : Nat) (hmm : (endN o p).length = m) :
 Calls Tryz.prog 170 #[byV z o A n c, .slice P L pc] w fun e w' => ∃ A' c', e = .returned (.slice A' m c') ∧ RB w' B A' (endN o p) ∧ Below w.heap.size w w' := by
 unfold maxLen at hm
 by_cases h0 : L ≤ o
 · have he : endN o p = p := by unfold endN; rw [hL, show L - o = 0 by omega]; rfl
   obtain rfl : L = m := by rw [← hmm, he, hL]
   have HR : Hid (RB w B P (endN o p)) := by rw [he]; exact hp
   clear hp he hmm hL
   by_cases hp0 : pc = 0
   · obtain rfl : L = 0 := by omega
     subst hp0
     by_cases h1 : o = 0
     · subst h1
       unfold byV byA
       go_enter Tryz.func170, Tryz.ntmps170
       go_wp2_with fail
       go_ret
       have hb : Below w.heap.size w (w.alloc (.cells #[.int .i64 z, .int .i64 0, .slice A n c] 146)) := (bR _ _).alloc (nl _) _
       exact ⟨P, _, rfl, HR.out.below (hb.mono hB), hb⟩
     · have h2 : (0 : Int) - (o : Int) < 0 := by omega
       unfold byV byA
       go_enter Tryz.func170, Tryz.ntmps170
       go_wp2_with fail
       go_ret
       have hb : Below w.heap.size w (w.alloc (.cells #[.int .i64 z, .int .i64 (o : Int), .slice A n c] 146)) := (bR _ _).alloc (nl _) _
       exact ⟨P, _, rfl, HR.out.below (hb.mono hB), hb⟩
   · by_cases h1 : L = o
     · have h2 : (L : Int) - (o : Int) = 0 := by omega
       clear h1 h0
       unfold byV byA
       go_enter Tryz.func170, Tryz.ntmps170
       go_wp2_with fail
       go_ret
       have hb : Below w.heap.size w (w.alloc (.cells #[.int .i64 z, .int .i64 (o : Int), .slice A n c] 146)) := (bR _ _).alloc (nl _) _
       exact ⟨P, _, rfl, HR.out.below (hb.mono hB), hb⟩
     · obtain ⟨d, hd⟩ : ∃ d : Int, (L : Int) - (o : Int) = d := ⟨_, rfl⟩
       have h2 : d < 0 := by omega
       have hd1 : -9223372036854775808 ≤ d ∧ d ≤ 9223372036854775807 := by omega
       clear h0 h1
       unfold byV byA
       go_enter Tryz.func170, Tryz.ntmps170
       go_wp2_with fail
       go_ret
       have hb : Below w.heap.size w (w.alloc (.cells #[.int .i64 z, .int .i64 (o : Int), .slice A n c] 146)) := (bR _ _).alloc (nl _) _
       exact ⟨P, _, rfl, HR.out.below (hb.mono hB), hb⟩
 · obtain ⟨k, hd⟩ : ∃ k : Nat, (L : Int) - (o : Int) = k := ⟨L - o, by omega⟩
   have hk : max (k : Int) 0 = (k : Int) := by omega
   have hkn : k = L - o := by omega
   have hr := hp.cut k pc (by omega) (by omega)
   have he : p.drop k = endN o p := by unfold endN; rw [hkn, hL]
   rw [he] at hr
   have hml : L - k = m := by rw [← hmm, ← he, List.length_drop, hL]
   have HM := qh hml
   have hkl : k ≤ L := by omega
   by_cases hpk : pc = k
   · rw [if_pos hpk] at hr
     have HR := qh hr
     subst hpk
     obtain rfl : m = 0 := by omega
     clear hp hr he hkn hml hmm hL h0
     unfold byV byA
     go_enter Tryz.func170, Tryz.ntmps170
     go_wp2_with fail
     go_ret
     have hb : Below w.heap.size w (w.alloc (.cells #[.int .i64 z, .int .i64 (o : Int), .slice A n c] 146)) := (bR _ _).alloc (nl _) _
     exact ⟨P, _, rfl, HR.out.below (hb.mono hB), hb⟩
   · rw [if_neg hpk] at hr
     have HR := qh hr
     clear hp hr he hkn hml hmm hL h0
     unfold byV byA
     go_enter Tryz.func170, Tryz.ntmps170
     go_wp2_with fail
     go_ret
     have hb : Below w.heap.size w (w.alloc (.cells #[.int .i64 z, .int .i64 (o : Int), .slice A n c] 146)) := (bR _ _).alloc (nl _) _
     exact ⟨P.map (·.add k), _, by rw [← HM.out]; rfl, HR.out.below (hb.mono hB), hb⟩
theorem str_ne {a b : List UInt8} (h : a ≠ b) : str a ≠ str b := fun e => h (by have := congrArg ByteArray.toList e; rwa [str_toList, str_toList] at this)
theorem RB.sub {w : World} {B : Nat} {A : Option Addr} {l : List UInt8} (h : RB w B A l) (a n cap : Nat) (hn : a + n ≤ l.length) (hc : l.length ≤ cap) : RB w B (if cap = a then A else A.map (·.add a)) ((l.drop a).take n) :=
 (h.cut a cap (by omega) hc).take n
theorem RB.cell_ {w : World} {B b off : Nat} {l : List UInt8} (h : RB w B (some ⟨b, off, none⟩) l) (k : Nat) (hk : k < l.length) : w.cell? ⟨b, off + k, none⟩ = some (.int .u8 ((l.getD k 0).toNat : Int)) := by
 obtain ⟨b', off', e, hb, hc⟩ := h (by omega)
 cases e
 rw [hc k hk]
 simp [vb, List.getD, List.getElem?_eq_getElem hk]
def z256 : Nat → Int := fun _ => 0
theorem zeroN (w : World) : (zeroValue 203).run Tryz.prog w = .ok (.agg (aN z256)) w :=
 (zero_of_info (P := Tryz.prog) (t := 203) (v := .agg (aN z256)) (n := 256) (by kernel_rfl)).1 w
theorem wts_step (o : Nat) (e p : List UInt8) (i X : Nat) (h : o ≤ i) (he : (p.drop (i - o)).take o = e) (hX : (p.getD i 0).toNat = X) : putS (wts o e p i) X (wts o e p i X + 1) = wts o e p (i + 1) := by
 funext v
 have h0 : wts o e p (i + 1) v = wts o e p i v + (if hit o e p i v then 1 else 0) := rfl
 rw [h0]
 unfold putS
 by_cases c : v = X
 · rw [if_pos c, c, if_pos (show hit o e p i X from ⟨h, he, hX⟩)]
 · rw [if_neg c, if_neg (fun hh => c (by rw [← hh.2.2, hX]))]; omega
theorem wts_skip (o : Nat) (e p : List UInt8) (i : Nat) (he : (p.drop (i - o)).take o ≠ e) : wts o e p i = wts o e p (i + 1) := by
 funext v
 have h0 : wts o e p (i + 1) v = wts o e p i v + (if hit o e p i v then 1 else 0) := rfl
 rw [h0, if_neg (fun hh => he hh.2.1)]; omega
def w3_ (w : World) (z o : Int) (A : Option Addr) (n c : Nat) (t : TypeId) : World := ((w.alloc (.cells #[.int .i64 z, .int .i64 o, .slice A n c] t)).alloc (.cells (aN z256) 203)).alloc (.cells (aN z256) 203)
structure W3 (w w3 : World) (z o : Int) (A : Option Addr) (n c : Nat) (t : TypeId) : Prop where
 bel : Below w.heap.size w w3
 g1 : GN w3 (w.heap.size + 1) z256
 g2 : GN w3 (w.heap.size + 1 + 1) z256
 sz : w3.heap.size = w.heap.size + 3
 box : w3.heap[w.heap.size]? = some (.cells (byA z o A n c) t (0, 0))
theorem w3_is (w : World) (z o : Int) (A : Option Addr) (n c : Nat) (t : TypeId) : W3 w (w3_ w z o A n c t) z o A n c t := by
 unfold w3_
 refine ⟨(((bR _ _).alloc (nl _) _).alloc (by simp) _).alloc (by simp; omega) _, ?_, ?_, by simp, ?_⟩
 · have := (GN.new (w.alloc (.cells #[.int .i64 z, .int .i64 o, .slice A n c] t)) z256).alloc (.cells (aN z256) 203)
   simpa using this
 · have := GN.new ((w.alloc (.cells #[.int .i64 z, .int .i64 o, .slice A n c] t)).alloc (.cells (aN z256) 203)) z256
   simpa using this
 · have h0 := heap_alloc_last w (.cells #[.int .i64 z, .int .i64 o, .slice A n c] t)
   have h1 := (Below.heap_alloc (w.alloc (.cells #[.int .i64 z, .int .i64 o, .slice A n c] t)) (.cells (aN z256) 203) w.heap.size (by simp)).trans h0
   exact (Below.heap_alloc ((w.alloc (.cells #[.int .i64 z, .int .i64 o, .slice A n c] t)).alloc (.cells (aN z256) 203)) (.cells (aN z256) 203) w.heap.size (by simp; omega)).trans h1
theorem W3.c0 {w w3 w' : World} {z o : Int} {A : Option Addr} {n c : Nat} {t : TypeId} (h : W3 w w3 z o A n c t) (hb : Below (w.heap.size + 1 + 1) w3 w') : w'.cell? ⟨w.heap.size, 0, none⟩ = some (.int .i64 z) :=
 (hb.cell (p := ⟨w.heap.size, 0, none⟩) (by show w.heap.size < _; omega)).trans (cell_of_row _ _ _ _ _ _ h.box)
theorem W3.c1 {w w3 w' : World} {z o : Int} {A : Option Addr} {n c : Nat} {t : TypeId} (h : W3 w w3 z o A n c t) (hb : Below (w.heap.size + 1 + 1) w3 w') : w'.cell? ⟨w.heap.size, 1, none⟩ = some (.int .i64 o) :=
 (hb.cell (p := ⟨w.heap.size, 1, none⟩) (by show w.heap.size < _; omega)).trans (cell_of_row _ _ _ _ _ _ h.box)
set_option maxHeartbeats 2000000 in
theorem weigh_any (b : Kd) (A : Option Addr) (n c : Nat) (P : Option Addr) (p : List UInt8) (L pc : Nat) (w : World) (hok : b.ok) (hL : p.length = L) (hc : L ≤ pc) (hm : pc ≤ maxLen) (hp : RB w w.heap.size P p) (hl : L ≤ 2000) :
 Calls Tryz.prog 196 #[byV b.k b.o A n c, .slice P L pc] w fun e w' => e = .returned (.agg (aN fun v => if b.k = 2 then wN b.o p v else 0)) ∧ Below w.heap.size w w' := by
 obtain ⟨k, o, tb⟩ := b
 have ho : o ≤ 3 := by unfold Kd.ok at hok; simp only at hok; omega
 have hz := zeroN
 simp only
 have H3 := qh (w3_is w k o A n c 146)
 obtain ⟨w3, hw3⟩ : ∃ w3, w3_ w k o A n c 146 = w3 := ⟨_, rfl⟩
 rw [hw3] at H3
 unfold w3_ at hw3
 have HW := qh hw3
 clear hw3
 by_cases hk : k = 2
 · subst hk
   rw [show ((2 : Nat) : Int) = 2 from rfl] at HW H3 ⊢
   simp only [if_true]
   obtain ⟨m, hmm⟩ : ∃ m, (endN o p).length = m := ⟨_, rfl⟩
   have HE := ending_any 2 o A n c P p L pc w.heap.size w3 hL hc hm (hp.below H3.out.bel) (by rw [H3.out.sz]; omega) ho m hmm
   have hfun : (fun v => wN o p v) = fun v => wts o (endN o p) p L v := by funext v; unfold wN; rw [hL]
   rw [hfun]
   obtain ⟨E, hE⟩ : ∃ E, endN o p = E := ⟨_, rfl⟩
   rw [hE] at HE hmm ⊢
   replace HE := qh HE
   clear hfun hE
   have HP := qh hp
   have HL := qh hL
   have HMM := qh hmm
   unfold maxLen at hm
   rw [← HW.out] at HE
   clear hp hL hmm
   unfold byV byA at HE ⊢
   go_enter Tryz.func196, Tryz.ntmps196
   go_wp2_with fail
   (with_reducible refine HE.out.mono ?_)
   rintro e w4 ⟨A4, c4, rfl, hr4, hb4⟩
   rw [HW.out] at hb4
   have hcv := conv_rb hr4 m c4 HMM.out
   have HB0 : Hid (Below w.heap.size w w4) := H3.out.bel.trans (hb4.mono (by rw [H3.out.sz]; omega))
   have HB4 := qh hb4
   have hb5 : Below (w.heap.size + 1 + 1) w3 w4 := hb4.mono (by rw [H3.out.sz]; omega)
   have c0 := H3.out.c0 hb5
   have c1 := H3.out.c1 hb5
   have HB5 := qh hb5
   have G1 : Hid (GN w4 (w.heap.size + 1) z256) := H3.out.g1.below hb4 (by rw [H3.out.sz]; omega)
   have G2 : Hid (GN w4 (w.heap.size + 1 + 1) z256) := H3.out.g2.below hb4 (by rw [H3.out.sz]; omega)
   clear hr4 hb4 hb5 HE
   go_wp2_with fail
   go_loopw [7] (fun v wr => ∃ i : Nat, v = .int .i64 i ∧ o ≤ i ∧ (i ≤ L ∨ i = o) ∧ Hid (Below (w.heap.size + 1 + 1) w4 wr) ∧ Hid (GN wr (w.heap.size + 1 + 1) (wts o E p i))) (fun v _ => L - (intOf v).toNat)
   case atStart =>
    have e : wts o E p o = z256 := by funext v; exact wts_low o _ p v o (nl _)
    exact ⟨o, rfl, nl _, .inr rfl, bR _ _, by rw [e]; exact G2⟩
   case round =>
    clear G2 c0 c1 hcv
    obtain ⟨i, rfl, hoi, hiL, HB, HG⟩ := hrel
    have c1 := H3.out.c1 (HB5.out.trans (HB.out.mono (nl _)))
    by_cases hlt : i < L
    · have hltz : (i : Int) < (L : Int) := by omega
      obtain ⟨pb, po, rfl, hpb, -⟩ := HP.out (by rw [HL.out]; omega)
      have HPr : Hid (RB wr w.heap.size (some ⟨pb, po, none⟩) p) := (HP.out.below HB0.out).below (HB.out.mono (by omega))
      obtain ⟨io, hio⟩ : ∃ io : Nat, (i : Int) - (o : Int) = io := ⟨i - o, by omega⟩
      have hne : ¬ pc = io := by omega
      have hio2 : io ≤ i := by omega
      have hipc : i ≤ pc := by omega
      have hlen : i - io = o := by omega
      have HIO : Hid (io = i - o) := by unfold Hid; omega
      have hsub := HPr.out.sub io o pc (by rw [HL.out]; omega) (by rw [HL.out]; exact hc)
      rw [if_neg hne] at hsub
      have hcv := conv_rb hsub o (pc - io) (by rw [List.length_take, List.length_drop, HL.out]; omega)
      simp only [Option.map_some, Addr.add_lit] at hcv
      obtain ⟨x, hx⟩ : ∃ x, (p.drop io).take o = x := ⟨_, rfl⟩
      rw [hx] at hcv
      have HX := qh hx
      clear hx hsub
      by_cases hxe : x = E
      · subst hxe
        obtain ⟨X, hX⟩ : ∃ X, (p.getD i 0).toNat = X := ⟨_, rfl⟩
        have hX2 : X < 256 := by rw [← hX]; exact UInt8.toNat_lt _
        have cx := HPr.out.cell_ i (by rw [HL.out]; exact hlt)
        rw [hX] at cx
        have gx := HG.out.cell X hX2
        have fx := HG.out.frozen X
        obtain ⟨y, hy⟩ : ∃ y, wts o x p i X = y := ⟨_, rfl⟩
        rw [hy] at gx
        have hb := wts_nonneg o x p X i
        rw [hy] at hb
        have hi2 : (i : Int) ≤ 2000 := by omega
        have HS : Hid (putS (wts o x p i) X (y + 1) = wts o x p (i + 1)) := by rw [← hy]; exact wts_step o x p i X hoi (by rw [← HIO.out]; exact HX.out) hX
        clear hX hy
        go_wp2_with fail
        exact ⟨⟨i + 1, by go_num, by omega, by omega, HB.out.setCell (nl _) _, by rw [← HS.out]; exact HG.out.set X (y + 1)⟩, by simp [intOf]; omega⟩
      · have hs := str_ne hxe
        have hs3 : ((str x).toList == (str E).toList) = false := by rw [str_toList, str_toList]; simpa using hxe
        have HS : Hid (wts o E p i = wts o E p (i + 1)) := wts_skip o E p i (by rw [← HIO.out, HX.out]; exact hxe)
        go_wp2_with fail
        exact ⟨⟨i + 1, by go_num, by omega, by omega, HB, by rw [← HS.out]; exact HG⟩, by simp [intOf]; omega⟩
    · have hltz : ¬ (i : Int) < (L : Int) := by omega
      have hfin : Hid (aN (wts o E p i) = aN fun v => wts o E p L v) := by
       refine aN_congr (fun v _ => ?_)
       rcases hiL with h | h
       · rw [show i = L by omega]
       · rw [h, wts_low o E p v o (nl _), wts_low o E p v L (by omega)]
      have G1b : GN wr (w.heap.size + 1) z256 := G1.out.below HB.out (by omega)
      have G2b := HG.out
      have HB9 : Hid (Below w.heap.size w wr) := HB0.out.trans (HB.out.mono (by omega))
      go_wp2_with (first
       | (with_reducible refine wpList_load_n rfl (.tmp 5) rfl (w.heap.size + 1 + 1) (by with_unfolding_all rfl) (wts o E p i) G2b ?_)
       | (with_reducible refine wpList_store_n rfl (.tmp 4) (.tmp 42) rfl (w.heap.size + 1) (by with_unfolding_all rfl) z256 (wts o E p i) G1b (by with_unfolding_all rfl) ?_; intro w5 G3 S3 R3))
      exact bodyPost_ret (results_n rfl G3 rfl) rfl ⟨by rw [hfin.out], HB9.out.grown R3 HB9.out.size (fun k e => by cases e; omega)⟩
 · have h1 : ((k : Int) != 2) = true := by simp; omega
   simp only [if_neg hk]
   unfold byV byA
   go_enter Tryz.func196, Tryz.ntmps196
   go_upto_region 3 with fail
   rw [HW.out]
   have G1 := H3.out.g1
   have G2 := H3.out.g2
   have HB := qh H3.out.bel
   clear hz
   go_wp2_with (first
    | (with_reducible refine wpList_load_n rfl (.tmp 5) rfl (w.heap.size + 1 + 1) (by with_unfolding_all rfl) z256 G2 ?_)
    | (with_reducible refine wpList_store_n rfl (.tmp 4) (.tmp 11) rfl (w.heap.size + 1) (by with_unfolding_all rfl) z256 z256 G1 (by with_unfolding_all rfl) ?_; intro w5 G3 S3 R3))
   exact bodyPost_ret (results_n rfl G3 rfl) rfl ⟨rfl, HB.out.grown R3 HB.out.size (fun k e => by cases e; omega)⟩
def dbl (W : Nat → Int) (i : Nat) : Nat → Int := fun v => if v < i then 2 * W v else W v
theorem dbl_step (W : Nat → Int) (i : Nat) (y : Int) (h : W i = y) : putS (dbl W i) i (y * 2) = dbl W (i + 1) := by
 funext v
 unfold putS dbl
 by_cases c : v = i
 · rw [if_pos c, c, if_pos (by omega), h]; omega
 · rw [if_neg c]
   by_cases c2 : v < i
   · rw [if_pos c2, if_pos (by omega)]
   · rw [if_neg c2, if_neg (by omega)]
def wB (b : Kd) (p : List UInt8) : Nat → Int := fun v => if b.k = 2 then wN b.o p v else 0
theorem wB_rng (b : Kd) (p : List UInt8) (v : Nat) : 0 ≤ wB b p v ∧ wB b p v ≤ p.length := by
 unfold wB
 split
 · exact wts_nonneg _ _ _ _ _
 · omega
def s1 (b : Kd) (p : List UInt8) : Nat → Int := fun v => 2 * wB b p v + (if 0 < p.length ∧ (lst p).toNat = v then 1 else 0)
theorem s1_zero (b : Kd) (p : List UInt8) (h : p.length = 0) (v : Nat) (hv : v < 256) : dbl (wB b p) 256 v = s1 b p v := by
 unfold dbl s1; rw [if_pos hv, if_neg (by omega)]; omega
theorem s1_some (b : Kd) (p : List UInt8) (h : 0 < p.length) (X : Nat) (hX : (lst p).toNat = X) (v : Nat) (hv : v < 256) (y : Int) (hy : dbl (wB b p) 256 X = y) : putS (dbl (wB b p) 256) X (y + 1) v = s1 b p v := by
 have hX2 : X < 256 := by rw [← hX]; exact UInt8.toNat_lt _
 unfold putS s1
 by_cases c : v = X
 · rw [if_pos c, if_pos ⟨h, by rw [hX, c]⟩, ← hy, c]; unfold dbl; rw [if_pos hX2]
 · rw [if_neg c, if_neg (fun hh => c (by rw [← hh.2, hX]))]; unfold dbl; rw [if_pos hv]; omega
theorem sc_other (b : Kd) (p : List UInt8) (h : b.k ≠ 3) : sc b p = s1 b p := by
 funext v
 unfold sc s1 wB
 rw [if_neg (c := b.k = 3 ∧ _) (fun hh => h hh.1)]; omega
theorem sc_drawn (b : Kd) (p : List UInt8) (h : b.k = 3) (X : Nat) (hX : (drw b p).toNat = X) (y : Int) (hy : s1 b p X = y) : putS (s1 b p) X (y + 2) = sc b p := by
 funext v
 unfold putS
 by_cases c : v = X
 · rw [if_pos c, ← hy]
   unfold sc s1 wB
   rw [if_pos (c := b.k = 3 ∧ _) ⟨h, by rw [hX, c]⟩, c]
 · rw [if_neg c]
   unfold sc s1 wB
   rw [if_neg (c := b.k = 3 ∧ _) (fun hh => c (by rw [← hh.2, hX]))]; omega
theorem s1_rng (b : Kd) (p : List UInt8) (v : Nat) : 0 ≤ s1 b p v ∧ s1 b p v ≤ 2 * p.length + 1 := by
 have := wB_rng b p v
 unfold s1
 split <;> omega
theorem GN.congr {w : World} {b : Nat} {S T : Nat → Int} (h : GN w b S) (e : ∀ v, v < 256 → S v = T v) : GN w b T := by
 unfold GN at h ⊢; rw [← aN_congr e]; exact h
set_option maxHeartbeats 2000000 in
theorem scores_any (b : Kd) (A : Option Addr) (n c : Nat) (P : Option Addr) (p : List UInt8) (L pc : Nat) (w : World) (hok : b.ok) (hn : b.tb.length = n) (hnc : n ≤ c) (hcm : c ≤ maxLen) (ht : RB w w.heap.size A b.tb) (hL : p.length = L) (hc : L ≤ pc) (hm : pc ≤ maxLen) (hp : RB w w.heap.size P p) (hl : L ≤ 2000) :
 Calls Tryz.prog 184 #[byV b.k b.o A n c, .slice P L pc] w fun e w' => e = .returned (.agg (aN (sc b p))) ∧ Below w.heap.size w w' := by
 have hz := zeroN
 obtain ⟨w2, hw2⟩ : ∃ w2, (w.alloc (.cells #[.int .i64 b.k, .int .i64 b.o, .slice A n c] 146)).alloc (.cells (aN z256) 203) = w2 := ⟨_, rfl⟩
 have b2 : Below w.heap.size w w2 := by rw [← hw2]; exact ((bR _ _).alloc (nl _) _).alloc (by simp) _
 have s2 : w2.heap.size = w.heap.size + 2 := by rw [← hw2]; simp
 have g2 : GN w2 (w.heap.size + 1) z256 := by
  rw [← hw2]
  have := GN.new (w.alloc (.cells #[.int .i64 b.k, .int .i64 b.o, .slice A n c] 146)) z256
  simpa using this
 have hbox : w2.heap[w.heap.size]? = some (.cells (byA b.k b.o A n c) 146 (0, 0)) := by
  rw [← hw2]
  have h0 := heap_alloc_last w (.cells #[.int .i64 b.k, .int .i64 b.o, .slice A n c] 146)
  exact (Below.heap_alloc (w.alloc (.cells #[.int .i64 b.k, .int .i64 b.o, .slice A n c] 146)) (.cells (aN z256) 203) w.heap.size (by simp)).trans h0
 have hwg := weigh_any b A n c P p L pc w2 hok hL hc hm (RB.more (hp.below b2) (by rw [s2]; omega)) hl
 have hW : (fun v => if b.k = 2 then wN b.o p v else 0) = wB b p := rfl
 rw [hW] at hwg
 have HE := qh hwg
 have HW := qh hw2
 have B2 := qh b2; have S2 := qh s2; have G2 := qh g2; have HBX := qh hbox
 have HP := qh hp; have HT := qh ht; have HL := qh hL; have HN := qh hn
 have hm2 := hm; have hcm2 := hcm
 unfold maxLen at hm2 hcm2
 rw [← HW.out] at HE
 clear hwg hw2 b2 s2 g2 hbox hp ht hL hn hW hm hcm
 unfold byV byA at HE ⊢
 go_enter Tryz.func184, Tryz.ntmps184
 go_wp2_with fail
 (with_reducible refine HE.out.mono ?_)
 rintro e w5 ⟨rfl, hb5⟩
 rw [HW.out] at hb5
 have G6 : Hid (GN (w5.alloc (.cells (aN z256) 203)) w5.heap.size z256) := GN.new w5 z256
 have g6 := G6.out
 go_wp2_with (with_reducible refine wpList_store_n rfl (.tmp 5) (.tmp 10) rfl w5.heap.size (by with_unfolding_all rfl) z256 (wB b p) g6 (by with_unfolding_all rfl) ?_; intro w7 G7 S7 R7)
 have HB5 := qh hb5
 have hs0 : w.heap.size + 2 ≤ w5.heap.size := by rw [← S2.out]; exact hb5.size
 obtain ⟨s, hs⟩ : ∃ s, w5.heap.size = s := ⟨_, rfl⟩
 have B7 : Hid (Below s w5 w7) := by
  rw [← hs]
  exact ((bR _ _).alloc (nl _) (.cells (aN z256) 203)).grown R7 (by simp) (fun k e => by cases e; exact nl _)
 rw [hs] at G7 hs0 ⊢
 have HS5 := qh hs
 have G7h := qh G7
 have L0 := qh hl
 clear hb5 g6 G6 HE hs S7 R7 G7 hz
 go_loopw [11] (fun v wr => ∃ i : Nat, v = .int .i64 i ∧ i ≤ 256 ∧ Hid (Below s w5 wr) ∧ Hid (GN wr s (dbl (wB b p) i))) (fun v _ => 256 - (intOf v).toNat)
 case atStart => exact ⟨0, rfl, by omega, B7, by
  have : dbl (wB b p) 0 = wB b p := by funext v; unfold dbl; rw [if_neg (by omega)]
  rw [this]; exact G7h⟩
 case round =>
  clear G7h B7
  obtain ⟨i, rfl, hi, HB, HG⟩ := hrel
  by_cases hlt : i < 256
  · have hltz : (i : Int) < 256 := by omega
    obtain ⟨y, hy⟩ : ∃ y, wB b p i = y := ⟨_, rfl⟩
    have hy2 := wB_rng b p i
    rw [hy, HL.out] at hy2
    have cy := HG.out.cell i hlt
    have fy := HG.out.frozen i
    have hd : dbl (wB b p) i i = y := by unfold dbl; rw [if_neg (by omega), hy]
    rw [hd] at cy
    have HD : Hid (putS (dbl (wB b p) i) i (y * 2) = dbl (wB b p) (i + 1)) := dbl_step _ i y hy
    clear hy hd
    go_wp2_with fail
    exact ⟨⟨i + 1, by go_num, by omega, HB.out.setCell (nl _) _, by rw [← HD.out]; exact HG.out.set i (y * 2)⟩, by simp [intOf]; omega⟩
  · obtain rfl : i = 256 := by omega
    have BX : Hid (∀ wx, Below s w5 wx → wx.cell? ⟨w.heap.size, 0, none⟩ = some (.int .i64 b.k) ∧ wx.cell? ⟨w.heap.size, 2, none⟩ = some (.slice A n c) ∧ Below w.heap.size w wx ∧ GN wx (w.heap.size + 1) z256) := fun wx hx => by
     have h1 : Below w.heap.size w wx := B2.out.trans ((HB5.out.mono (by rw [S2.out]; omega)).trans (hx.mono (by omega)))
     have h2 : Below (w.heap.size + 2) w2 wx := (HB5.out.mono (by rw [S2.out]; omega)).trans (hx.mono hs0)
     exact ⟨(h2.cell (p := ⟨w.heap.size, 0, none⟩) (by show w.heap.size < _; omega)).trans (cell_of_row _ _ _ _ _ _ HBX.out),
      (h2.cell (p := ⟨w.heap.size, 2, none⟩) (by show w.heap.size < _; omega)).trans (cell_of_row _ _ _ _ _ _ HBX.out), h1, G2.out.below h2 (by omega)⟩
    clear G2 HBX B2 HB5 S2 HW hlt hi
    go_upto_if 23 with fail
    go_cut [7] from 24 to 32 (fun s7 wx => s7 = .int .i64 L ∧ Hid (Below s w5 wx) ∧ Hid (GN wx s (s1 b p)))
    case first =>
     by_cases hL0 : L = 0
     · subst hL0
       have HG1 : Hid (GN wr s (s1 b p)) := HG.out.congr (fun v hv => s1_zero b p HL.out v hv)
       go_wp2_with fail
       go_meet
       exact ⟨rfl, HB, HG1⟩
     · have hLz : (0 : Int) < (L : Int) := by omega
       obtain ⟨l1, hl1⟩ : ∃ l1 : Nat, (L : Int) - 1 = l1 := ⟨L - 1, by omega⟩
       obtain ⟨pb, po, rfl, hpb, -⟩ := HP.out (by rw [HL.out]; omega)
       have HPr : Hid (RB wr w.heap.size (some ⟨pb, po, none⟩) p) := HP.out.below (BX.out wr HB.out).2.2.1
       obtain ⟨X, hX⟩ : ∃ X, (lst p).toNat = X := ⟨_, rfl⟩
       have hX2 : X < 256 := by rw [← hX]; exact UInt8.toNat_lt _
       have cx := HPr.out.cell_ l1 (by rw [HL.out]; omega)
       have hl2 : p.getD l1 0 = lst p := by unfold lst; rw [HL.out, show L - 1 = l1 by omega]
       rw [hl2, hX] at cx
       have gx := HG.out.cell X hX2
       have fx := HG.out.frozen X
       obtain ⟨y, hy⟩ : ∃ y, dbl (wB b p) 256 X = y := ⟨_, rfl⟩
       rw [hy] at gx
       have hyr : 0 ≤ y ∧ y ≤ 5000 := by
        have := wB_rng b p X
        rw [HL.out] at this
        rw [← hy]; unfold dbl; rw [if_pos hX2]
        have := L0.out
        omega
       have HG1 : Hid (GN (wr.setCell ⟨s, X, none⟩ (.int .i64 (y + 1))) s (s1 b p)) := (HG.out.set X (y + 1)).congr (fun v hv => s1_some b p (by rw [HL.out]; omega) X hX v hv y hy)
       have hl1n : l1 < L := by omega
       clear hX hy hl2 hL0
       go_wp2_with fail
       go_meet
       exact ⟨rfl, HB.out.setCell (nl _) _, HG1⟩
    case rest =>
     obtain ⟨rfl, HB1, HG1⟩ := hcut
     clear HG HB
     obtain ⟨w9, hw9⟩ : ∃ w9, wc = w9 := ⟨_, rfl⟩
     rw [hw9] at HB1 HG1 ⊢
     clear hw9
     have c0 := (BX.out w9 HB1.out).1
     have c2 := (BX.out w9 HB1.out).2.1
     go_upto_if 35 with fail
     go_cut [7] from 36 to 49 (fun s7 wx => s7 = .int .i64 L ∧ Hid (Below s w5 wx) ∧ Hid (GN wx s (sc b p)))
     case first =>
      by_cases hk : b.k = 3
      · have hkz : ((b.k : Int) == 3) = true := by rw [hk]; rfl
        have hkz2 : (b.k : Int) = 3 := by omega
        have htb : 1 ≤ n ∧ n ≤ 1000 := by have := hok; unfold Kd.ok at this; have h0 := HN.out; omega
        obtain ⟨ta, tq, rfl, hta, -⟩ := HT.out (by rw [HN.out]; omega)
        have HTr : Hid (RB w9 w.heap.size (some ⟨ta, tq, none⟩) b.tb) := HT.out.below (BX.out w9 HB1.out).2.2.1
        obtain ⟨r, hr⟩ : ∃ r : Nat, (L : Int).tmod (n : Int) = r := ⟨L % n, by rw [Int.tmod_eq_emod_of_nonneg (by omega)]; rfl⟩
        have hrn : r = L % n := by rw [Int.tmod_eq_emod_of_nonneg (by omega)] at hr; exact_mod_cast hr.symm
        have hrlt : r < n := by rw [hrn]; exact Nat.mod_lt _ (by omega)
        obtain ⟨X, hX⟩ : ∃ X, (drw b p).toNat = X := ⟨_, rfl⟩
        have hX2 : X < 256 := by rw [← hX]; exact UInt8.toNat_lt _
        have cx := HTr.out.cell_ r (by rw [HN.out]; exact hrlt)
        have hl2 : b.tb.getD r 0 = drw b p := by unfold drw; rw [HN.out, HL.out, hrn]
        rw [hl2, hX] at cx
        have gx := HG1.out.cell X hX2
        have fx := HG1.out.frozen X
        obtain ⟨y, hy⟩ : ∃ y, s1 b p X = y := ⟨_, rfl⟩
        rw [hy] at gx
        have hyr : 0 ≤ y ∧ y ≤ 5000 := by
         have := s1_rng b p X
         rw [HL.out, hy] at this
         have := L0.out
         omega
        have HG2 : Hid (GN (w9.setCell ⟨s, X, none⟩ (.int .i64 (y + 2))).drew s (sc b p)) := by
         have := HG1.out.set X (y + 2)
         rw [sc_drawn b p hk X hX y hy] at this
         exact this
        have hn0 : ((n : Int) == 0) = false := by simp; omega
        have hn1 : ¬ (n : Int) = 0 := by omega
        clear hX hy hl2 hrn hk
        go_wp2_with fail
        go_big_region
        all_goals go_wp2_with fail
        all_goals go_meet
        all_goals exact ⟨rfl, (HB1.out.setCell (nl _) _).drew, HG2⟩
      · have hkz : ((b.k : Int) == 3) = false := by simp; omega
        have HG2 : Hid (GN w9 s (sc b p)) := by rw [sc_other b p hk]; exact HG1
        clear hk
        go_wp2_with fail
        go_meet
        exact ⟨rfl, HB1, HG2⟩
     case rest =>
      obtain ⟨rfl, HB2, HG2⟩ := hcut
      have G5 := HG2.out
      have G4 := (BX.out wc HB2.out).2.2.2
      have HBf := qh (BX.out wc HB2.out).2.2.1
      clear c0 c2 HB1 HG1
      go_wp2_with (first
       | (with_reducible refine wpList_load_n rfl (.tmp 5) rfl s (by with_unfolding_all rfl) (sc b p) G5 ?_)
       | (with_reducible refine wpList_store_n rfl (.tmp 4) (.tmp 50) rfl (w.heap.size + 1) (by with_unfolding_all rfl) z256 (sc b p) G4 (by with_unfolding_all rfl) ?_; intro w8 G8 S8 R8))
      exact bodyPost_ret (results_n rfl G8 rfl) rfl ⟨rfl, HBf.out.grown R8 HBf.out.size (fun k e => by cases e; omega)⟩
def BestN (S : Nat → Int) (b n : Nat) : Prop := b < 256 ∧ (b < n ∨ b = 0) ∧ (∀ j, j < b → S j < S b) ∧ ∀ j, j < n → S j ≤ S b
set_option maxHeartbeats 2000000 in
theorem pfirst_any (b : Kd) (A : Option Addr) (n c : Nat) (P : Option Addr) (p : List UInt8) (L pc : Nat) (w : World) (hok : b.ok) (hn : b.tb.length = n) (hnc : n ≤ c) (hcm : c ≤ maxLen) (ht : RB w w.heap.size A b.tb) (hL : p.length = L) (hc : L ≤ pc) (hm : pc ≤ maxLen) (hp : RB w w.heap.size P p) (hl : L ≤ 2000) :
 Calls Tryz.prog 171 #[byV b.k b.o A n c, .slice P L pc] w fun e w' => e = .returned (.int .u8 ((nxt b p).toNat : Int)) ∧ Below w.heap.size w w' := by
 have hz := zeroN
 obtain ⟨w2, hw2⟩ : ∃ w2, w.alloc (.cells #[.int .i64 b.k, .int .i64 b.o, .slice A n c] 146) = w2 := ⟨_, rfl⟩
 have b2 : Below w.heap.size w w2 := by rw [← hw2]; exact (bR _ _).alloc (nl _) _
 have s2 : w2.heap.size = w.heap.size + 1 := by rw [← hw2]; simp
 have HE := qh (scores_any b A n c P p L pc w2 hok hn hnc hcm (RB.more (ht.below b2) (by rw [s2]; omega)) hL hc hm (RB.more (hp.below b2) (by rw [s2]; omega)) hl)
 have HW := qh hw2
 rw [← HW.out] at HE
 have B2 := qh b2; have S2 := qh s2
 obtain ⟨S, hS⟩ : ∃ S, sc b p = S := ⟨_, rfl⟩
 have hnx : nxt b p = hd S := by unfold nxt; rw [hS]
 rw [hnx]
 rw [hS] at HE
 clear hw2 b2 s2 hp ht hL hn hcm hm hnx hS
 unfold byV byA at HE ⊢
 go_enter Tryz.func171, Tryz.ntmps171
 go_wp2_with fail
 (with_reducible refine HE.out.mono ?_)
 rintro e w5 ⟨rfl, hb5⟩
 rw [HW.out] at hb5
 have g6 : GN (w5.alloc (.cells (aN z256) 203)) w5.heap.size z256 := GN.new w5 z256
 have HB5 : Hid (Below w.heap.size w w5) := B2.out.trans (hb5.mono (by rw [S2.out]; omega))
 clear hb5 HE
 go_wp2_with (first
  | (with_reducible refine wpList_store_n rfl (.tmp 5) (.tmp 11) rfl w5.heap.size (by with_unfolding_all rfl) z256 S g6 (by with_unfolding_all rfl) ?_; intro w7 G7 S7 R7)
  | (with_reducible refine wpList_load_n rfl (.tmp 5) rfl w5.heap.size (by with_unfolding_all rfl) S G7 ?_))
 have HB7 : Hid (Below w.heap.size w w7) := (HB5.out.alloc HB5.out.size (.cells (aN z256) 203)).grown R7 (by have := HB5.out.size; simp; omega) (fun k e => by cases e; exact HB5.out.size)
 obtain ⟨s, hs⟩ : ∃ s, w5.heap.size = s := ⟨_, rfl⟩
 rw [hs] at G7 ⊢
 clear hz g6 HB5 hs S7 R7
 have HG := qh G7
 go_loopw [6, 13] (fun u v wr => ∃ k i : Nat, u = .int .i64 k ∧ v = .int .i64 i ∧ i ≤ 256 ∧ Hid (BestN S k i) ∧ w7 = wr) (fun _ v _ => 256 - (intOf v).toNat)
 case atStart => exact ⟨0, 0, rfl, rfl, by omega, ⟨by omega, .inr rfl, fun j h => by omega, fun j h => by omega⟩, rfl⟩
 case round =>
  obtain ⟨k, i, rfl, rfl, hi, HBe, rfl⟩ := hrel
  by_cases hlt : i < 256
  · have hltz : (i : Int) < 256 := by omega
    have hk1 : k < 256 := HBe.out.1
    obtain ⟨x, hx⟩ : ∃ x, S i = x := ⟨_, rfl⟩
    obtain ⟨y, hy⟩ : ∃ y, S k = y := ⟨_, rfl⟩
    have ci := index_n S i hlt
    rw [hx] at ci
    have ck := HG.out.cell k hk1
    rw [hy] at ck
    have hcs := HBe.out
    unfold BestN at hcs
    by_cases hxy : y < x
    · have HN : Hid (BestN S i (i + 1)) := by
       refine ⟨hlt, .inl (by omega), fun j hj => ?_, fun j hj => ?_⟩
       · have := hcs.2.2.2 j hj; omega
       · by_cases e : j = i
         · rw [e]; omega
         · have := hcs.2.2.2 j (by omega); omega
      clear hx hy hcs
      go_wp2_with fail
      exact ⟨⟨i, i + 1, rfl, by go_num, by omega, HN, trivial⟩, by simp [intOf]; omega⟩
    · have HN : Hid (BestN S k (i + 1)) := by
       refine ⟨hk1, by omega, hcs.2.2.1, fun j hj => ?_⟩
       by_cases e : j = i
       · rw [e]; omega
       · exact hcs.2.2.2 j (by omega)
      clear hx hy hcs
      go_wp2_with fail
      exact ⟨⟨k, i + 1, rfl, by go_num, by omega, HN, trivial⟩, by simp [intOf]; omega⟩
  · obtain rfl : i = 256 := by omega
    have hkb := HBe.out
    have hk1 : k < 256 := hkb.1
    have hh : hd S = UInt8.ofNat k := best_hd ⟨hkb.1, hkb.2.2.1, hkb.2.2.2⟩
    have HH : Hid ((hd S).toNat = k) := by unfold Hid; rw [hh, UInt8.toNat_ofNat']; omega
    clear hkb hh
    go_wp2_with fail
    go_ret
    exact ⟨by rw [HH.out]; rfl, HB7.out⟩
end Go.Proofs.YtpnobpligchpiaaGreatDoor
