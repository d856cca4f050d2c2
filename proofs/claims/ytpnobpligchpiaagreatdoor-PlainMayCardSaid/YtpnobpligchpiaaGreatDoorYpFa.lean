/- texts of YpFa -/
import Derived.BigQuiet
import Derived.BigRegion
import Derived.Deep.CutBlock
import Derived.Deep.CutRange
import Derived.Deep.MidRow
import Derived.Deep.WholeRow
import Derived.Laws.CopyOwn
import Derived.Laws.ResultCell
import Derived.Test.YtpnobpligchpiaaGreatDoorYpK
namespace Go.Proofs.YtpnobpligchpiaaGreatDoor
set_option linter.unusedVariables false
def ah (S : Nat → Int) (x y : UInt8) : Prop := S y.toNat < S x.toNat ∨ (S x.toNat = S y.toNat ∧ x.toNat < y.toNat)
theorem ah_irr {S : Nat → Int} {x : UInt8} (h : ah S x x) : False := by unfold ah at h; omega
theorem ah_asymm {S : Nat → Int} {x y : UInt8} (h : ah S x y) (h2 : ah S y x) : False := by unfold ah at h h2; omega
theorem ah_trans {S : Nat → Int} {x y z : UInt8} (h : ah S x y) (h2 : ah S y z) : ah S x z := by unfold ah at h h2 ⊢; omega
def Srt (S : Nat → Int) (f : Nat → UInt8) (a b : Nat) : Prop := ∀ i j, a ≤ i → i < j → j < b → ah S (f i) (f j)
def Sub (f g : Nat → UInt8) (a b : Nat) : Prop := ∀ i, a ≤ i → i < b → ∃ j, a ≤ j ∧ j < b ∧ g j = f i
def Out (f g : Nat → UInt8) (a b : Nat) : Prop := ∀ i, (i < a ∨ b ≤ i) → g i = f i
structure Mg (S : Nat → Int) (a b : Nat) (f g : Nat → UInt8) : Prop where
 srt : Srt S g a b
 sub : Sub f g a b
 bus : Sub g f a b
 out : Out f g a b
def Tie (S : Nat → Int) (f : Nat → UInt8) (a m b : Nat) : Prop := ∀ i j, a ≤ i → i < m → m ≤ j → j < b → S (f i).toNat = S (f j).toNat → (f i).toNat < (f j).toNat
def rot (a m b : Nat) (f : Nat → UInt8) : Nat → UInt8 := fun k => if a ≤ k ∧ k < a + (b - m) then f (m + (k - a)) else if a + (b - m) ≤ k ∧ k < b then f (k - (b - m)) else f k
def swp (a b n : Nat) (f : Nat → UInt8) : Nat → UInt8 := fun k => if a ≤ k ∧ k < a + n then f (k - a + b) else if b ≤ k ∧ k < b + n then f (k - b + a) else f k
def updF (f : Nat → UInt8) (k : Nat) (v : UInt8) : Nat → UInt8 := fun j => if j = k then v else f j
theorem swp_zero (a b : Nat) (f : Nat → UInt8) : swp a b 0 f = f := by
 funext k; unfold swp; rw [if_neg (by omega), if_neg (by omega)]
theorem swp_step (a b i n : Nat) (f : Nat → UInt8) (h : a + n ≤ b) (hi : i < n) : updF (updF (swp a b i f) (a + i) (swp a b i f (b + i))) (b + i) (swp a b i f (a + i)) = swp a b (i + 1) f := by
 have e1 : swp a b i f (b + i) = f (b + i) := by unfold swp; rw [if_neg (by omega), if_neg (by omega)]
 have e2 : swp a b i f (a + i) = f (a + i) := by unfold swp; rw [if_neg (by omega), if_neg (by omega)]
 rw [e1, e2]
 funext k; unfold updF swp
 grind
theorem rot_more (a m b j : Nat) (f : Nat → UInt8) (hj : b = m + j) (h : a + j < m) : rot a m b f = rot (a + j) m b (swp a m j f) := by
 subst hj
 funext k; unfold rot swp
 grind
theorem rot_less (a m b i : Nat) (f : Nat → UInt8) (hi : m = a + i) (h : m + i < b) : rot a m b f = rot a m (b - i) (swp a (b - i) i f) := by
 subst hi
 obtain ⟨d, rfl⟩ : ∃ d, b = a + i + i + d := ⟨b - (a + i + i), by omega⟩
 have e1 : a + i + i + d - (a + i) = i + d := by omega
 have e2 : a + i + i + d - i - (a + i) = d := by omega
 have e3 : a + i + i + d - i = a + i + d := by omega
 funext k; unfold rot swp
 rw [e1, e2, e3]
 grind
theorem rot_even (a m b i : Nat) (f : Nat → UInt8) (hi : m = a + i) (h : b = m + i) : rot a m b f = swp a m i f := by
 subst h hi
 funext k; unfold rot swp
 grind
theorem rot_none (a b : Nat) (f : Nat → UInt8) : rot a b b f = f := by
 funext k; unfold rot
 grind
theorem rot_none' (a b : Nat) (f : Nat → UInt8) : rot a a b f = f := by
 funext k; unfold rot
 grind
theorem rot_down (j i : Nat) (f G : Nat → UInt8) (h : j + 1 ≤ i) (hG : G = rot (j + 1) i (i + 1) f) : updF (updF G (j + 1) (G j)) j (G (j + 1)) = rot j i (i + 1) f := by
 subst hG
 have e : i + 1 - i = 1 := by omega
 funext k; unfold updF rot
 rw [e]
 grind
theorem rot_up (a k : Nat) (f G : Nat → UInt8) (h : a ≤ k) (hG : G = rot a (a + 1) (k + 1) f) : updF (updF G k (G (k + 1))) (k + 1) (G k) = rot a (a + 1) (k + 2) f := by
 subst hG
 have e : k + 1 - (a + 1) = k - a := by omega
 have e2 : k + 2 - (a + 1) = k - a + 1 := by omega
 funext i; unfold updF rot
 rw [e, e2]
 grind
theorem rot_out (a m b : Nat) (f : Nat → UInt8) (h1 : a ≤ m) (h2 : m ≤ b) : Out f (rot a m b f) a b := fun k hk => by
 unfold rot; rw [if_neg (by omega), if_neg (by omega)]
theorem rot_at1 (a m b k : Nat) (f : Nat → UInt8) (h0 : a ≤ k) (h : k < a + (b - m)) : rot a m b f k = f (m + (k - a)) := by
 unfold rot; rw [if_pos ⟨h0, h⟩]
theorem rot_at2 (a m b k : Nat) (f : Nat → UInt8) (h0 : a + (b - m) ≤ k) (h : k < b) : rot a m b f k = f (k - (b - m)) := by
 unfold rot; rw [if_neg (by omega), if_pos ⟨h0, h⟩]
theorem rot_from (a m b : Nat) (f : Nat → UInt8) (h1 : a ≤ m) (h2 : m ≤ b) (k : Nat) (hk : a ≤ k) (hb : k < b) : ∃ j, a ≤ j ∧ j < b ∧ rot a m b f k = f j := by
 by_cases h : k < a + (b - m)
 · exact ⟨_, by omega, by omega, rot_at1 a m b k f hk h⟩
 · exact ⟨_, by omega, by omega, rot_at2 a m b k f (by omega) hb⟩
theorem rot_to (a m b : Nat) (f : Nat → UInt8) (h1 : a ≤ m) (h2 : m ≤ b) (j : Nat) (hj : a ≤ j) (hb : j < b) : ∃ k, a ≤ k ∧ k < b ∧ rot a m b f k = f j := by
 by_cases h : j < m
 · exact ⟨j + (b - m), by omega, by omega, by rw [rot_at2 a m b _ f (by omega) (by omega)]; congr 1; omega⟩
 · exact ⟨a + (j - m), by omega, by omega, by rw [rot_at1 a m b _ f (by omega) (by omega)]; congr 1; omega⟩
theorem rot_sub (s m e a b : Nat) (f : Nat → UInt8) (h1 : s ≤ m) (h2 : m ≤ e) (ha : a ≤ s) (hb : e ≤ b) : Sub f (rot s m e f) a b := fun i hi hib => by
 by_cases h : s ≤ i ∧ i < e
 · obtain ⟨k, k1, k2, k3⟩ := rot_to s m e f h1 h2 i h.1 h.2
   exact ⟨k, by omega, by omega, k3⟩
 · exact ⟨i, hi, hib, rot_out s m e f h1 h2 i (by omega)⟩
theorem rot_bus (s m e a b : Nat) (f : Nat → UInt8) (h1 : s ≤ m) (h2 : m ≤ e) (ha : a ≤ s) (hb : e ≤ b) : Sub (rot s m e f) f a b := fun i hi hib => by
 by_cases h : s ≤ i ∧ i < e
 · obtain ⟨k, k1, k2, k3⟩ := rot_from s m e f h1 h2 i h.1 h.2
   exact ⟨k, by omega, by omega, k3.symm⟩
 · exact ⟨i, hi, hib, (rot_out s m e f h1 h2 i (by omega)).symm⟩
theorem rot_cases (s m e : Nat) (f : Nat → UInt8) (h1 : s ≤ m) (h2 : m ≤ e) (k : Nat) :
 (k < s ∧ rot s m e f k = f k) ∨ (s ≤ k ∧ k < s + (e - m) ∧ ∃ j, j = m + (k - s) ∧ rot s m e f k = f j) ∨ (s + (e - m) ≤ k ∧ k < e ∧ ∃ j, j = k - (e - m) ∧ rot s m e f k = f j) ∨ (e ≤ k ∧ rot s m e f k = f k) := by
 by_cases q1 : k < s
 · exact .inl ⟨q1, rot_out s m e f h1 h2 k (.inl q1)⟩
 by_cases q2 : k < s + (e - m)
 · exact .inr (.inl ⟨by omega, q2, _, rfl, rot_at1 s m e k f (by omega) q2⟩)
 by_cases q3 : k < e
 · exact .inr (.inr (.inl ⟨by omega, q3, _, rfl, rot_at2 s m e k f (by omega) q3⟩))
 · exact .inr (.inr (.inr ⟨by omega, rot_out s m e f h1 h2 k (by omega)⟩))
theorem rot_cross {S : Nat → Int} {f : Nat → UInt8} {a m b s e : Nat} (h1 : Srt S f a m) (h2 : Srt S f m b) (has : a ≤ s) (hsm : s ≤ m) (hme : m ≤ e) (heb : e ≤ b)
 (hx : ∀ x y, a ≤ x → x < s → e ≤ y → y < b → ah S (f x) (f y)) (hy : ∀ y x, m ≤ y → y < e → s ≤ x → x < m → ah S (f y) (f x)) :
 ∀ i j, a ≤ i → i < s + (e - m) → s + (e - m) ≤ j → j < b → ah S (rot s m e f i) (rot s m e f j) := fun i j ai im mj jb => by
 rcases rot_cases s m e f hsm hme i with ⟨p, q⟩ | ⟨p, p2, x, rfl, q⟩ | ⟨p, p2, x, rfl, q⟩ | ⟨p, q⟩
 · rw [q]
   rcases rot_cases s m e f hsm hme j with ⟨p, q⟩ | ⟨p, p2, x, rfl, q⟩ | ⟨p, p2, x, rfl, q⟩ | ⟨p, q⟩
   · omega
   · omega
   · rw [q]; exact h1 _ _ ai (by omega) (by omega)
   · rw [q]; exact hx _ _ ai (by omega) (by omega) jb
 · rw [q]
   rcases rot_cases s m e f hsm hme j with ⟨p, q⟩ | ⟨p, p2, x, rfl, q⟩ | ⟨p, p2, x, rfl, q⟩ | ⟨p, q⟩
   · omega
   · omega
   · rw [q]; exact hy _ _ (by omega) (by omega) (by omega) (by omega)
   · rw [q]; exact h2 _ _ (by omega) (by omega) (by omega)
 · omega
 · omega
theorem rot_srt {S : Nat → Int} {f : Nat → UInt8} {a m b s e : Nat} (h1 : Srt S f a m) (h2 : Srt S f m b) (has : a ≤ s) (hsm : s ≤ m) (hme : m ≤ e) (heb : e ≤ b)
 (hx : ∀ x y, a ≤ x → x < s → e ≤ y → y < b → ah S (f x) (f y)) (hy : ∀ y x, m ≤ y → y < e → s ≤ x → x < m → ah S (f y) (f x))
 (hl : ∀ x y, a ≤ x → x < s → m ≤ y → y < e → ah S (f x) (f y)) (hr : ∀ x y, s ≤ x → x < m → e ≤ y → y < b → ah S (f x) (f y)) :
 Srt S (rot s m e f) a b := fun i j ai ij jb => by
 by_cases c1 : i < s + (e - m) ∧ s + (e - m) ≤ j
 · exact rot_cross h1 h2 has hsm hme heb hx hy i j ai c1.1 c1.2 jb
 rcases rot_cases s m e f hsm hme i with ⟨p, q⟩ | ⟨p, p2, x, rfl, q⟩ | ⟨p, p2, x, rfl, q⟩ | ⟨p, q⟩
 · rw [q]
   rcases rot_cases s m e f hsm hme j with ⟨p, q⟩ | ⟨p, p2, x, rfl, q⟩ | ⟨p, p2, x, rfl, q⟩ | ⟨p, q⟩
   · rw [q]; exact h1 _ _ ai ij (by omega)
   · rw [q]; exact hl _ _ ai (by omega) (by omega) (by omega)
   · omega
   · omega
 · rw [q]
   rcases rot_cases s m e f hsm hme j with ⟨p, q⟩ | ⟨p, p2, x, rfl, q⟩ | ⟨p, p2, x, rfl, q⟩ | ⟨p, q⟩
   · omega
   · rw [q]; exact h2 _ _ (by omega) (by omega) (by omega)
   · omega
   · omega
 · rw [q]
   rcases rot_cases s m e f hsm hme j with ⟨p, q⟩ | ⟨p, p2, x, rfl, q⟩ | ⟨p, p2, x, rfl, q⟩ | ⟨p, q⟩
   · omega
   · omega
   · rw [q]; exact h1 _ _ (by omega) (by omega) (by omega)
   · rw [q]; exact hr _ _ (by omega) (by omega) (by omega) (by omega)
 · rw [q]
   rcases rot_cases s m e f hsm hme j with ⟨p, q⟩ | ⟨p, p2, x, rfl, q⟩ | ⟨p, p2, x, rfl, q⟩ | ⟨p, q⟩
   · omega
   · omega
   · omega
   · rw [q]; exact h2 _ _ (by omega) (by omega) (by omega)
theorem Mg.same {S : Nat → Int} {f : Nat → UInt8} {a b : Nat} (h : Srt S f a b) : Mg S a b f f := ⟨h, fun i h1 h2 => ⟨i, h1, h2, rfl⟩, fun i h1 h2 => ⟨i, h1, h2, rfl⟩, fun _ _ => rfl⟩
theorem Srt.congr {S : Nat → Int} {f g : Nat → UInt8} {a b : Nat} (h : Srt S f a b) (e : ∀ k, a ≤ k → k < b → g k = f k) : Srt S g a b := fun i j h1 h2 h3 => by
 rw [e i h1 (by omega), e j (by omega) h3]; exact h i j h1 h2 h3
theorem Srt.part {S : Nat → Int} {f : Nat → UInt8} {a b c d : Nat} (h : Srt S f a b) (h1 : a ≤ c) (h2 : d ≤ b) : Srt S f c d := fun i j q1 q2 q3 => h i j (by omega) q2 (by omega)
theorem Mg.both {S : Nat → Int} {f g g2 g3 : Nat → UInt8} {a c b : Nat} (hac : a ≤ c) (hcb : c ≤ b) (s1 : Sub f g a b) (s2 : Sub g f a b) (o : Out f g a b) (h2 : Mg S a c g g2) (h3 : Mg S c b g2 g3)
 (hx : ∀ i j, a ≤ i → i < c → c ≤ j → j < b → ah S (g i) (g j)) : Mg S a b f g3 := by
 have L : ∀ i, a ≤ i → i < c → g3 i = g2 i := fun i h1 h2 => h3.out i (.inl h2)
 have R : ∀ i, c ≤ i → i < b → g2 i = g i := fun i h1 h4 => h2.out i (.inr h1)
 refine ⟨fun i j ai ij jb => ?_, fun i ai ib => ?_, fun i ai ib => ?_, fun i hi => ?_⟩
 · by_cases hj : j < c
   · rw [L i ai (by omega), L j (by omega) hj]; exact h2.srt i j ai ij hj
   · by_cases hi : c ≤ i
     · exact h3.srt i j hi ij jb
     · rw [L i ai (by omega)]
       obtain ⟨i', q1, q2, q3⟩ := h2.bus i ai (by omega)
       obtain ⟨j', r1, r2, r3⟩ := h3.bus j (by omega) jb
       rw [← q3, ← r3, R j' r1 r2]
       exact hx i' j' q1 q2 r1 r2
 · obtain ⟨j, q1, q2, q3⟩ := s1 i ai ib
   by_cases hj : j < c
   · obtain ⟨k, r1, r2, r3⟩ := h2.sub j q1 hj
     exact ⟨k, r1, by omega, by rw [L k r1 r2, r3, q3]⟩
   · obtain ⟨k, r1, r2, r3⟩ := h3.sub j (by omega) q2
     exact ⟨k, by omega, r2, by rw [r3, R j (by omega) q2, q3]⟩
 · by_cases hj : i < c
   · obtain ⟨k, r1, r2, r3⟩ := h2.bus i ai hj
     obtain ⟨l, t1, t2, t3⟩ := s2 k r1 (by omega)
     exact ⟨l, t1, t2, by rw [t3, r3, L i ai hj]⟩
   · obtain ⟨k, r1, r2, r3⟩ := h3.bus i (by omega) ib
     obtain ⟨l, t1, t2, t3⟩ := s2 k (by omega) r2
     exact ⟨l, t1, t2, by rw [t3, ← R k r1 r2, r3]⟩
 · rw [h3.out i (by omega), h2.out i (by omega), o i hi]
theorem Mg.down {S : Nat → Int} {f : Nat → UInt8} {a m j : Nat} (h : Srt S f a m) (haj : a ≤ j) (hjm : j ≤ m) (hl : ∀ x, a ≤ x → x < j → ah S (f x) (f m)) (hr : ∀ x, j ≤ x → x < m → ah S (f m) (f x)) : Mg S a (m + 1) f (rot j m (m + 1) f) :=
 ⟨rot_srt (b := m + 1) h (fun i k h1 h2 h3 => by omega) haj hjm (by omega) (by omega) (fun x y _ _ _ _ => by omega) (fun y x h1 h2 h3 h4 => by (obtain rfl : y = m := by omega); exact hr x h3 h4)
   (fun x y h1 h2 h3 h4 => by (obtain rfl : y = m := by omega); exact hl x h1 h2) (fun x y _ _ _ _ => by omega),
  rot_sub j m (m + 1) a (m + 1) f hjm (by omega) haj (by omega), rot_bus j m (m + 1) a (m + 1) f hjm (by omega) haj (by omega),
  fun i hi => rot_out j m (m + 1) f hjm (by omega) i (by omega)⟩
theorem Mg.up {S : Nat → Int} {f : Nat → UInt8} {a b i : Nat} (h : Srt S f (a + 1) b) (hai : a + 1 ≤ i) (hib : i ≤ b) (hl : ∀ x, a + 1 ≤ x → x < i → ah S (f x) (f a)) (hr : ∀ x, i ≤ x → x < b → ah S (f a) (f x)) : Mg S a b f (rot a (a + 1) i f) :=
 ⟨rot_srt (m := a + 1) (b := b) (fun i k h1 h2 h3 => by omega) h (by omega) (by omega) hai hib (fun x y _ _ _ _ => by omega) (fun y x h1 h2 h3 h4 => by (obtain rfl : x = a := by omega); exact hl y h1 h2)
   (fun x y h1 h2 h3 h4 => by omega) (fun x y h1 h2 h3 h4 => by (obtain rfl : x = a := by omega); exact hr y h3 h4),
  rot_sub a (a + 1) i a b f (by omega) hai (by omega) hib, rot_bus a (a + 1) i a b f (by omega) hai (by omega) hib,
  fun k hk => rot_out a (a + 1) i f (by omega) hai k (by omega)⟩
theorem Mg.trans {S : Nat → Int} {f g h : Nat → UInt8} {a b c : Nat} (s1 : Sub f g a b) (s2 : Sub g f a b) (o : Out f g a b) (hbc : b ≤ c) (h2 : Mg S a c g h) : Mg S a c f h := by
 refine ⟨h2.srt, fun i ai ib => ?_, fun i ai ib => ?_, fun i hi => ?_⟩
 · by_cases hi : i < b
   · obtain ⟨j, q1, q2, q3⟩ := s1 i ai hi
     obtain ⟨k, r1, r2, r3⟩ := h2.sub j q1 (by omega)
     exact ⟨k, r1, r2, by rw [r3, q3]⟩
   · obtain ⟨k, r1, r2, r3⟩ := h2.sub i ai ib
     exact ⟨k, r1, r2, by rw [r3, o i (by omega)]⟩
 · obtain ⟨k, r1, r2, r3⟩ := h2.bus i ai ib
   by_cases hk : k < b
   · obtain ⟨l, t1, t2, t3⟩ := s2 k r1 hk
     exact ⟨l, t1, by omega, by rw [t3, r3]⟩
   · exact ⟨k, r1, r2, by rw [← r3, o k (by omega)]⟩
 · rw [h2.out i hi, o i (by omega)]
set_option maxRecDepth 100000
open Go.RowKit
set_option linter.unusedSimpArgs false
def nI (x : Int) : Value := .int .i64 x
def aL (S : Nat → Int) : List Value := (List.range 256).map fun i => nI (S i)
def aN (S : Nat → Int) : Array Value := (aL S).toArray
theorem aL_len (S : Nat → Int) : (aL S).length = 256 := by unfold aL; simp
theorem aN_size (S : Nat → Int) : (aN S).size = 256 := by unfold aN; simp [aL_len]
theorem aL_get (S : Nat → Int) (k : Nat) (hk : k < 256) : (aL S)[k]? = some (.int .i64 (S k)) := by
 unfold aL; simp [hk, nI]
theorem aN_get (S : Nat → Int) (k : Nat) (hk : k < 256) : (aN S)[k]? = some (.int .i64 (S k)) := by
 unfold aN; simpa using aL_get S k hk
theorem aN_one (S : Nat → Int) : (aN S).all (·.oneCell') = true := by
 unfold aN aL
 exact all_oneCell_toArray (fun v hv => by obtain ⟨x, _, rfl⟩ := List.mem_map.1 hv; rfl)
theorem aN_congr {S T : Nat → Int} (h : ∀ k, k < 256 → S k = T k) : aN S = aN T := by
 unfold aN aL
 congr 1
 exact List.map_congr_left (fun k hk => by rw [h k (List.mem_range.1 hk)])
def putS (S : Nat → Int) (k : Nat) (x : Int) : Nat → Int := fun j => if j = k then x else S j
def GN (w : World) (b : Nat) (S : Nat → Int) : Prop := w.heap[b]? = some (.cells (aN S) 203 (0, 0))
theorem GN.cell {w : World} {b : Nat} {S : Nat → Int} (h : GN w b S) (k : Nat) (hk : k < 256) : w.cell? ⟨b, k, none⟩ = some (.int .i64 (S k)) := by
 rw [cell_of_row w b k _ _ _ h, aN_get S k hk]
theorem GN.lt {w : World} {b : Nat} {S : Nat → Int} (h : GN w b S) : b < w.heap.size := (Array.getElem?_eq_some_iff.1 h).1
theorem GN.frozen {w : World} {b : Nat} {S : Nat → Int} (h : GN w b S) (k : Nat) : w.frozen? ⟨b, k, none⟩ = false := by
 unfold GN at h
 simp [World.frozen?, h]
theorem GN.new (w : World) (S : Nat → Int) : GN (w.alloc (.cells (aN S) 203)) w.heap.size S := heap_alloc_last w _
theorem GN.alloc {w : World} {b : Nat} {S : Nat → Int} (h : GN w b S) (o : Obj) : GN (w.alloc o) b S := (Below.heap_alloc w o b h.lt).trans h
theorem GN.below {w w' : World} {b B : Nat} {S : Nat → Int} (h : GN w b S) (hb : Below B w w') (hB : b < B) : GN w' b S := (hb.block b hB).trans h
theorem GN.then_ {w w' : World} {b : Nat} {S : Nat → Int} (h : GN w b S) (hb : Below w.heap.size w w') : GN w' b S := h.below hb h.lt
theorem GN.grown {w w' : World} {b : Nat} {row : Option Nat} {S : Nat → Int} (h : GN w b S) (hg : w.grownBy w' row) (hr : some b ≠ row) : GN w' b S := (hg.block b h.lt hr).trans h
theorem GN.other {w : World} {b : Nat} {S : Nat → Int} (h : GN w b S) (a : Addr) (v : Value) (hne : b ≠ a.block) : GN (w.setCell a v) b S := (Below.heap_setCell w a v b hne).trans h
theorem GN.drew {w : World} {b : Nat} {S : Nat → Int} (h : GN w b S) : GN w.drew b S := h
theorem GN.set {w : World} {b : Nat} {S : Nat → Int} (h : GN w b S) (k : Nat) (x : Int) : GN (w.setCell ⟨b, k, none⟩ (.int .i64 x)) b (putS S k x) := by
 unfold GN at *
 have hs : aN (putS S k x) = (aN S).setIfInBounds k (.int .i64 x) := by
  unfold aN aL
  apply Array.ext'
  simp only [Array.toList_setIfInBounds]
  apply List.ext_getElem
  · simp
  · intro i h1 h2
    rw [List.getElem_set]
    simp [putS, nI]
    by_cases e : k = i
    · simp [e]
    · simp [e, Ne.symm e]
 rw [hs]
 simp [World.setCell, Array.getElem?_modify, h]
theorem GN.range {w : World} {b : Nat} {S : Nat → Int} (h : GN w b S) : w.rangeAt b 0 (aL S) := fun j v hv => by
 rw [Nat.zero_add, cell_of_row w b j _ _ _ h]; unfold aN; simpa using hv
theorem arr_size : (Tryz.prog.info? 203).map (·.size) = some 256 := by kernel_rfl
theorem wpList_load_n {ops : Array Oper} {rest : List Oper} {op : Oper} {a : Act} {w : World} {Q : Exit → Act → World → Prop} (hgd : op.guard = none) (x : Operand) (ho : op.op = .load 203 x)
 (b : Nat) (hx : a.eval x = .pointer (some ⟨b, 0, none⟩)) (S : Nat → Int) (h : GN w b S)
 (hk : wpList Tryz.prog ops Q rest (a.put op.dst (.agg (aN S))) w) : wpList Tryz.prog ops Q (op :: rest) a w :=
 wpList_load_mid hgd 203 x ho b 0 hx (aL S) _ h.range Tryz.underlying203 rfl (by rw [arr_size, aL_len]) hk
theorem wpList_store_n {ops : Array Oper} {rest : List Oper} {op : Oper} {a : Act} {w : World} {Q : Exit → Act → World → Prop} (hgd : op.guard = none) (x y : Operand) (ho : op.op = .store 203 x y)
 (b : Nat) (hx : a.eval x = .pointer (some ⟨b, 0, none⟩)) (S T : Nat → Int) (h : GN w b S) (hy : a.eval y = .agg (aN T))
 (hk : ∀ w', GN w' b T → w'.heap.size = w.heap.size → w.grownBy w' (some b) → wpList Tryz.prog ops Q rest (a.put op.dst undef) w') : wpList Tryz.prog ops Q (op :: rest) a w := by
 refine wpList_plain hgd fun K hK => ?_
 have hrun := run_storeVar_row (P := Tryz.prog) w b 203 203 (aN S) (aN T) h (by rw [arr_size, aN_size]) (by rw [aN_size, aN_size]) (aN_one T)
 unfold Oper.wp execOp
 simp only [ho, hx, hy, Instr.storeAt, Instr.sureAddr, Sem.run_bind, Sem.run_pure, Result.andThen_ok, hrun]
 refine hK _ _ ?_
 refine hk _ ?_ ?_ ?_
 · exact setRow_heap w b _ _ 203 _ h
 · simp [World.setRow]
 · exact ⟨rfl, rfl, rfl, by simp [World.setRow], fun k hk hne => setRow_other w b k _ (fun e => hne (by rw [e]))⟩
theorem index_n (S : Nat → Int) (k : Nat) (hk : k < 256) (w : World) : (Instr.index 203 (.agg (aN S)) (.int .i64 (k : Int))).run Tryz.prog w = .ok (.int .i64 (S k)) w := by
 have hsz : (sizeOf 3).run Tryz.prog w = .ok 1 w := by
  have hq : (Tryz.prog.info? 3).map (·.size) = some 1 := by kernel_rfl
  cases hq2 : Tryz.prog.info? 3 with
  | none => simp [hq2] at hq
  | some i =>
    have : i.size = 1 := by simpa [hq2] using hq
    simp [sizeOf, typeInfo, hq2, this]
 have hagg : (isAgg 3).run Tryz.prog w = .ok false w := by
  unfold isAgg
  rw [Sem.run_bind, run_underlying Tryz.underlying3 w]
  rfl
 simp [Instr.index, asIntOf, run_underlying Tryz.underlying203, hk, hsz, part, hagg, aN_get S k hk]
theorem results_n {fn : Func} {p : Tmp} (h : fn.results = #[.cell p 203]) {tmps : Array Value} {w : World} {b : Nat} {S : Nat → Int} (hg : GN w b S) (hp : tmps.getD p undef = .pointer (some ⟨b, 0, none⟩)) :
 (results fn tmps).run Tryz.prog w = .ok (.agg (aN S)) w :=
 results_cell_row h tmps w b 203 (aN S) (0, 0) _ hp hg Tryz.underlying203 rfl (by rw [arr_size, aN_size])
def rL (f : Nat → UInt8) : List UInt8 := (List.range 256).map f
theorem rL_len (f : Nat → UInt8) : (rL f).length = 256 := by unfold rL; simp
theorem rL_get? (f : Nat → UInt8) (k : Nat) (hk : k < 256) : (rL f)[k]? = some (f k) := by unfold rL; simp [hk]
theorem rL_get (f : Nat → UInt8) (k : Nat) (hk : k < (rL f).length) : (rL f)[k] = f k := by
 have h := rL_get? f k (by rw [rL_len] at hk; exact hk)
 rw [List.getElem?_eq_getElem hk] at h
 exact Option.some.inj h
theorem rL_set (f : Nat → UInt8) (k : Nat) (v : UInt8) : rL (updF f k v) = (rL f).set k v := by
 apply List.ext_getElem
 · simp [rL_len]
 · intro i h1 h2
   rw [List.getElem_set, rL_get, rL_get]
   unfold updF
   by_cases e : k = i
   · simp [e]
   · simp [e, Ne.symm e]
def sV (g : Nat) : Value := .slice (some ⟨g, 0, none⟩) 256 256
def OF (w : World) (g : Nat) (f : Nat → UInt8) : Prop := OB w g (sV g) (rL f)
theorem OF.cell {w : World} {g : Nat} {f : Nat → UInt8} (h : OF w g f) (k : Nat) (hk : k < 256) : w.cell? ⟨g, k, none⟩ = some (.int .u8 ((f k).toNat : Int)) := by
 have := OB.cell_at (w := w) h (rL_len f) k (by rw [rL_len]; exact hk)
 rw [rL_get] at this
 exact this
theorem OF.frozen {w : World} {g : Nat} {f : Nat → UInt8} (h : OF w g f) (k : Nat) : w.frozen? ⟨g, k, none⟩ = false := OB.frozen_at (w := w) h (rL_len f) k
theorem OF.lt {w : World} {g : Nat} {f : Nat → UInt8} (h : OF w g f) : g < w.heap.size := cell_lt (h.cell 0 (by omega))
theorem OF.set {w : World} {g : Nat} {f : Nat → UInt8} (h : OF w g f) (k : Nat) (y : UInt8) : OF (w.setCell ⟨g, k, none⟩ (.int .u8 (y.toNat : Int))) g (updF f k y) := by
 unfold OF at h ⊢
 rw [rL_set]
 exact OB.set (w := w) h (rL_len f) k y
theorem OF.drew {w : World} {g : Nat} {f : Nat → UInt8} (h : OF w g f) : OF w.drew g f := OB.drew h
theorem OF.then_ {w w' : World} {g : Nat} {f : Nat → UInt8} (h : OF w g f) (hb : Below w.heap.size w w') : OF w' g f := OB.below h hb (nl _)
theorem fgrown_set (w : World) (g k : Nat) (v : Value) : w.grownBy (w.setCell ⟨g, k, none⟩ v) (some g) :=
 ⟨rfl, rfl, rfl, by simp [World.setCell], fun i hi hne => Below.heap_setCell w _ v i (fun e => hne (by rw [e]))⟩
theorem grown_trans_ {a b c : World} {r : Option Nat} (h : a.grownBy b r) (h2 : b.grownBy c r) : a.grownBy c r :=
 ⟨h2.os.trans h.os, h2.tape.trans h.tape, h2.output.trans h.output, Nat.le_trans h.size h2.size, fun i hi hne => (h2.block i (Nat.lt_of_lt_of_le hi h.size) hne).trans (h.block i hi hne)⟩
theorem fgrown_drew (w : World) (r : Option Nat) : w.grownBy w.drew r := ⟨rfl, rfl, rfl, nl _, fun _ _ _ => rfl⟩
structure SO (w0 w : World) (s g : Nat) (S : Nat → Int) (f : Nat → UInt8) : Prop where
 gn : GN w s S
 of : OF w g f
 ne : s ≠ g
 gr : w0.grownBy w (some g)
theorem SO.then_ {w0 w w' : World} {s g : Nat} {S : Nat → Int} {f : Nat → UInt8} (h : SO w0 w s g S f) (hb : Below w.heap.size w w') : SO w0 w' s g S f :=
 ⟨h.gn.then_ hb, h.of.then_ hb, h.ne, grown_trans_ h.gr (only_of_below hb _)⟩
theorem SO.swap {w0 w : World} {s g : Nat} {S : Nat → Int} {f : Nat → UInt8} (h : SO w0 w s g S f) (i j : Nat) (x y : UInt8) :
 SO w0 (((w.drew).setCell ⟨g, i, none⟩ (.int .u8 (x.toNat : Int))).setCell ⟨g, j, none⟩ (.int .u8 (y.toNat : Int))) s g S (updF (updF f i x) j y) :=
 ⟨(h.gn.drew.other _ _ h.ne).other _ _ h.ne, (h.of.drew.set i x).set j y, h.ne, grown_trans_ (grown_trans_ (grown_trans_ h.gr (fgrown_drew w _)) (fgrown_set _ g i _)) (fgrown_set _ g j _)⟩
theorem SO.again {w0 w w2 : World} {s g : Nat} {S : Nat → Int} {f f2 : Nat → UInt8} (h : SO w0 w s g S f) (h2 : SO w w2 s g S f2) : SO w0 w2 s g S f2 := ⟨h2.gn, h2.of, h2.ne, grown_trans_ h.gr h2.gr⟩
theorem SO.self {w0 w : World} {s g : Nat} {S : Nat → Int} {f : Nat → UInt8} (h : SO w0 w s g S f) : SO w w s g S f := ⟨h.gn, h.of, h.ne, ⟨rfl, rfl, rfl, nl _, fun _ _ _ => rfl⟩⟩
def cI (a b : Int) : Int := if a < b then -1 else if b < a then 1 else 0
theorem cI_neg (a b : Int) : (cI a b < 0) ↔ a < b := by unfold cI; split <;> (try split) <;> omega
set_option maxHeartbeats 1000000 in
theorem isnan_any (x : Int) (w : World) : Calls Tryz.prog 198 #[.int .i64 x] w fun e w' => e = .returned (.bool false) ∧ w = w' := by
 go_enter Tryz.func198, Tryz.ntmps198
 go_wp2_with fail
 go_ret
 exact ⟨by simp, rfl⟩
set_option maxHeartbeats 1000000 in
theorem compare_any (x y : Int) (w : World) : Calls Tryz.prog 187 #[.int .i64 x, .int .i64 y] w fun e w' => e = .returned (.int .i64 (cI x y)) ∧ w = w' := by
 have HX := qh (isnan_any x w)
 have HY := qh (isnan_any y w)
 rcases Int.lt_trichotomy x y with h | h | h
 · have hc : cI x y = -1 := by unfold cI; rw [if_pos h]
   rw [hc]
   go_enter Tryz.func187, Tryz.ntmps187
   go_wp2_with fail
   (with_reducible refine HX.out.mono ?_)
   rintro e w1 ⟨rfl, rfl⟩
   go_wp2_with fail
   (with_reducible refine HY.out.mono ?_)
   rintro e w2 ⟨rfl, rfl⟩
   go_wp2_with fail
   go_ret
   exact ⟨rfl, rfl⟩
 · have hc : cI x y = 0 := by unfold cI; rw [if_neg (by omega), if_neg (by omega)]
   subst h
   rw [hc]
   go_enter Tryz.func187, Tryz.ntmps187
   go_wp2_with fail
   (with_reducible refine HX.out.mono ?_)
   rintro e w1 ⟨rfl, rfl⟩
   go_wp2_with fail
   (with_reducible refine HY.out.mono ?_)
   rintro e w2 ⟨rfl, rfl⟩
   go_wp2_with fail
   go_ret
   exact ⟨rfl, rfl⟩
 · have hc : cI x y = 1 := by unfold cI; rw [if_neg (by omega), if_pos h]
   have h2 : ¬ x < y := by omega
   rw [hc]
   go_enter Tryz.func187, Tryz.ntmps187
   go_wp2_with fail
   (with_reducible refine HX.out.mono ?_)
   rintro e w1 ⟨rfl, rfl⟩
   go_wp2_with fail
   (with_reducible refine HY.out.mono ?_)
   rintro e w2 ⟨rfl, rfl⟩
   go_wp2_with fail
   go_ret
   exact ⟨rfl, rfl⟩
def cmpV (s : Nat) : Value := .func (.func 186) #[] #[.pointer (some ⟨s, 0, none⟩)]
theorem GN.drewN {w : World} {b : Nat} {S : Nat → Int} (h : GN w b S) (n : Nat) : GN (w.drewN n) b S := h
theorem OF.drewN {w : World} {g : Nat} {f : Nat → UInt8} (h : OF w g f) (n : Nat) : OF (w.drewN n) g f := h.then_ (below_drewN (bR _ _) n)
theorem SO.drewN {w0 w : World} {s g : Nat} {S : Nat → Int} {f : Nat → UInt8} (h : SO w0 w s g S f) (n : Nat) : SO w0 (w.drewN n) s g S f := h.then_ (below_drewN (bR _ _) n)
set_option maxHeartbeats 1000000 in
theorem less_any (x y : UInt8) (s : Nat) (S : Nat → Int) (w : World) (h : GN w s S) :
 Calls Tryz.prog 186 #[.int .u8 (x.toNat : Int), .int .u8 (y.toNat : Int), .pointer (some ⟨s, 0, none⟩)] w fun e w' => e = .returned (.int .i64 (cI (S y.toNat) (S x.toNat))) ∧ ∃ n, w' = w.drewN n := by
 have hx := x.toNat_lt
 have hy := y.toNat_lt
 obtain ⟨X, hX⟩ : ∃ X, x.toNat = X := ⟨_, rfl⟩
 obtain ⟨Y, hY⟩ : ∃ Y, y.toNat = Y := ⟨_, rfl⟩
 rw [hX] at hx ⊢
 rw [hY] at hy ⊢
 have cx := h.cell X hx
 have cy := h.cell Y hy
 have HC := qh (fun W => compare_any (S Y) (S X) W)
 clear h hX hY
 go_enter Tryz.func186, Tryz.ntmps186
 go_wp2_with fail
 go_quiet ((go_at_call 187; with_reducible exact same_left (HC.out _)))
 go_wp2_with fail
 go_ret
 exact ⟨rfl, _, rfl⟩
theorem less_q (x y : UInt8) (s : Nat) (S : Nat → Int) (w : World) (h : GN w s S) (n : Nat) :
 Calls Tryz.prog 186 #[.int .u8 (x.toNat : Int), .int .u8 (y.toNat : Int), .pointer (some ⟨s, 0, none⟩)] (w.drewN n) fun e w' => e = .returned (.int .i64 (cI (S y.toNat) (S x.toNat))) ∧ ∃ m, w' = w.drewN m :=
 (less_any x y s S (w.drewN n) (h.drewN n)).mono fun e w' ⟨he, m, hm⟩ => ⟨he, n + m, by rw [hm, World.drewN_drewN]⟩
set_option maxHeartbeats 1000000 in
theorem swap_any (w : World) (s g : Nat) (S : Nat → Int) (f : Nat → UInt8) (a b n : Nat) (h : SO w w s g S f) (h1 : a + n ≤ b) (h2 : b + n ≤ 256) :
 Calls Tryz.prog 219 #[sV g, .int .i64 a, .int .i64 b, .int .i64 n, cmpV s] w fun e w' => e = .returned (.tuple #[]) ∧ SO w w' s g S (swp a b n f) := by
 unfold sV cmpV
 have H0 := qh h
 clear h
 go_enter Tryz.func219, Tryz.ntmps219
 go_wp2_with fail
 go_loopw [10] (fun i wr => ∃ k : Nat, i = .int .i64 k ∧ k ≤ n ∧ Hid (SO w wr s g S (swp a b k f))) (fun i _ => n - (intOf i).toNat)
 case atStart => exact ⟨0, rfl, by omega, by unfold Hid; rw [swp_zero]; exact H0.out⟩
 case round =>
  obtain ⟨k, rfl, hk, HS⟩ := hrel
  by_cases hlt : k < n
  · have hkz : (k : Int) < (n : Int) := by omega
    obtain ⟨x, hx⟩ : ∃ x, swp a b k f (a + k) = x := ⟨_, rfl⟩
    obtain ⟨y, hy⟩ : ∃ y, swp a b k f (b + k) = y := ⟨_, rfl⟩
    have cx := HS.out.of.cell (a + k) (by omega)
    have cy := HS.out.of.cell (b + k) (by omega)
    rw [hx] at cx
    rw [hy] at cy
    have fx := HS.out.of.frozen (a + k)
    have fy := HS.out.of.frozen (b + k)
    obtain ⟨ak, hak⟩ : ∃ ak, a + k = ak := ⟨_, rfl⟩
    obtain ⟨bk, hbk⟩ : ∃ bk, b + k = bk := ⟨_, rfl⟩
    have ea : (a : Int) + (k : Int) = (ak : Int) := by omega
    have eb : (b : Int) + (k : Int) = (bk : Int) := by omega
    have la : ak < 256 := by omega
    have lb : bk < 256 := by omega
    have hne : ak ≠ bk := by omega
    rw [hak] at cx fx
    rw [hbk] at cy fy
    have HE : Hid (updF (updF (swp a b k f) ak y) bk x = swp a b (k + 1) f) := by
     unfold Hid; rw [← hak, ← hbk, ← hx, ← hy]; exact swp_step a b k n f h1 hlt
    have HN : Hid (SO w ((wr.setCell ⟨g, ak, none⟩ (.int .u8 (y.toNat : Int))).setCell ⟨g, bk, none⟩ (.int .u8 (x.toNat : Int))).drew s g S (swp a b (k + 1) f)) := by
     rw [← HE.out]; exact HS.out.swap ak bk y x
    clear HS HE hx hy hak hbk
    go_wp2_with fail
    go_big_region
    all_goals go_wp2_with fail
    all_goals exact ⟨⟨k + 1, by go_num, by omega, HN⟩, by simp [intOf]; omega⟩
  · obtain rfl : k = n := by omega
    go_wp2_with fail
    go_end0
    exact ⟨rfl, HS.out⟩
set_option maxHeartbeats 1000000 in
theorem rot_any (w : World) (s g : Nat) (S : Nat → Int) (f : Nat → UInt8) (a m b : Nat) (h : SO w w s g S f) (h1 : a < m) (h2 : m < b) (h3 : b ≤ 256) :
 Calls Tryz.prog 212 #[sV g, .int .i64 a, .int .i64 m, .int .i64 b, cmpV s] w fun e w' => e = .returned (.tuple #[]) ∧ SO w w' s g S (rot a m b f) := by
 have HW := qh swap_any
 unfold sV cmpV at HW ⊢
 have H0 := qh h
 clear h
 obtain ⟨i0, hi0⟩ : ∃ i0 : Nat, (m : Int) - (a : Int) = i0 := ⟨m - a, by omega⟩
 obtain ⟨j0, hj0⟩ : ∃ j0 : Nat, (b : Int) - (m : Int) = j0 := ⟨b - m, by omega⟩
 have EI : Hid (m = a + i0) := by unfold Hid; omega
 have EJ : Hid (b = m + j0) := by unfold Hid; omega
 go_enter Tryz.func212, Tryz.ntmps212
 go_wp2_with fail
 go_loopw [10, 11] (fun x y wr => ∃ i j : Nat, x = .int .i64 i ∧ y = .int .i64 j ∧ 0 < i ∧ 0 < j ∧ i ≤ i0 ∧ j ≤ j0 ∧ Hid (∃ F, SO w wr s g S F ∧ rot (m - i) m (m + j) F = rot a m b f)) (fun x y _ => (intOf x).toNat + (intOf y).toNat)
 case atStart =>
  have ei := EI.out
  have ej := EJ.out
  exact ⟨i0, j0, rfl, rfl, by omega, by omega, by omega, by omega, f, H0.out, by rw [show m - i0 = a by omega, ← ej]⟩
 case round =>
  obtain ⟨i, j, rfl, rfl, pi, pj, hi, hj, HF⟩ := hrel
  obtain ⟨F, hs, hf⟩ := HF.out
  clear HF
  have ei := EI.out
  have ej := EJ.out
  obtain ⟨p, hp⟩ : ∃ p : Nat, (m : Int) - (i : Int) = p := ⟨m - i, by omega⟩
  have ep : m - i = p := by omega
  rw [ep] at hf
  have EP : Hid (m = p + i) := by unfold Hid; omega
  clear ep
  rcases Nat.lt_trichotomy i j with hlt | rfl | hlt
  · have z1 : ¬ (i : Int) = (j : Int) := by omega
    have z2 : ¬ (j : Int) < (i : Int) := by omega
    obtain ⟨mj, hmj⟩ : ∃ q : Nat, (m : Int) + (j : Int) = q := ⟨m + j, by omega⟩
    obtain ⟨q, hq⟩ : ∃ q : Nat, (mj : Int) - (i : Int) = q := ⟨m + j - i, by omega⟩
    have hmj2 : mj ≤ 256 := by omega
    have HC := qh (HW.out wr s g S F p q i hs.self (by omega) (by omega))
    have HE : Hid (rot p m q (swp p q i F) = rot a m b f) := by
     unfold Hid
     rw [← hf, rot_less p m (m + j) i F (by omega) (by omega), show m + j - i = q by omega]
    have HS := qh hs
    clear hs hf HW ei ej
    go_wp2_with fail
    (with_reducible refine HC.out.mono ?_)
    rintro e w1 ⟨rfl, hs1⟩
    have HS1 := qh (HS.out.again hs1)
    clear hs1 HS HC
    go_wp2_with fail
    have ep := EP.out
    exact ⟨⟨i, j - i, rfl, by go_num, by omega, by omega, by omega, by omega, _, HS1.out, by rw [show m - i = p by omega, show m + (j - i) = q by omega]; exact HE.out⟩, by simp [intOf]; omega⟩
  · have HC := qh (HW.out wr s g S F p m i hs.self (by omega) (by omega))
    have HE : Hid (swp p m i F = rot a m b f) := by
     unfold Hid
     rw [← hf, rot_even p m (m + i) i F (by omega) rfl]
    have HS := qh hs
    clear hs hf HW ei ej
    go_wp2_with fail
    (with_reducible refine HC.out.mono ?_)
    rintro e w1 ⟨rfl, hs1⟩
    have HS1 := qh (HS.out.again hs1)
    clear hs1 HS HC
    go_wp2_with fail
    go_end0
    exact ⟨rfl, by rw [← HE.out]; exact HS1.out⟩
  · have z1 : ¬ (i : Int) = (j : Int) := by omega
    have z2 : (j : Int) < (i : Int) := by omega
    have HC := qh (HW.out wr s g S F p m j hs.self (by omega) (by omega))
    have HE : Hid (rot (p + j) m (m + j) (swp p m j F) = rot a m b f) := by
     unfold Hid
     rw [← hf, rot_more p m (m + j) j F rfl (by omega)]
    have HS := qh hs
    clear hs hf HW ei ej
    go_wp2_with fail
    (with_reducible refine HC.out.mono ?_)
    rintro e w1 ⟨rfl, hs1⟩
    have HS1 := qh (HS.out.again hs1)
    clear hs1 HS HC
    go_wp2_with fail
    have ep := EP.out
    exact ⟨⟨i - j, j, by go_num, rfl, by omega, by omega, by omega, by omega, _, HS1.out, by rw [show m - (i - j) = p + j by omega]; exact HE.out⟩, by simp [intOf]; omega⟩
def Ris (f : Nat → UInt8) (a b : Nat) : Prop := ∀ i j, a ≤ i → i < j → j < b → (f i).toNat < (f j).toNat
theorem ins_step {S : Nat → Int} {f F : Nat → UInt8} {a b i j : Nat} (hm : Mg S a i f F) (hr : Ris f a b) (hib : i < b) (haj : a ≤ j) (hji : j ≤ i) (hge : ∀ x, j ≤ x → x < i → S (F x).toNat < S (F i).toNat)
 (hst : j = a ∨ S (F i).toNat ≤ S (F (j - 1)).toNat) : Mg S a (i + 1) f (rot j i (i + 1) F) := by
 have lo : ∀ x, a ≤ x → x < i → (F x).toNat < (F i).toNat := fun x h1 h2 => by
  obtain ⟨y, q1, q2, q3⟩ := hm.bus x h1 h2
  rw [hm.out i (by omega), ← q3]
  exact hr y i q1 q2 hib
 refine Mg.trans hm.sub hm.bus hm.out (by omega) (Mg.down hm.srt haj hji (fun x h1 h2 => ?_) (fun x h1 h2 => .inl (hge x h1 h2)))
 rcases hst with rfl | hst
 · omega
 · have h0 : ah S (F (j - 1)) (F i) := by
    have := lo (j - 1) (by omega) (by omega)
    unfold ah; omega
   by_cases e : x = j - 1
   · rw [e]; exact h0
   · exact ah_trans (hm.srt x (j - 1) h1 (by omega) (by omega)) h0
set_option maxHeartbeats 1000000 in
theorem insert_any (w : World) (s g : Nat) (S : Nat → Int) (f : Nat → UInt8) (a b : Nat) (h : SO w w s g S f) (h1 : a < b) (h2 : b ≤ 256) (hr : Ris f a b) :
 Calls Tryz.prog 205 #[sV g, .int .i64 a, .int .i64 b, cmpV s] w fun e w' => e = .returned (.tuple #[]) ∧ ∃ F, SO w w' s g S F ∧ Mg S a b f F := by
 unfold sV cmpV
 have H0 := qh h
 have HR := qh hr
 clear h hr
 go_enter Tryz.func205, Tryz.ntmps205
 go_wp2_with fail
 go_loopw [8] (fun v wr => ∃ i : Nat, v = .int .i64 i ∧ a < i ∧ i ≤ b ∧ Hid (∃ F, SO w wr s g S F ∧ Mg S a i f F)) (fun v _ => b - (intOf v).toNat)
 case atStart => exact ⟨a + 1, by go_num, by omega, by omega, f, H0.out, Mg.same (fun i j h1 h2 h3 => by omega)⟩
 case round =>
  obtain ⟨i, rfl, hai, hib, HF⟩ := hrel
  obtain ⟨F, hs, hm⟩ := HF.out
  have HM := qh hm
  have HS := qh hs
  clear HF hs hm
  by_cases hlt : i < b
  · have hltz : (i : Int) < (b : Int) := by omega
    go_wp2_with fail
    go_loopw [9] (fun v wr2 => ∃ j : Nat, v = .int .i64 j ∧ a ≤ j ∧ j ≤ i ∧ Hid (SO w wr2 s g S (rot j i (i + 1) F)) ∧ Hid (∀ x, j ≤ x → x < i → S (F x).toNat < S (F i).toNat)) (fun v _ => (intOf v).toNat)
    case atStart => exact ⟨i, rfl, by omega, by omega, by rw [rot_none']; exact HS, fun x h1 h2 => by omega⟩
    case round =>
     obtain ⟨q, rfl, haj, hji, HG, HX⟩ := hrel
     -- out of the inner loop
     have OUT : Hid ((q = a ∨ S (F i).toNat ≤ S (F (q - 1)).toNat) → Mg S a (i + 1) f (rot q i (i + 1) F)) := fun h => ins_step HM.out HR.out hlt haj hji HX.out h
     by_cases hja : a < q
     · obtain ⟨p, hq⟩ : ∃ p, q = p + 1 := ⟨q - 1, by omega⟩
       have hjaz : (a : Int) < (q : Int) := by omega
       have ep : (q : Int) - 1 = (p : Int) := by omega
       obtain ⟨x, hx⟩ : ∃ x, F i = x := ⟨_, rfl⟩
       obtain ⟨y, hy⟩ : ∃ y, F p = y := ⟨_, rfl⟩
       have ex : rot q i (i + 1) F q = x := by rw [rot_at1 _ _ _ _ _ (nl _) (by omega), ← hx]; congr 1; omega
       have ey : rot q i (i + 1) F p = y := by rw [rot_out q i (i + 1) F (by omega) (by omega) p (.inl (by omega)), hy]
       have q1 : q < 256 := by omega
       have p1 : p < 256 := by omega
       have hne : q ≠ p := by omega
       have cx := HG.out.of.cell q q1
       have cy := HG.out.of.cell p p1
       rw [ex] at cx
       rw [ey] at cy
       have fx := HG.out.of.frozen q
       have fy := HG.out.of.frozen p
       obtain ⟨c, hc⟩ : ∃ c, cI (S y.toNat) (S x.toNat) = c := ⟨_, rfl⟩
       have HL : Hid (∀ n, Calls Tryz.prog 186 #[.int .u8 (x.toNat : Int), .int .u8 (y.toNat : Int), .pointer (some ⟨s, 0, none⟩)] (wr.drewN n) fun e w' => e = .returned (.int .i64 c) ∧ ∃ m, w' = wr.drewN m) := by
        rw [← hc]; exact less_q x y s S wr HG.out.gn
       have hcn := cI_neg (S y.toNat) (S x.toNat)
       rw [hc] at hcn
       by_cases hl : c < 0
       · -- less: the exchange
         have HD : Hid (∀ n, SO w (((wr.drewN n).setCell ⟨g, q, none⟩ (.int .u8 (y.toNat : Int))).setCell ⟨g, p, none⟩ (.int .u8 (x.toNat : Int))).drew s g S (rot p i (i + 1) F)) := fun n => by
          have e := rot_down p i F (rot q i (i + 1) F) (by omega) (by rw [hq])
          rw [← hq, ex, ey] at e
          rw [← e]
          exact (HG.out.drewN n).swap q p y x
         have HX2 : Hid (∀ z, p ≤ z → z < i → S (F z).toNat < S (F i).toNat) := fun z h3 h4 => by
          by_cases e : z = p
          · rw [e, hx, hy]; exact hcn.1 hl
          · exact HX.out z (by omega) h4
         have HQ := qh hq
         clear HX HG hq hx hy ex ey hc hcn OUT
         go_wp2_with fail
         go_quiet ((go_at_call 186; with_reducible exact HL.out _))
         go_wp2_with fail
         obtain ⟨w5, hw5⟩ : ∃ w5, wr.drewN nq = w5 := ⟨_, rfl⟩
         have HD2 := qh (HD.out nq)
         have cx2 : (wr.drewN nq).cell? ⟨g, q, none⟩ = some (.int .u8 (x.toNat : Int)) := cx
         have cy2 : (wr.drewN nq).cell? ⟨g, p, none⟩ = some (.int .u8 (y.toNat : Int)) := cy
         have fx2 : (wr.drewN nq).frozen? ⟨g, q, none⟩ = false := fx
         have fy2 : (wr.drewN nq).frozen? ⟨g, p, none⟩ = false := fy
         rw [hw5] at HD2 cx2 cy2 fx2 fy2 ⊢
         clear cx cy fx fy HD HL hw5
         go_big_region
         all_goals go_wp2_with fail
         all_goals exact ⟨⟨p, by go_num, by have := HQ.out; omega, by have := HQ.out; omega, HD2, HX2⟩, by have := HQ.out; simp [intOf]; omega⟩
       · have HM2 : Hid (Mg S a (i + 1) f (rot q i (i + 1) F)) := OUT.out (.inr (by rw [hx, show q - 1 = p by omega, hy]; have := fun h => hl (hcn.2 h); omega))
         have HG2 := qh (fun n => HG.out.drewN n)
         clear HX HG hq hx hy ex ey hc hcn OUT
         go_wp2_with fail
         go_quiet ((go_at_call 186; with_reducible exact HL.out _))
         go_wp2_with fail
         exact ⟨⟨i + 1, by go_num, by omega, by omega, _, HG2.out nq, HM2.out⟩, by simp [intOf]; omega⟩
     · have HM2 : Hid (Mg S a (i + 1) f (rot q i (i + 1) F)) := OUT.out (.inl (by omega))
       have hjaz : ¬ (a : Int) < (q : Int) := by omega
       have HG2 : Hid (SO w wr.drew s g S (rot q i (i + 1) F)) := HG.out.drewN 1
       clear HX HG OUT
       go_wp2_with fail
       go_big_region
       all_goals go_wp2_with fail
       all_goals exact ⟨⟨i + 1, by go_num, by omega, by omega, _, HG2.out, HM2.out⟩, by simp [intOf]; omega⟩
  · obtain rfl : i = b := by omega
    have hltz : ¬ (i : Int) < (i : Int) := by omega
    go_wp2_with fail
    go_end0
    exact ⟨rfl, F, HS.out, HM.out⟩
theorem ah_le {S : Nat → Int} {x y : UInt8} (h : ah S x y) : S y.toNat ≤ S x.toNat := by unfold ah at h; omega
set_option maxHeartbeats 1000000 in
theorem sym_up (w : World) (s g : Nat) (S : Nat → Int) (f : Nat → UInt8) (a m b : Nat) (h : SO w w s g S f) (h1 : m = a + 1) (h2 : m < b) (h3 : b ≤ 256) (hs2 : Srt S f m b) (ht : Tie S f a m b) :
 Calls Tryz.prog 206 #[sV g, .int .i64 a, .int .i64 m, .int .i64 b, cmpV s] w fun e w' => e = .returned (.tuple #[]) ∧ ∃ F, SO w w' s g S F ∧ Mg S a b f F := by
 unfold sV cmpV
 have H0 := qh h
 have H1 := qh h1
 have H2 := qh hs2
 have HT := qh ht
 have e1 : (m : Int) - (a : Int) = 1 := by omega
 have a1 : a < 256 := by omega
 obtain ⟨x, hx⟩ : ∃ x, f a = x := ⟨_, rfl⟩
 clear h h1 hs2 ht
 go_enter Tryz.func206, Tryz.ntmps206
 go_wp2_with fail
 go_loopw [10, 11] (fun u v wr => ∃ i j : Nat, u = .int .i64 i ∧ v = .int .i64 j ∧ m ≤ i ∧ i ≤ j ∧ j ≤ b ∧ Hid (SO w wr s g S f) ∧ Hid (∀ z, m ≤ z → z < i → S (f a).toNat < S (f z).toNat) ∧ Hid (∀ z, j ≤ z → z < b → S (f z).toNat ≤ S (f a).toNat)) (fun u v _ => (intOf v).toNat - (intOf u).toNat)
 case atStart => exact ⟨m, b, rfl, rfl, by omega, by omega, by omega, H0, fun z h4 h5 => by omega, fun z h4 h5 => by omega⟩
 case round =>
  obtain ⟨i, j, rfl, rfl, him, hij, hjb, HG, HX, HY⟩ := hrel
  by_cases hlt : i < j
  · have hltz : (i : Int) < (j : Int) := by omega
    obtain ⟨q, hq⟩ : ∃ q : Nat, (i : Int) + (j : Int) = q := ⟨i + j, by omega⟩
    obtain ⟨t, ht⟩ : ∃ t : Nat, (q : Int) / 2 = t := ⟨q / 2, by omega⟩
    have hq2 : q < 512 := by omega
    have t1 : t < 256 := by omega
    have hit : i ≤ t := by omega
    have htj : t < j := by omega
    obtain ⟨y, hy⟩ : ∃ y, f t = y := ⟨_, rfl⟩
    have cx := HG.out.of.cell a a1
    have cy := HG.out.of.cell t t1
    rw [hx] at cx
    rw [hy] at cy
    obtain ⟨c, hc⟩ : ∃ c, cI (S x.toNat) (S y.toNat) = c := ⟨_, rfl⟩
    have HL : Hid (∀ n, Calls Tryz.prog 186 #[.int .u8 (y.toNat : Int), .int .u8 (x.toNat : Int), .pointer (some ⟨s, 0, none⟩)] (wr.drewN n) fun e w' => e = .returned (.int .i64 c) ∧ ∃ m, w' = wr.drewN m) := by
     rw [← hc]; exact less_q y x s S wr HG.out.gn
    have hcn := cI_neg (S x.toNat) (S y.toNat)
    rw [hc] at hcn
    have HG2 := qh (fun n => HG.out.drewN n)
    have HIT := qh hit
    by_cases hl : c < 0
    · have HX2 : Hid (∀ z, m ≤ z → z < t + 1 → S (f a).toNat < S (f z).toNat) := fun z h4 h5 => by
       have h0 : S (f a).toNat < S (f t).toNat := by rw [hx, hy]; exact hcn.1 hl
       by_cases e : z = t
       · rw [e]; exact h0
       · have := ah_le (H2.out z t h4 (by omega) (by omega)); omega
      clear HX HG hx hy hc hcn hit
      go_wp2_with fail
      go_quiet ((go_at_call 186; with_reducible exact HL.out _))
      go_wp2_with fail
      have := HIT.out
      exact ⟨⟨t + 1, j, by go_num, rfl, by omega, by omega, by omega, HG2.out nq, HX2, HY⟩, by simp [intOf]; omega⟩
    · have HY2 : Hid (∀ z, t ≤ z → z < b → S (f z).toNat ≤ S (f a).toNat) := fun z h4 h5 => by
       have h0 : S (f t).toNat ≤ S (f a).toNat := by rw [hx, hy]; have := fun h => hl (hcn.2 h); omega
       by_cases e : z = t
       · rw [e]; exact h0
       · have := ah_le (H2.out t z (by omega) (by omega) (by omega)); omega
      clear HY HG hx hy hc hcn hit
      go_wp2_with fail
      go_quiet ((go_at_call 186; with_reducible exact HL.out _))
      go_wp2_with fail
      have := HIT.out
      exact ⟨⟨i, t, rfl, rfl, by omega, by omega, by omega, HG2.out nq, HX, HY2⟩, by simp [intOf]; omega⟩
  · obtain rfl : i = j := by omega
    have hltz : ¬ (i : Int) < (i : Int) := by omega
    obtain ⟨i1, hi1⟩ : ∃ i1 : Nat, (i : Int) - 1 = i1 := ⟨i - 1, by have := H1.out; omega⟩
    have HI : Hid (i = i1 + 1) := by unfold Hid; have := H1.out; omega
    have hfin : Hid (Mg S a b f (rot a (a + 1) i f)) := by
     have hm := H1.out
     refine Mg.up (by rw [← hm]; exact H2.out) (by omega) hjb (fun z h4 h5 => .inl (HX.out z (by omega) h5)) (fun z h4 h5 => ?_)
     have h6 := HY.out z h4 h5
     have h7 := HT.out a z (nl _) (by omega) (by omega) h5
     unfold ah; omega
    clear HX HY
    go_wp2_with fail
    go_loopw [13] (fun v wr => ∃ k : Nat, v = .int .i64 k ∧ a ≤ k ∧ k ≤ i1 ∧ Hid (SO w wr s g S (rot a (a + 1) (k + 1) f))) (fun v _ => i1 - (intOf v).toNat)
    case atStart => exact ⟨a, rfl, nl _, by have := H1.out; have := HI.out; omega, by rw [rot_none]; exact HG⟩
    case round =>
     clear HG
     obtain ⟨k, rfl, hak, hki, HG⟩ := hrel
     by_cases hlt : k < i1
     · have hkz : (k : Int) < (i1 : Int) := by omega
       obtain ⟨F, hF⟩ : ∃ F, F = rot a (a + 1) (k + 1) f := ⟨_, rfl⟩
       rw [← hF] at HG
       obtain ⟨k1, hk1⟩ : ∃ k1 : Nat, (k : Int) + 1 = k1 := ⟨k + 1, by omega⟩
       have HK : Hid (k1 = k + 1) := by unfold Hid; omega
       obtain ⟨y, hy⟩ : ∃ y, F k = y := ⟨_, rfl⟩
       obtain ⟨z, hz⟩ : ∃ z, F k1 = z := ⟨_, rfl⟩
       have k2 : k < 256 := by have := HI.out; omega
       have k3 : k1 < 256 := by have := HI.out; omega
       have hne : k ≠ k1 := by omega
       have cx := HG.out.of.cell k k2
       have cy := HG.out.of.cell k1 k3
       rw [hy] at cx
       rw [hz] at cy
       have fx := HG.out.of.frozen k
       have fy := HG.out.of.frozen k1
       have HD : Hid (SO w ((wr.setCell ⟨g, k, none⟩ (.int .u8 (z.toNat : Int))).setCell ⟨g, k1, none⟩ (.int .u8 (y.toNat : Int))).drew s g S (rot a (a + 1) (k + 2) f)) := by
        have e := rot_up a k f F hak hF
        rw [show k + 1 = k1 by omega, hy, hz] at e
        unfold Hid
        rw [← e]
        exact HG.out.swap k k1 z y
       clear HG hF hy hz
       go_wp2_with fail
       go_big_region
       all_goals go_wp2_with fail
       all_goals have := HK.out
       all_goals exact ⟨⟨k + 1, by go_num, by omega, by omega, HD⟩, by simp [intOf]; omega⟩
     · obtain rfl : k = i1 := by omega
       have hkz : ¬ (k : Int) < (k : Int) := by omega
       go_wp2_with fail
       ((try simp only [Exit.inBlock, Exit.then]); refine bodyPost_ret (results_none rfl _ _ _) rfl ?_)
       exact ⟨rfl, _, by have e := HI.out; rw [← e] at HG; exact HG.out, hfin.out⟩
set_option maxHeartbeats 1000000 in
theorem sym_down (w : World) (s g : Nat) (S : Nat → Int) (f : Nat → UInt8) (a m b : Nat) (h : SO w w s g S f) (h0 : a + 1 < m) (h1 : b = m + 1) (h3 : b ≤ 256) (hs1 : Srt S f a m) (ht : Tie S f a m b) :
 Calls Tryz.prog 206 #[sV g, .int .i64 a, .int .i64 m, .int .i64 b, cmpV s] w fun e w' => e = .returned (.tuple #[]) ∧ ∃ F, SO w w' s g S F ∧ Mg S a b f F := by
 unfold sV cmpV
 have H0 := qh h
 have H1 := qh h1
 have H2 := qh hs1
 have HT := qh ht
 obtain ⟨d, hd⟩ : ∃ d : Nat, (m : Int) - (a : Int) = d := ⟨m - a, by omega⟩
 have e0 : ((d : Int) == 1) = false := by simp; omega
 have e1 : (b : Int) - (m : Int) = 1 := by omega
 have m1 : m < 256 := by omega
 obtain ⟨x, hx⟩ : ∃ x, f m = x := ⟨_, rfl⟩
 clear h h1 hs1 ht
 go_enter Tryz.func206, Tryz.ntmps206
 go_wp2_with fail
 go_loopw [14, 15] (fun u v wr => ∃ i j : Nat, u = .int .i64 i ∧ v = .int .i64 j ∧ a ≤ i ∧ i ≤ j ∧ j ≤ m ∧ Hid (SO w wr s g S f) ∧ Hid (∀ z, a ≤ z → z < i → S (f m).toNat ≤ S (f z).toNat) ∧ Hid (∀ z, j ≤ z → z < m → S (f z).toNat < S (f m).toNat)) (fun u v _ => (intOf v).toNat - (intOf u).toNat)
 case atStart => exact ⟨a, m, rfl, rfl, by omega, by omega, by omega, H0, fun z h4 h5 => by omega, fun z h4 h5 => by omega⟩
 case round =>
  obtain ⟨i, j, rfl, rfl, him, hij, hjb, HG, HX, HY⟩ := hrel
  by_cases hlt : i < j
  · have hltz : (i : Int) < (j : Int) := by omega
    obtain ⟨q, hq⟩ : ∃ q : Nat, (i : Int) + (j : Int) = q := ⟨i + j, by omega⟩
    obtain ⟨t, ht⟩ : ∃ t : Nat, (q : Int) / 2 = t := ⟨q / 2, by omega⟩
    have hq2 : q < 512 := by omega
    have t1 : t < 256 := by omega
    have hit : i ≤ t := by omega
    have htj : t < j := by omega
    obtain ⟨y, hy⟩ : ∃ y, f t = y := ⟨_, rfl⟩
    have cx := HG.out.of.cell m m1
    have cy := HG.out.of.cell t t1
    rw [hx] at cx
    rw [hy] at cy
    obtain ⟨c, hc⟩ : ∃ c, cI (S y.toNat) (S x.toNat) = c := ⟨_, rfl⟩
    have HL : Hid (∀ n, Calls Tryz.prog 186 #[.int .u8 (x.toNat : Int), .int .u8 (y.toNat : Int), .pointer (some ⟨s, 0, none⟩)] (wr.drewN n) fun e w' => e = .returned (.int .i64 c) ∧ ∃ m, w' = wr.drewN m) := by
     rw [← hc]; exact less_q x y s S wr HG.out.gn
    have hcn := cI_neg (S y.toNat) (S x.toNat)
    rw [hc] at hcn
    have HG2 := qh (fun n => HG.out.drewN n)
    have HIT := qh hit
    by_cases hl : c < 0
    · have HY2 : Hid (∀ z, t ≤ z → z < m → S (f z).toNat < S (f m).toNat) := fun z h4 h5 => by
       have h0 : S (f t).toNat < S (f m).toNat := by rw [hx, hy]; exact hcn.1 hl
       by_cases e : z = t
       · rw [e]; exact h0
       · have := ah_le (H2.out t z (by omega) (by omega) h5); omega
      clear HY HG hx hy hc hcn hit
      go_wp2_with fail
      go_quiet ((go_at_call 186; with_reducible exact HL.out _))
      go_wp2_with fail
      have := HIT.out
      exact ⟨⟨i, t, rfl, rfl, by omega, by omega, by omega, HG2.out nq, HX, HY2⟩, by simp [intOf]; omega⟩
    · have HX2 : Hid (∀ z, a ≤ z → z < t + 1 → S (f m).toNat ≤ S (f z).toNat) := fun z h4 h5 => by
       have h0 : S (f m).toNat ≤ S (f t).toNat := by rw [hx, hy]; have := fun h => hl (hcn.2 h); omega
       by_cases e : z = t
       · rw [e]; exact h0
       · have := ah_le (H2.out z t h4 (by omega) (by omega)); omega
      clear HX HG hx hy hc hcn hit
      have hl2 : decide (c < 0) = false := decide_eq_false hl
      have hl3 : (0 ≤ c) := by omega
      go_wp2_with fail
      go_quiet ((go_at_call 186; with_reducible exact HL.out _))
      go_wp2_with fail
      have := HIT.out
      exact ⟨⟨t + 1, j, by go_num, rfl, by omega, by omega, by omega, HG2.out nq, HX2, HY⟩, by simp [intOf]; omega⟩
  · obtain rfl : i = j := by omega
    have hltz : ¬ (i : Int) < (i : Int) := by omega
    have hfin : Hid (Mg S a b f (rot i m (m + 1) f)) := by
     have hm := H1.out
     rw [hm]
     refine Mg.down H2.out him hjb (fun z h4 h5 => ?_) (fun z h4 h5 => .inl (HY.out z h4 h5))
     have h6 := HX.out z h4 h5
     have h7 := HT.out z m h4 (by omega) (nl _) (by omega)
     unfold ah; omega
    clear HX HY
    go_wp2_with fail
    go_loopw [17] (fun v wr => ∃ k : Nat, v = .int .i64 k ∧ i ≤ k ∧ k ≤ m ∧ Hid (SO w wr s g S (rot k m (m + 1) f))) (fun v _ => (intOf v).toNat)
    case atStart => exact ⟨m, rfl, by omega, nl _, by rw [rot_none']; exact HG⟩
    case round =>
     clear HG
     obtain ⟨k, rfl, hak, hki, HG⟩ := hrel
     by_cases hlt : i < k
     · have hkz : (i : Int) < (k : Int) := by omega
       obtain ⟨F, hF⟩ : ∃ F, F = rot k m (m + 1) f := ⟨_, rfl⟩
       rw [← hF] at HG
       obtain ⟨k1, hk1⟩ : ∃ k1 : Nat, (k : Int) - 1 = k1 := ⟨k - 1, by omega⟩
       have HK : Hid (k = k1 + 1) := by unfold Hid; omega
       obtain ⟨y, hy⟩ : ∃ y, F k = y := ⟨_, rfl⟩
       obtain ⟨z, hz⟩ : ∃ z, F k1 = z := ⟨_, rfl⟩
       have k2 : k < 256 := by omega
       have k3 : k1 < 256 := by omega
       have hne : k ≠ k1 := by omega
       have cx := HG.out.of.cell k k2
       have cy := HG.out.of.cell k1 k3
       rw [hy] at cx
       rw [hz] at cy
       have fx := HG.out.of.frozen k
       have fy := HG.out.of.frozen k1
       have HD : Hid (SO w ((wr.setCell ⟨g, k, none⟩ (.int .u8 (z.toNat : Int))).setCell ⟨g, k1, none⟩ (.int .u8 (y.toNat : Int))).drew s g S (rot k1 m (m + 1) f)) := by
        have e := rot_down k1 m f F (by omega) (by rw [hF, HK.out])
        rw [← HK.out, hy, hz] at e
        unfold Hid
        rw [← e]
        exact HG.out.swap k k1 z y
       clear HG hF hy hz
       go_wp2_with fail
       go_big_region
       all_goals go_wp2_with fail
       all_goals have := HK.out
       all_goals exact ⟨⟨k1, by go_num, by omega, by omega, HD⟩, by simp [intOf]; omega⟩
     · obtain rfl : i = k := by omega
       have hkz : ¬ (i : Int) < (i : Int) := by omega
       go_wp2_with fail
       ((try simp only [Exit.inBlock, Exit.then]); refine bodyPost_ret (results_none rfl _ _ _) rfl ?_)
       exact ⟨rfl, _, HG.out, hfin.out⟩
def Lim (a m b mid n lo hi : Nat) : Prop := (mid < m ∧ lo + b = n ∧ hi = mid) ∨ (m ≤ mid ∧ lo = a ∧ hi = m)
def Sch (S : Nat → Int) (f : Nat → UInt8) (n lo hi st r : Nat) : Prop := (lo < st → S (f (n - st)).toNat ≤ S (f (st - 1)).toNat) ∧ (r < hi → S (f r).toNat < S (f (n - 1 - r)).toNat)
structure Fnd (S : Nat → Int) (f : Nat → UInt8) (a m b mid st e : Nat) : Prop where
 h1 : a ≤ st
 h2 : st ≤ m
 h3 : m ≤ e
 h4 : e ≤ b
 h5 : st + (e - m) = mid
 hx : ∀ x y, a ≤ x → x < st → e ≤ y → y < b → ah S (f x) (f y)
 hy : ∀ y x, m ≤ y → y < e → st ≤ x → x < m → ah S (f y) (f x)
theorem sch_end {S : Nat → Int} {f : Nat → UInt8} {a m b mid n lo hi st e : Nat} (ham : a < m) (hmb : m < b) (hmid : mid = (a + b) / 2) (hn : n = mid + m) (hl : Lim a m b mid n lo hi) (h0 : lo ≤ st) (h1 : st ≤ hi) (he : e = n - st)
 (hs1 : Srt S f a m) (hs2 : Srt S f m b) (ht : Tie S f a m b) (hs : Sch S f n lo hi st st) : Fnd S f a m b mid st e := by
 have b1 : a ≤ st := by unfold Lim at hl; omega
 have b2 : st ≤ m := by unfold Lim at hl; omega
 have b3 : m ≤ e := by unfold Lim at hl; omega
 have b4 : e ≤ b := by unfold Lim at hl; omega
 refine ⟨b1, b2, b3, b4, by omega, fun x y q1 q2 q3 q4 => ?_, fun y x q1 q2 q3 q4 => ?_⟩
 · have hlo : lo < st := by unfold Lim at hl; omega
   have hk := hs.1 hlo
   rw [← he] at hk
   have h7 := ht (st - 1) e (by omega) (by omega) b3 (by omega)
   have h8 : ah S (f (st - 1)) (f e) := by unfold ah; omega
   have h9 : ah S (f x) (f e) := by
    by_cases c : x = st - 1
    · rw [c]; exact h8
    · exact ah_trans (hs1 x (st - 1) q1 (by omega) (by omega)) h8
   by_cases c : y = e
   · rw [c]; exact h9
   · exact ah_trans h9 (hs2 e y b3 (by omega) q4)
 · have hhi : st < hi := by unfold Lim at hl; omega
   have hk := hs.2 hhi
   rw [show n - 1 - st = e - 1 by omega] at hk
   have h8 : ah S (f (e - 1)) (f st) := .inl hk
   have h9 : ah S (f y) (f st) := by
    by_cases c : y = e - 1
    · rw [c]; exact h8
    · exact ah_trans (hs2 y (e - 1) q1 (by omega) (by omega)) h8
   by_cases c : x = st
   · rw [c]; exact h9
   · exact ah_trans h9 (hs1 st x b1 (by omega) q4)
structure Hlv (S : Nat → Int) (f g : Nat → UInt8) (a m b mid st e : Nat) : Prop where
 sub : Sub f g a b
 bus : Sub g f a b
 out : Out f g a b
 l1 : Srt S g a st
 l2 : Srt S g st mid
 lt : Tie S g a st mid
 r1 : Srt S g mid e
 r2 : Srt S g e b
 rt : Tie S g mid e b
 cr : ∀ i j, a ≤ i → i < mid → mid ≤ j → j < b → ah S (g i) (g j)
theorem fnd_hlv {S : Nat → Int} {f : Nat → UInt8} {a m b mid st e : Nat} (h : Fnd S f a m b mid st e) (hs1 : Srt S f a m) (hs2 : Srt S f m b) (ht : Tie S f a m b) : Hlv S f (rot st m e f) a m b mid st e := by
 obtain ⟨h1, h2, h3, h4, h5, hx, hy⟩ := h
 have L1 : ∀ k, k < st → rot st m e f k = f k := fun k hk => rot_out st m e f h2 h3 k (.inl hk)
 have L2 : ∀ k, st ≤ k → k < mid → rot st m e f k = f (m + (k - st)) := fun k hk h => rot_at1 st m e k f hk (by omega)
 have R1 : ∀ k, mid ≤ k → k < e → rot st m e f k = f (k - (e - m)) := fun k hk h => rot_at2 st m e k f (by omega) h
 have R2 : ∀ k, e ≤ k → rot st m e f k = f k := fun k hk => rot_out st m e f h2 h3 k (.inr hk)
 refine ⟨rot_sub st m e a b f h2 h3 h1 h4, rot_bus st m e a b f h2 h3 h1 h4, fun k hk => rot_out st m e f h2 h3 k (by omega), ?_, ?_, ?_, ?_, ?_, ?_, ?_⟩
 · intro i j q1 q2 q3; rw [L1 i (by omega), L1 j q3]; exact hs1 i j q1 q2 (by omega)
 · intro i j q1 q2 q3; rw [L2 i q1 (by omega), L2 j (by omega) q3]; exact hs2 _ _ (by omega) (by omega) (by omega)
 · intro i j q1 q2 q3 q4; rw [L1 i q2, L2 j q3 q4]; exact ht _ _ q1 (by omega) (by omega) (by omega)
 · intro i j q1 q2 q3; rw [R1 i q1 (by omega), R1 j (by omega) q3]; exact hs1 _ _ (by omega) (by omega) (by omega)
 · intro i j q1 q2 q3; rw [R2 i q1, R2 j (by omega)]; exact hs2 i j (by omega) q2 q3
 · intro i j q1 q2 q3 q4; rw [R1 i q1 q2, R2 j q3]; exact ht _ _ (by omega) (by omega) (by omega) q4
 · rw [← h5]; exact rot_cross hs1 hs2 h1 h2 h3 h4 hx hy
theorem Tie.congr {S : Nat → Int} {f g : Nat → UInt8} {a m b : Nat} (h : Tie S f a m b) (e : ∀ k, a ≤ k → k < b → g k = f k) (h1 : a ≤ m) (h2 : m ≤ b) : Tie S g a m b := fun i j q1 q2 q3 q4 => by
 rw [e i q1 (by omega), e j (by omega) q4]; exact h i j q1 q2 q3 q4
set_option maxHeartbeats 2000000 in
theorem sym_any : ∀ (N : Nat) (w : World) (s g : Nat) (S : Nat → Int) (f : Nat → UInt8) (a m b : Nat), b - a ≤ N → SO w w s g S f → a < m → m < b → b ≤ 256 → Srt S f a m → Srt S f m b → Tie S f a m b →
 Calls Tryz.prog 206 #[sV g, .int .i64 a, .int .i64 m, .int .i64 b, cmpV s] w fun e w' => e = .returned (.tuple #[]) ∧ ∃ F, SO w w' s g S F ∧ Mg S a b f F := by
 intro N
 induction N with
 | zero => intro w s g S f a m b hN hs ham hmb hb h1 h2 ht; omega
 | succ N ih =>
 intro w s g S f a m b hN hs ham hmb hb h1 h2 ht
 by_cases c1 : m = a + 1
 · exact sym_up w s g S f a m b hs c1 hmb hb h2 ht
 by_cases c2 : b = m + 1
 · exact sym_down w s g S f a m b hs (by omega) c2 hb h1 ht
 have HI := qh (fun w f a m b => ih w s g S f a m b)
 clear ih
 have HR := qh rot_any
 unfold sV cmpV at HI HR ⊢
 have H0 := qh hs
 have H1 := qh h1
 have H2 := qh h2
 have HT := qh ht
 have HN := qh hN
 obtain ⟨d, hd⟩ : ∃ d : Nat, (m : Int) - (a : Int) = d := ⟨m - a, by omega⟩
 have e0 : ((d : Int) == 1) = false := by simp; omega
 obtain ⟨d2, hd2⟩ : ∃ d : Nat, (b : Int) - (m : Int) = d := ⟨b - m, by omega⟩
 have e1 : ((d2 : Int) == 1) = false := by simp; omega
 obtain ⟨q, hq⟩ : ∃ q : Nat, (a : Int) + (b : Int) = q := ⟨a + b, by omega⟩
 obtain ⟨mid, hmid⟩ : ∃ t : Nat, (q : Int) / 2 = t := ⟨q / 2, by omega⟩
 obtain ⟨n, hn⟩ : ∃ t : Nat, (mid : Int) + (m : Int) = t := ⟨mid + m, by omega⟩
 have q1 : q < 512 := by omega
 have n1 : n < 512 := by omega
 have n0 : 0 < n := by omega
 have mid1 : mid < 256 := by omega
 have HM : Hid (mid = (a + b) / 2 ∧ n = mid + m) := by unfold Hid; omega
 clear hs h1 h2 ht hN c1 c2
 go_enter Tryz.func206, Tryz.ntmps206
 go_upto_if 140 with fail
 go_cut [20, 21] from 138 to 146 (fun s20 s21 wx => ∃ lo hi : Nat, s20 = .int .i64 lo ∧ s21 = .int .i64 hi ∧ Hid (Lim a m b mid n lo hi) ∧ w = wx)
 case first =>
  by_cases hm : mid < m
  · have hmz : (mid : Int) < (m : Int) := by omega
    obtain ⟨l, hl⟩ : ∃ l : Nat, (n : Int) - (b : Int) = l := ⟨n - b, by have := HM.out; omega⟩
    go_wp2_with fail
    go_meet
    exact ⟨l, mid, rfl, rfl, .inl ⟨hm, by omega, rfl⟩, rfl⟩
  · have hmz : ¬ (mid : Int) < (m : Int) := by omega
    go_wp2_with fail
    go_meet
    exact ⟨a, m, rfl, rfl, .inr ⟨by omega, rfl, rfl⟩, rfl⟩
 case rest =>
  obtain ⟨lo, hi, rfl, rfl, HLim, rfl⟩ := hcut
  obtain ⟨p, hp⟩ : ∃ p : Nat, (n : Int) - 1 = p := ⟨n - 1, by omega⟩
  have HP : Hid (p + 1 = n) := by unfold Hid; omega
  have HB : Hid (lo ≤ hi ∧ hi < n ∧ hi ≤ 256 ∧ hi ≤ m ∧ n ≤ b + lo) := by have := HM.out; have h := HLim.out; unfold Lim at h; unfold Hid; omega
  go_wp2_with fail
  go_loopw [20, 21] (fun u v wr => ∃ st r : Nat, u = .int .i64 st ∧ v = .int .i64 r ∧ lo ≤ st ∧ st ≤ r ∧ r ≤ hi ∧ Hid (SO w wr s g S f) ∧ Hid (Sch S f n lo hi st r)) (fun u v _ => (intOf v).toNat - (intOf u).toNat)
  case atStart => exact ⟨lo, hi, rfl, rfl, nl _, HB.out.1, nl _, H0, fun h => by omega, fun h => by omega⟩
  case round =>
   obtain ⟨st, r, rfl, rfl, hls, hsr, hrh, HG, HS⟩ := hrel
   have h256 : hi ≤ 256 := HB.out.2.2.1
   by_cases hlt : st < r
   · have hltz : (st : Int) < (r : Int) := by omega
     obtain ⟨q2, hq2⟩ : ∃ q : Nat, (st : Int) + (r : Int) = q := ⟨st + r, by omega⟩
     obtain ⟨t, ht⟩ : ∃ t : Nat, (q2 : Int) / 2 = t := ⟨q2 / 2, by omega⟩
     have hq3 : q2 < 512 := by omega
     have t1 : t < 256 := by omega
     have HIT : Hid (st ≤ t ∧ t < r) := by unfold Hid; omega
     have hst : st ≤ t := HIT.out.1
     have htr : t < r := HIT.out.2
     obtain ⟨pt, hpt⟩ : ∃ pt : Nat, (p : Int) - (t : Int) = pt := ⟨p - t, by have := HB.out; have := HP.out; omega⟩
     have pt1 : pt < 256 := by have := HB.out; have := HP.out; omega
     have HPT : Hid (pt = n - 1 - t) := by have := HP.out; unfold Hid; omega
     obtain ⟨x, hx⟩ : ∃ x, f pt = x := ⟨_, rfl⟩
     obtain ⟨y, hy⟩ : ∃ y, f t = y := ⟨_, rfl⟩
     have cx := HG.out.of.cell pt pt1
     have cy := HG.out.of.cell t t1
     rw [hx] at cx
     rw [hy] at cy
     obtain ⟨c, hc⟩ : ∃ c, cI (S y.toNat) (S x.toNat) = c := ⟨_, rfl⟩
     have HL : Hid (∀ n, Calls Tryz.prog 186 #[.int .u8 (x.toNat : Int), .int .u8 (y.toNat : Int), .pointer (some ⟨s, 0, none⟩)] (wr.drewN n) fun e w' => e = .returned (.int .i64 c) ∧ ∃ m, w' = wr.drewN m) := by
      rw [← hc]; exact less_q x y s S wr HG.out.gn
     have hcn := cI_neg (S y.toNat) (S x.toNat)
     rw [hc] at hcn
     have HG2 := qh (fun n => HG.out.drewN n)
     by_cases hl : c < 0
     · have HS2 : Hid (Sch S f n lo hi st t) := ⟨HS.out.1, fun _ => by rw [← HPT.out, hx, hy]; exact hcn.1 hl⟩
       clear HS HG hx hy hc hcn hst htr
       go_wp2_with fail
       go_quiet ((go_at_call 186; with_reducible exact HL.out _))
       go_wp2_with fail
       have := HIT.out
       exact ⟨⟨st, t, rfl, rfl, by omega, by omega, by omega, HG2.out nq, HS2⟩, by simp [intOf]; omega⟩
     · have HS2 : Hid (Sch S f n lo hi (t + 1) r) := ⟨fun _ => by
        rw [show n - (t + 1) = pt by rw [HPT.out]; omega, show t + 1 - 1 = t by omega, hx, hy]
        have := fun h => hl (hcn.2 h); omega, HS.out.2⟩
       clear HS HG hx hy hc hcn hst htr
       have hl2 : decide (c < 0) = false := decide_eq_false hl
       have hl3 : (0 ≤ c) := by omega
       go_wp2_with fail
       go_quiet ((go_at_call 186; with_reducible exact HL.out _))
       go_wp2_with fail
       have := HIT.out
       exact ⟨⟨t + 1, r, by go_num, rfl, by omega, by omega, by omega, HG2.out nq, HS2⟩, by simp [intOf]; omega⟩
   · obtain rfl : st = r := by omega
     have hltz : ¬ (st : Int) < (st : Int) := by omega
     obtain ⟨e, he⟩ : ∃ e : Nat, (n : Int) - (st : Int) = e := ⟨n - st, by have := HB.out; omega⟩
     have HF : Hid (Fnd S f a m b mid st e) := sch_end ham hmb HM.out.1 HM.out.2 HLim.out hls hrh (by have := HB.out; omega) H1.out H2.out HT.out HS.out
     have HH := qh (fnd_hlv HF.out H1.out H2.out HT.out)
     have hst1 : st ≤ 256 := by have := HF.out.h2; omega
     have he1 : e ≤ 256 := by have := HF.out.h4; omega
     have HMB : Hid (a < mid ∧ mid < b) := by have := HM.out; unfold Hid; omega
     obtain ⟨G, hG⟩ : ∃ G, rot st m e f = G := ⟨_, rfl⟩
     rw [hG] at HH
     have HGe := qh hG
     clear HS hls hsr hrh HLim HP HB hG
     obtain ⟨bb, hbb⟩ : ∃ bb, decide (st < m ∧ m < e) = bb := ⟨_, rfl⟩
     have HBB := qh hbb
     clear hbb
     go_upto_region 39 with fail
     go_cut [185] from 178 to 185 (fun s185 wx => s185 = .bool bb ∧ wr = wx)
     case first =>
      have hbb := HBB.out
      by_cases r1 : st < m
      · have z1 : (st : Int) < (m : Int) := by omega
        by_cases r2 : m < e
        · have z2 : (m : Int) < (e : Int) := by omega
          obtain rfl : bb = true := by rw [← hbb]; simp [r1, r2]
          clear hbb HBB
          go_wp2_with fail
          go_meet
          exact ⟨rfl, rfl⟩
        · have z2 : ¬ (m : Int) < (e : Int) := by omega
          obtain rfl : bb = false := by rw [← hbb]; simp [r2]
          clear hbb HBB
          go_wp2_with fail
          go_meet
          exact ⟨rfl, rfl⟩
      · have z1 : ¬ (st : Int) < (m : Int) := by omega
        obtain rfl : bb = false := by rw [← hbb]; simp [r1]
        clear hbb HBB
        go_wp2_with fail
        go_meet
        exact ⟨rfl, rfl⟩
     case rest =>
      obtain ⟨rfl, rfl⟩ := hcut
      have HY : Hid (bb = true → st < m ∧ m < e) := fun h => by have := HBB.out; rw [h] at this; simpa using this
      have HNo : Hid (bb = false → G = f) := fun h => by
       have h2 := HBB.out
       rw [h] at h2
       have h3 : ¬ (st < m ∧ m < e) := by simpa using h2
       rw [← HGe.out]
       by_cases r1 : st = m
       · rw [r1]; exact rot_none' m e f
       · rw [show e = m by have := HF.out.h3; have := HF.out.h2; omega]; exact rot_none st m f
      clear HBB
      go_upto_if 185 with fail
      go_cut [24] from 186 to 191 (fun s24 wx => s24 = .int .i64 e ∧ Hid (SO w wx s g S G))
      case first =>
       cases bb with
       | true =>
         have HC := qh (HR.out wr s g S f st m e HG.out.self (HY.out rfl).1 (HY.out rfl).2 he1)
         clear HY HNo
         go_wp2_with fail
         (with_reducible refine HC.out.mono ?_)
         rintro e w1 ⟨rfl, hs1⟩
         rw [HGe.out] at hs1
         go_wp2_with fail
         go_meet
         exact ⟨rfl, HG.out.again hs1⟩
       | false =>
         have HG9 : Hid (SO w wr s g S G) := by rw [HNo.out rfl]; exact HG
         clear HY HNo
         go_wp2_with fail
         go_meet
         exact ⟨rfl, HG9⟩
      case rest =>
       obtain ⟨rfl, HG2⟩ := hcut
       clear HG HY HNo HR
       obtain ⟨w2, hw2⟩ : ∃ w2, wc = w2 := ⟨_, rfl⟩
       rw [hw2] at HG2 ⊢
       clear hw2
       obtain ⟨b2, hb2⟩ : ∃ bb, decide (a < st ∧ st < mid) = bb := ⟨_, rfl⟩
       have HB2 := qh hb2
       clear hb2
       go_upto_region 41 with fail
       go_cut [199] from 192 to 199 (fun s199 wx => s199 = .bool b2 ∧ w2 = wx)
       case first =>
        have hbb := HB2.out
        by_cases r1 : a < st
        · have z1 : (a : Int) < (st : Int) := by omega
          by_cases r2 : st < mid
          · have z2 : (st : Int) < (mid : Int) := by omega
            obtain rfl : b2 = true := by rw [← hbb]; simp [r1, r2]
            clear hbb HB2
            go_wp2_with fail
            go_meet
            exact ⟨rfl, rfl⟩
          · have z2 : ¬ (st : Int) < (mid : Int) := by omega
            obtain rfl : b2 = false := by rw [← hbb]; simp [r2]
            clear hbb HB2
            go_wp2_with fail
            go_meet
            exact ⟨rfl, rfl⟩
        · have z1 : ¬ (a : Int) < (st : Int) := by omega
          obtain rfl : b2 = false := by rw [← hbb]; simp [r1]
          clear hbb HB2
          go_wp2_with fail
          go_meet
          exact ⟨rfl, rfl⟩
       case rest =>
        obtain ⟨rfl, rfl⟩ := hcut
        have HY : Hid (b2 = true → a < st ∧ st < mid) := fun h => by have := HB2.out; rw [h] at this; simpa using this
        have HNo : Hid (b2 = false → Srt S G a mid) := fun h => by
         have h2 := HB2.out
         rw [h] at h2
         have h3 : ¬ (a < st ∧ st < mid) := by simpa using h2
         by_cases r1 : st = a
         · rw [← r1]; exact HH.out.l2
         · have : st = mid := by have := HF.out.h1; have := HF.out.h5; omega
           rw [← this]; exact HH.out.l1
        clear HB2
        go_upto_if 199 with fail
        go_cut [24] from 200 to 205 (fun s24 wx => s24 = .int .i64 e ∧ Hid (∃ F2, SO w wx s g S F2 ∧ Mg S a mid G F2))
        case first =>
         cases b2 with
         | true =>
           have HC := qh (HI.out w2 G a st mid (by have := HN.out; have := HMB.out; omega) HG2.out.self (HY.out rfl).1 (HY.out rfl).2 (by omega) HH.out.l1 HH.out.l2 HH.out.lt)
           clear HY HNo
           go_wp2_with fail
           (with_reducible refine HC.out.mono ?_)
           rintro e w1 ⟨rfl, F2, hs1, hm1⟩
           have HX : Hid (∃ F2, SO w w1 s g S F2 ∧ Mg S a mid G F2) := ⟨F2, HG2.out.again hs1, hm1⟩
           clear hs1 hm1
           go_wp2_with fail
           go_meet
           exact ⟨rfl, HX⟩
         | false =>
           have HX : Hid (∃ F2, SO w w2 s g S F2 ∧ Mg S a mid G F2) := ⟨G, HG2.out, Mg.same (HNo.out rfl)⟩
           clear HY HNo
           go_wp2_with fail
           go_meet
           exact ⟨rfl, HX⟩
        case rest =>
         obtain ⟨rfl, HX⟩ := hcut
         obtain ⟨F2, hs2, hm2⟩ := HX.out
         have HS2 := qh hs2
         have HM2 := qh hm2
         clear HX HG2 HY HNo hs2 hm2
         obtain ⟨w3, hw3⟩ : ∃ w3, wc = w3 := ⟨_, rfl⟩
         rw [hw3] at HS2 ⊢
         clear hw3
         have R1 : Hid (Srt S F2 mid e ∧ Srt S F2 e b ∧ Tie S F2 mid e b) :=
          ⟨HH.out.r1.congr (fun k q1 q2 => HM2.out.out k (.inr q1)), HH.out.r2.congr (fun k q1 q2 => HM2.out.out k (.inr (by have := HF.out.h5; have := HF.out.h2; omega))),
           HH.out.rt.congr (fun k q1 q2 => HM2.out.out k (.inr q1)) (by have := HF.out.h5; have := HF.out.h2; omega) HF.out.h4⟩
         have DONE : Hid (∀ F3, Mg S mid b F2 F3 → Mg S a b f F3) := fun F3 h3 => Mg.both (by have := HMB.out; omega) (by have := HMB.out; omega) HH.out.sub HH.out.bus HH.out.out HM2.out h3 HH.out.cr
         have he4 : Hid (mid ≤ e ∧ e ≤ b) := by unfold Hid; have := HF.out.h5; have := HF.out.h2; have := HF.out.h4; omega
         by_cases r1 : mid < e
         · have z1 : (mid : Int) < (e : Int) := by omega
           by_cases r2 : e < b
           · have z2 : (e : Int) < (b : Int) := by omega
             have HC := qh (HI.out w3 F2 mid e b (by have := HN.out; have := HMB.out; omega) HS2.out.self r1 r2 hb R1.out.1 R1.out.2.1 R1.out.2.2)
             go_wp2_with fail
             (with_reducible refine HC.out.mono ?_)
             rintro e w1 ⟨rfl, F3, hs1, hm1⟩
             have HX : Hid (∃ F, SO w w1 s g S F ∧ Mg S a b f F) := ⟨F3, HS2.out.again hs1, DONE.out _ hm1⟩
             clear hs1 hm1
             go_wp2_with fail
             go_end0
             exact ⟨rfl, HX.out⟩
           · have z2 : ¬ (e : Int) < (b : Int) := by omega
             have HX : Hid (∃ F, SO w w3 s g S F ∧ Mg S a b f F) := ⟨F2, HS2.out, DONE.out _ (Mg.same (by rw [show b = e by have := he4.out; omega]; exact R1.out.1))⟩
             go_wp2_with fail
             go_end0
             exact ⟨rfl, HX.out⟩
         · have z1 : ¬ (mid : Int) < (e : Int) := by omega
           have HX : Hid (∃ F, SO w w3 s g S F ∧ Mg S a b f F) := ⟨F2, HS2.out, DONE.out _ (Mg.same (by rw [show mid = e by have := he4.out; omega]; exact R1.out.2.1))⟩
           go_wp2_with fail
           go_end0
           exact ⟨rfl, HX.out⟩
def id8 : Nat → UInt8 := fun k => UInt8.ofNat k
theorem id8_nat (k : Nat) (h : k < 256) : (id8 k).toNat = k := by unfold id8; rw [UInt8.toNat_ofNat']; omega
def Conf (f : Nat → UInt8) (a b : Nat) : Prop := ∀ i, a ≤ i → i < b → a ≤ (f i).toNat ∧ (f i).toNat < b
structure Good (S : Nat → Int) (f : Nat → UInt8) (a b : Nat) : Prop where
 srt : Srt S f a b
 conf : Conf f a b
structure Pm (f : Nat → UInt8) : Prop where
 sub : Sub id8 f 0 256
 bus : Sub f id8 0 256
theorem Pm.mg {S : Nat → Int} {f g : Nat → UInt8} {a b : Nat} (h : Pm f) (m : Mg S a b f g) (hb : b ≤ 256) : Pm g := by
 refine ⟨fun i h1 h2 => ?_, fun i h1 h2 => ?_⟩
 · obtain ⟨j, q1, q2, q3⟩ := h.sub i h1 h2
   by_cases c : a ≤ j ∧ j < b
   · obtain ⟨k, r1, r2, r3⟩ := m.sub j c.1 c.2
     exact ⟨k, by omega, by omega, by rw [r3, q3]⟩
   · exact ⟨j, q1, q2, by rw [m.out j (by omega), q3]⟩
 · by_cases c : a ≤ i ∧ i < b
   · obtain ⟨k, r1, r2, r3⟩ := m.bus i c.1 c.2
     obtain ⟨l, t1, t2, t3⟩ := h.bus k (by omega) (by omega)
     exact ⟨l, t1, t2, by rw [t3, r3]⟩
   · obtain ⟨l, t1, t2, t3⟩ := h.bus i h1 h2
     exact ⟨l, t1, t2, by rw [t3, m.out i (by omega)]⟩
theorem Good.none (S : Nat → Int) (f : Nat → UInt8) (a b : Nat) (h : b ≤ a) : Good S f a b := ⟨fun i j h1 h2 h3 => by omega, fun i h1 h2 => by omega⟩
theorem Good.away {S : Nat → Int} {f g : Nat → UInt8} {a b x y : Nat} (h : Good S f x y) (m : Mg S a b f g) (hd : y ≤ a ∨ b ≤ x) : Good S g x y := by
 have e : ∀ k, x ≤ k → k < y → g k = f k := fun k h1 h2 => m.out k (by omega)
 exact ⟨h.srt.congr e, fun i h1 h2 => by rw [e i h1 h2]; exact h.conf i h1 h2⟩
theorem Good.mg {S : Nat → Int} {f g : Nat → UInt8} {a b : Nat} (m : Mg S a b f g) (h : Conf f a b) : Good S g a b :=
 ⟨m.srt, fun i h1 h2 => by obtain ⟨j, q1, q2, q3⟩ := m.bus i h1 h2; rw [← q3]; exact h j q1 q2⟩
theorem Good.two {S : Nat → Int} {f g : Nat → UInt8} {a c b : Nat} (h1 : Good S f a c) (h2 : Good S f c b) (hac : a ≤ c) (hcb : c ≤ b) (m : Mg S a b f g) : Good S g a b :=
 .mg m (fun i q1 q2 => by
  by_cases h : i < c
  · have := h1.conf i q1 h; omega
  · have := h2.conf i (by omega) q2; omega)
theorem Good.tie {S : Nat → Int} {f : Nat → UInt8} {a c b : Nat} (h1 : Good S f a c) (h2 : Good S f c b) : Tie S f a c b := fun i j q1 q2 q3 q4 _ => by
 have := h1.conf i q1 q2; have := h2.conf j q3 q4; omega
def LvS (S : Nat → Int) (f : Nat → UInt8) (c : Nat) : Prop := ∀ x, x % c = 0 → Good S f x (min (x + c) 256)
structure IL (S : Nat → Int) (f : Nat → UInt8) (c a : Nat) : Prop where
 al : a % (2 * c) = 0
 lo : ∀ x, x % (2 * c) = 0 → x + 2 * c ≤ a → Good S f x (x + 2 * c)
 hi : ∀ x, a ≤ x → x % c = 0 → Good S f x (min (x + c) 256)
def Cs (c : Nat) : Prop := c = 20 ∨ c = 40 ∨ c = 80 ∨ c = 160
theorem il_start {S : Nat → Int} {f : Nat → UInt8} {c : Nat} (hc : Cs c) (h : LvS S f c) : IL S f c 0 :=
 ⟨by simp, fun x h1 h2 => by unfold Cs at hc; omega, fun x _ h2 => h x h2⟩
theorem il_step {S : Nat → Int} {f g : Nat → UInt8} {c a : Nat} (hc : Cs c) (h : IL S f c a) (hb : a + 2 * c ≤ 256) (m : Mg S a (a + 2 * c) f g) : IL S g c (a + 2 * c) := by
 obtain ⟨h1, h2, h3⟩ := h
 have e1 : (a + c) % c = 0 := by rcases hc with rfl | rfl | rfl | rfl <;> omega
 have e2 : a % c = 0 := by rcases hc with rfl | rfl | rfl | rfl <;> omega
 have e3 : (a + 2 * c) % (2 * c) = 0 := by rcases hc with rfl | rfl | rfl | rfl <;> omega
 refine ⟨e3, fun x q1 q2 => ?_, fun x q1 q2 => (h3 x (by omega) q2).away m (.inr (by omega))⟩
 by_cases e : x = a
 · subst e
   have g1 := h3 x (nl _) e2
   have g2 := h3 _ (Nat.le_add_right x _) e1
   rw [Nat.min_eq_left (by omega)] at g1 g2
   rw [show x + c + c = x + 2 * c by omega] at g2
   exact Good.two g1 g2 (by omega) (by omega) m
 · have : x + 2 * c ≤ a := by rcases hc with rfl | rfl | rfl | rfl <;> omega
   exact (h2 x q1 this).away m (.inl this)
theorem il_pre {S : Nat → Int} {f : Nat → UInt8} {c a b : Nat} (hc : Cs c) (h : IL S f c a) (hm : a + c < 256) (hb : b = min (a + 2 * c) 256) : Srt S f a (a + c) ∧ Srt S f (a + c) b ∧ Tie S f a (a + c) b := by
 obtain ⟨h1, h2, h3⟩ := h
 have e : min (a + c + c) 256 = b := by rw [hb]; congr 1; omega
 have g1 := h3 a (nl _) (by rcases hc with rfl | rfl | rfl | rfl <;> omega)
 have g2 := h3 (a + c) (Nat.le_add_right _ _) (by rcases hc with rfl | rfl | rfl | rfl <;> omega)
 rw [Nat.min_eq_left (by omega)] at g1
 rw [e] at g2
 exact ⟨g1.srt, g2.srt, g1.tie g2⟩
theorem il_end1 {S : Nat → Int} {f g : Nat → UInt8} {c a : Nat} (hc : Cs c) (h : IL S f c a) (hb : 256 < a + 2 * c) (hm : a + c < 256) (m : Mg S a 256 f g) : LvS S g (2 * c) := by
 obtain ⟨h1, h2, h3⟩ := h
 intro x hx
 by_cases e : x = a
 · subst e
   rw [Nat.min_eq_right (by omega)]
   have g1 := h3 x (nl _) (by rcases hc with rfl | rfl | rfl | rfl <;> omega)
   have g2 := h3 (x + c) (Nat.le_add_right _ _) (by rcases hc with rfl | rfl | rfl | rfl <;> omega)
   rw [Nat.min_eq_left (by omega)] at g1
   rw [Nat.min_eq_right (by omega)] at g2
   exact Good.two g1 g2 (by omega) (by omega) m
 by_cases e2 : x < a
 · have : x + 2 * c ≤ a := by rcases hc with rfl | rfl | rfl | rfl <;> omega
   rw [Nat.min_eq_left (by omega)]
   exact (h2 x hx this).away m (.inl this)
 · exact Good.none _ _ _ _ (by rcases hc with rfl | rfl | rfl | rfl <;> omega)
theorem il_end2 {S : Nat → Int} {f : Nat → UInt8} {c a : Nat} (hc : Cs c) (h : IL S f c a) (hm : 256 ≤ a + c) (ha : a ≤ 256) : LvS S f (2 * c) := by
 obtain ⟨h1, h2, h3⟩ := h
 intro x hx
 by_cases e : x = a
 · subst e
   have g1 := h3 x (nl _) (by rcases hc with rfl | rfl | rfl | rfl <;> omega)
   rw [Nat.min_eq_right (by omega)] at g1 ⊢
   exact g1
 by_cases e2 : x < a
 · have : x + 2 * c ≤ a := by rcases hc with rfl | rfl | rfl | rfl <;> omega
   rw [Nat.min_eq_left (by omega)]
   exact h2 x hx this
 · exact Good.none _ _ _ _ (by rcases hc with rfl | rfl | rfl | rfl <;> omega)
structure I0 (S : Nat → Int) (f : Nat → UInt8) (a : Nat) : Prop where
 lo : ∀ x, x % 20 = 0 → x + 20 ≤ a → Good S f x (x + 20)
 hi : ∀ i, a ≤ i → i < 256 → f i = id8 i
theorem I0.ris {S : Nat → Int} {f : Nat → UInt8} {a b : Nat} (h : I0 S f a) (hb : b ≤ 256) : Ris f a b := fun i j h1 h2 h3 => by
 rw [h.hi i h1 (by omega), h.hi j (by omega) (by omega), id8_nat i (by omega), id8_nat j (by omega)]; exact h2
theorem I0.conf {S : Nat → Int} {f : Nat → UInt8} {a b : Nat} (h : I0 S f a) (hb : b ≤ 256) : Conf f a b := fun i h1 h2 => by
 rw [h.hi i h1 (by omega), id8_nat i (by omega)]; exact ⟨h1, h2⟩
theorem I0.step {S : Nat → Int} {f g : Nat → UInt8} {a : Nat} (h : I0 S f a) (ha : a % 20 = 0) (hb : a + 20 ≤ 256) (m : Mg S a (a + 20) f g) : I0 S g (a + 20) :=
 ⟨fun x h1 h2 => by
   by_cases e : x = a
   · subst e; exact .mg m (h.conf hb)
   · exact (h.lo x h1 (by omega)).away m (.inl (by omega)), fun i h1 h2 => by rw [m.out i (.inr h1)]; exact h.hi i (by omega) h2⟩
theorem I0.last {S : Nat → Int} {f g : Nat → UInt8} (h : I0 S f 240) (m : Mg S 240 256 f g) : LvS S g 20 := fun x hx => by
 by_cases e : x + 20 ≤ 240
 · rw [Nat.min_eq_left (by omega)]
   exact (h.lo x hx e).away m (.inl e)
 · by_cases e2 : x = 240
   · subst e2
     exact .mg m (h.conf (nl _))
   · exact Good.none _ _ _ _ (by omega)
theorem n240 : ((240 : Nat) : Int) = 240 := rfl
theorem n256 : ((256 : Nat) : Int) = 256 := rfl
set_option maxHeartbeats 2000000 in
theorem stable_any (w : World) (s g : Nat) (S : Nat → Int) (h : SO w w s g S id8) :
 Calls Tryz.prog 197 #[sV g, .int .i64 256, cmpV s] w fun e w' => e = .returned (.tuple #[]) ∧ ∃ F, SO w w' s g S F ∧ Srt S F 0 256 ∧ Pm F := by
 have HI := qh (fun w f a b => insert_any w s g S f a b)
 have HM := qh (fun w f a m b => sym_any 256 w s g S f a m b)
 unfold sV cmpV at HI HM ⊢
 have H0 := qh h
 clear h
 go_enter Tryz.func197, Tryz.ntmps197
 go_wp2_with fail
 go_loopw [7, 8] (fun u v wr => ∃ a b : Nat, u = .int .i64 a ∧ v = .int .i64 b ∧ b = a + 20 ∧ a % 20 = 0 ∧ a ≤ 240 ∧ Hid (∃ F, SO w wr s g S F ∧ I0 S F a ∧ Pm F)) (fun u v _ => 256 - (intOf u).toNat)
 case atStart => exact ⟨0, 20, rfl, rfl, rfl, rfl, by omega, id8, H0.out, ⟨fun x h1 h2 => by omega, fun _ _ _ => rfl⟩, ⟨fun i h1 h2 => ⟨i, h1, h2, rfl⟩, fun i h1 h2 => ⟨i, h1, h2, rfl⟩⟩⟩
 case round =>
  obtain ⟨a, b, rfl, rfl, hb, hal, ha, HF⟩ := hrel
  obtain ⟨F, hs, hi, hp⟩ := HF.out
  have HS := qh hs
  have HF2 := qh hi
  have HP := qh hp
  clear HF hs hi hp
  by_cases hlt : b ≤ 256
  · have hz : (b : Int) ≤ 256 := by omega
    have HC := qh (HI.out wr F a b HS.out.self (by omega) hlt (HF2.out.ris hlt))
    have HB := qh hb
    clear hb
    go_wp2_with fail
    (with_reducible refine HC.out.mono ?_)
    rintro e w1 ⟨rfl, F2, hs1, hm1⟩
    have HX : Hid (∃ F, SO w w1 s g S F ∧ I0 S F b ∧ Pm F) := ⟨F2, HS.out.again hs1, by have := HB.out; subst this; exact HF2.out.step hal hlt hm1, HP.out.mg hm1 hlt⟩
    clear hs1 hm1 HC
    go_wp2_with fail
    have := HB.out
    exact ⟨⟨b, b + 20, rfl, by go_num, rfl, by omega, by omega, HX⟩, by simp [intOf]; omega⟩
  · obtain rfl : a = 240 := by omega
    obtain rfl : b = 260 := by omega
    have HC := qh (HI.out wr F 240 256 HS.out.self (by omega) (by omega) (HF2.out.ris (by omega)))
    rw [n240, n256] at HC
    go_wp2_with fail
    (with_reducible refine HC.out.mono ?_)
    rintro e w1 ⟨rfl, F2, hs1, hm1⟩
    have HX : Hid (∃ F, SO w w1 s g S F ∧ LvS S F 20 ∧ Pm F) := ⟨F2, HS.out.again hs1, HF2.out.last hm1, HP.out.mg hm1 (by omega)⟩
    clear hs1 hm1 HC HI HS HF2 HP hlt
    go_wp2_with fail
    go_loopw [6] (fun u wr => ∃ c : Nat, u = .int .i64 c ∧ Hid (Cs c ∨ c = 320) ∧ Hid (∃ F, SO w wr s g S F ∧ LvS S F c ∧ Pm F)) (fun u _ => 320 - (intOf u).toNat)
    case atStart => exact ⟨20, rfl, .inl (.inl rfl), HX⟩
    case round =>
     clear HX
     obtain ⟨c, rfl, HCs, HX⟩ := hrel
     by_cases hlt : c < 256
     · have hz : (c : Int) < 256 := by omega
       have hcs : Hid (Cs c) := by
        rcases HCs.out with h | h
        · exact h
        · omega
       obtain ⟨c2, hc2⟩ : ∃ c2 : Nat, 2 * (c : Int) = c2 := ⟨2 * c, by omega⟩
       have hc3 : (c : Int) * 2 = (c2 : Int) := by omega
       have hc4 : c2 ≤ 320 := by have := hcs.out; unfold Cs at this; omega
       have HC2 : Hid (c2 = 2 * c ∧ 20 ≤ c) := by have := hcs.out; unfold Cs at this; unfold Hid; omega
       go_wp2_with fail
       go_loopw [7, 8] (fun u v wr => ∃ a b : Nat, u = .int .i64 a ∧ v = .int .i64 b ∧ b = a + c2 ∧ a ≤ 256 ∧ Hid (∃ F, SO w wr s g S F ∧ IL S F c a ∧ Pm F)) (fun u v _ => 256 - (intOf u).toNat)
       case atStart =>
        obtain ⟨F, q1, q2, q3⟩ := HX.out
        exact ⟨0, c2, rfl, rfl, by omega, by omega, F, q1, il_start hcs.out q2, q3⟩
       case round =>
        clear HX
        obtain ⟨a, b, rfl, rfl, hb, ha, HX⟩ := hrel
        obtain ⟨F, hs, hi, hp⟩ := HX.out
        have HS := qh hs
        have HF2 := qh hi
        have HP := qh hp
        clear HX hs hi hp
        obtain ⟨m, hm⟩ : ∃ m : Nat, (a : Int) + (c : Int) = m := ⟨a + c, by omega⟩
        have HMm : Hid (m = a + c) := by unfold Hid; omega
        by_cases hlt2 : b ≤ 256
        · have hz2 : (b : Int) ≤ 256 := by omega
          have HC : Hid _ := (HM.out wr F a m b (by omega) HS.out.self (by have := HC2.out; have := HMm.out; omega) (by have := HC2.out; have := HMm.out; omega) hlt2)
          have hpre := il_pre hcs.out HF2.out (b := b) (by have := HC2.out; omega) (by have := HC2.out; omega)
          rw [← HMm.out] at hpre
          have HC3 := qh (HC.out hpre.1 hpre.2.1 hpre.2.2)
          have HB := qh hb
          obtain ⟨b2, hb2⟩ : ∃ b2 : Nat, (b : Int) + (c2 : Int) = b2 := ⟨b + c2, by omega⟩
          have HB2 : Hid (b2 = b + c2) := by unfold Hid; omega
          have hb3 : b2 ≤ 1000 := by omega
          clear hb HC hpre
          go_wp2_with fail
          (with_reducible refine HC3.out.mono ?_)
          rintro e w1 ⟨rfl, F2, hs1, hm1⟩
          have HX : Hid (∃ F, SO w w1 s g S F ∧ IL S F c b ∧ Pm F) := ⟨F2, HS.out.again hs1, by
           have e : b = a + 2 * c := by have := HB.out; have := HC2.out; omega
           subst e
           exact il_step hcs.out HF2.out hlt2 hm1, HP.out.mg hm1 hlt2⟩
          clear hs1 hm1 HC3
          go_wp2_with fail
          have := HB.out
          have := HC2.out
          exact ⟨⟨b, b2, rfl, rfl, HB2.out, by omega, HX⟩, by simp [intOf]; omega⟩
        · have hz2 : ¬ (b : Int) ≤ 256 := by omega
          have HB := qh hb
          have hm1 : m ≤ 1000 := by omega
          clear hb
          by_cases hlt3 : m < 256
          · have hz3 : (m : Int) < 256 := by omega
            have hpre := il_pre hcs.out HF2.out (b := 256) (by have := HMm.out; omega) (by have := HC2.out; have := HB.out; omega)
            rw [← HMm.out] at hpre
            have HC3 := qh (HM.out wr F a m 256 (by omega) HS.out.self (by have := HC2.out; have := HMm.out; omega) hlt3 (nl _) hpre.1 hpre.2.1 hpre.2.2)
            clear hpre
            rw [n256] at HC3
            go_wp2_with fail
            (with_reducible refine HC3.out.mono ?_)
            rintro e w1 ⟨rfl, F2, hs1, hm1⟩
            have HX : Hid (∃ F, SO w w1 s g S F ∧ LvS S F c2 ∧ Pm F) := ⟨F2, HS.out.again hs1, by
             rw [HC2.out.1]
             exact il_end1 hcs.out HF2.out (by have := HC2.out; have := HB.out; omega) (by have := HMm.out; omega) hm1, HP.out.mg hm1 (nl _)⟩
            clear hs1 hm1 HC3
            go_wp2_with fail
            have h5 := HC2.out
            have h6 := hcs.out
            exact ⟨⟨c2, rfl, by unfold Cs at *; unfold Hid; omega, HX⟩, by simp [intOf]; omega⟩
          · have hz3 : ¬ (m : Int) < 256 := by omega
            have HX : Hid (∃ F, SO w wr s g S F ∧ LvS S F c2 ∧ Pm F) := ⟨F, HS.out, by
             rw [HC2.out.1]
             exact il_end2 hcs.out HF2.out (by have := HMm.out; omega) ha, HP.out⟩
            go_wp2_with fail
            have h5 := HC2.out
            have h6 := hcs.out
            exact ⟨⟨c2, rfl, by unfold Cs at *; unfold Hid; omega, HX⟩, by simp [intOf]; omega⟩
     · have hz : ¬ (c : Int) < 256 := by omega
       obtain ⟨F, q1, q2, q3⟩ := HX.out
       have HD : Hid (∃ F, SO w wr s g S F ∧ Srt S F 0 256 ∧ Pm F) := ⟨F, q1, by
        rcases HCs.out with h | h
        · unfold Cs at h; omega
        · subst h; exact (q2 0 rfl).srt, q3⟩
       clear q1 q2 q3 HX
       go_wp2_with fail
       go_end0
       exact ⟨rfl, HD.out⟩
set_option maxHeartbeats 1000000 in
theorem sort_any (w : World) (s g : Nat) (S : Nat → Int) (h : SO w w s g S id8) :
 Calls Tryz.prog 185 #[sV g, cmpV s] w fun e w' => e = .returned (.tuple #[]) ∧ ∃ F, SO w w' s g S F ∧ Srt S F 0 256 ∧ Pm F := by
 have HC := qh (stable_any w s g S h)
 clear h
 unfold sV cmpV at HC ⊢
 go_enter Tryz.func185, Tryz.ntmps185
 go_wp2_with fail
 (with_reducible refine HC.out.mono ?_)
 rintro e w1 ⟨rfl, F2, hs1, hm1, hp1⟩
 have HX : Hid (∃ F, SO w w1 s g S F ∧ Srt S F 0 256 ∧ Pm F) := ⟨F2, hs1, hm1, hp1⟩
 clear hs1 hm1 hp1 HC
 go_wp2_with fail
 go_end0
 exact ⟨rfl, HX.out⟩
end Go.Proofs.YtpnobpligchpiaaGreatDoor
