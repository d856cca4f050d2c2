/- PLAIN: the order of values by score; rows as functions; turning a part of a row; merging. Of every seat. -/
namespace Go.Proofs.Ytomiligjcpmnjaa
set_option linter.unusedVariables false

/-- x stands ahead of y -/
def ah (S : Nat → Int) (x y : UInt8) : Prop := S y.toNat < S x.toNat ∨ (S x.toNat = S y.toNat ∧ x.toNat < y.toNat)
theorem ah_irr {S : Nat → Int} {x : UInt8} (h : ah S x x) : False := by unfold ah at h; omega
theorem ah_asymm {S : Nat → Int} {x y : UInt8} (h : ah S x y) (h2 : ah S y x) : False := by unfold ah at h h2; omega
theorem ah_trans {S : Nat → Int} {x y z : UInt8} (h : ah S x y) (h2 : ah S y z) : ah S x z := by unfold ah at h h2 ⊢; omega
theorem ah_total {S : Nat → Int} {x y : UInt8} (h : x ≠ y) : ah S x y ∨ ah S y x := by
  have : x.toNat ≠ y.toNat := fun e => h (UInt8.toNat_inj.1 e)
  unfold ah; omega
def Srt (S : Nat → Int) (f : Nat → UInt8) (a b : Nat) : Prop := ∀ i j, a ≤ i → i < j → j < b → ah S (f i) (f j)
def Sub (f g : Nat → UInt8) (a b : Nat) : Prop := ∀ i, a ≤ i → i < b → ∃ j, a ≤ j ∧ j < b ∧ g j = f i
def Out (f g : Nat → UInt8) (a b : Nat) : Prop := ∀ i, (i < a ∨ b ≤ i) → g i = f i
/-- the row's part from a to b is put in order -/
structure Mg (S : Nat → Int) (a b : Nat) (f g : Nat → UInt8) : Prop where
  srt : Srt S g a b
  sub : Sub f g a b
  bus : Sub g f a b
  out : Out f g a b
/-- values of one score: the lesser ones lie in the first part -/
def Tie (S : Nat → Int) (f : Nat → UInt8) (a m b : Nat) : Prop := ∀ i j, a ≤ i → i < m → m ≤ j → j < b → S (f i).toNat = S (f j).toNat → (f i).toNat < (f j).toNat

/-- the parts a .. m and m .. b change places -/
def rot (a m b : Nat) (f : Nat → UInt8) : Nat → UInt8 := fun k => if a ≤ k ∧ k < a + (b - m) then f (m + (k - a)) else if a + (b - m) ≤ k ∧ k < b then f (k - (b - m)) else f k
/-- n values from a and from b change places -/
def swp (a b n : Nat) (f : Nat → UInt8) : Nat → UInt8 := fun k => if a ≤ k ∧ k < a + n then f (k - a + b) else if b ≤ k ∧ k < b + n then f (k - b + a) else f k
def upd (f : Nat → UInt8) (k : Nat) (v : UInt8) : Nat → UInt8 := fun j => if j = k then v else f j

theorem swp_zero (a b : Nat) (f : Nat → UInt8) : swp a b 0 f = f := by
  funext k; unfold swp; rw [if_neg (by omega), if_neg (by omega)]
theorem swp_step (a b i n : Nat) (f : Nat → UInt8) (h : a + n ≤ b) (hi : i < n) : upd (upd (swp a b i f) (a + i) (swp a b i f (b + i))) (b + i) (swp a b i f (a + i)) = swp a b (i + 1) f := by
  have e1 : swp a b i f (b + i) = f (b + i) := by unfold swp; rw [if_neg (by omega), if_neg (by omega)]
  have e2 : swp a b i f (a + i) = f (a + i) := by unfold swp; rw [if_neg (by omega), if_neg (by omega)]
  rw [e1, e2]
  funext k; unfold upd swp
  grind
theorem rot_more (a m b j : Nat) (f : Nat → UInt8) (hj : b = m + j) (h : a + j < m) : rot a m b f = rot (a + j) m b (swp a m j f) := by
  subst hj
  funext k; unfold rot swp
  grind
theorem rot_less (a m b i : Nat) (f : Nat → UInt8) (hi : m = a + i) (h : m + i < b) : rot a m b f = rot a m (b - i) (swp a (b - i) i f) := by
  subst hi
  obtain ⟨d, rfl⟩ : ∃ d, b = a + i + i + d := ⟨b - (a + i + i), by omega⟩
  have e1 : a + i + i + d - (a + i) = i + d := by omega
  have e2 : a + i + i + d - i - (a + i) = d := by omega
  have e3 : a + i + i + d - i = a + i + d := by omega
  funext k; unfold rot swp
  rw [e1, e2, e3]
  grind
theorem rot_even (a m b i : Nat) (f : Nat → UInt8) (hi : m = a + i) (h : b = m + i) : rot a m b f = swp a m i f := by
  subst h hi
  funext k; unfold rot swp
  grind
theorem rot_none (a b : Nat) (f : Nat → UInt8) : rot a b b f = f := by
  funext k; unfold rot
  grind
theorem rot_none' (a b : Nat) (f : Nat → UInt8) : rot a a b f = f := by
  funext k; unfold rot
  grind
/-- one step of an insertion downwards -/
theorem rot_down (j i : Nat) (f G : Nat → UInt8) (h : j + 1 ≤ i) (hG : G = rot (j + 1) i (i + 1) f) : upd (upd G (j + 1) (G j)) j (G (j + 1)) = rot j i (i + 1) f := by
  subst hG
  have e : i + 1 - i = 1 := by omega
  funext k; unfold upd rot
  rw [e]
  grind
/-- one step of an insertion upwards -/
theorem rot_up (a k : Nat) (f G : Nat → UInt8) (h : a ≤ k) (hG : G = rot a (a + 1) (k + 1) f) : upd (upd G k (G (k + 1))) (k + 1) (G k) = rot a (a + 1) (k + 2) f := by
  subst hG
  have e : k + 1 - (a + 1) = k - a := by omega
  have e2 : k + 2 - (a + 1) = k - a + 1 := by omega
  funext i; unfold upd rot
  rw [e, e2]
  grind
theorem rot_out (a m b : Nat) (f : Nat → UInt8) (h1 : a ≤ m) (h2 : m ≤ b) : Out f (rot a m b f) a b := fun k hk => by
  unfold rot; rw [if_neg (by omega), if_neg (by omega)]
theorem rot_at1 (a m b k : Nat) (f : Nat → UInt8) (h0 : a ≤ k) (h : k < a + (b - m)) : rot a m b f k = f (m + (k - a)) := by
  unfold rot; rw [if_pos ⟨h0, h⟩]
theorem rot_at2 (a m b k : Nat) (f : Nat → UInt8) (h0 : a + (b - m) ≤ k) (h : k < b) : rot a m b f k = f (k - (b - m)) := by
  unfold rot; rw [if_neg (by omega), if_pos ⟨h0, h⟩]
/-- where the values of a turned row come from, and go -/
theorem rot_from (a m b : Nat) (f : Nat → UInt8) (h1 : a ≤ m) (h2 : m ≤ b) (k : Nat) (hk : a ≤ k) (hb : k < b) : ∃ j, a ≤ j ∧ j < b ∧ rot a m b f k = f j := by
  by_cases h : k < a + (b - m)
  · exact ⟨_, by omega, by omega, rot_at1 a m b k f hk h⟩
  · exact ⟨_, by omega, by omega, rot_at2 a m b k f (by omega) hb⟩
theorem rot_to (a m b : Nat) (f : Nat → UInt8) (h1 : a ≤ m) (h2 : m ≤ b) (j : Nat) (hj : a ≤ j) (hb : j < b) : ∃ k, a ≤ k ∧ k < b ∧ rot a m b f k = f j := by
  by_cases h : j < m
  · exact ⟨j + (b - m), by omega, by omega, by rw [rot_at2 a m b _ f (by omega) (by omega)]; congr 1; omega⟩
  · exact ⟨a + (j - m), by omega, by omega, by rw [rot_at1 a m b _ f (by omega) (by omega)]; congr 1; omega⟩
theorem rot_sub (s m e a b : Nat) (f : Nat → UInt8) (h1 : s ≤ m) (h2 : m ≤ e) (ha : a ≤ s) (hb : e ≤ b) : Sub f (rot s m e f) a b := fun i hi hib => by
  by_cases h : s ≤ i ∧ i < e
  · obtain ⟨k, k1, k2, k3⟩ := rot_to s m e f h1 h2 i h.1 h.2
    exact ⟨k, by omega, by omega, k3⟩
  · exact ⟨i, hi, hib, rot_out s m e f h1 h2 i (by omega)⟩
theorem rot_bus (s m e a b : Nat) (f : Nat → UInt8) (h1 : s ≤ m) (h2 : m ≤ e) (ha : a ≤ s) (hb : e ≤ b) : Sub (rot s m e f) f a b := fun i hi hib => by
  by_cases h : s ≤ i ∧ i < e
  · obtain ⟨k, k1, k2, k3⟩ := rot_from s m e f h1 h2 i h.1 h.2
    exact ⟨k, by omega, by omega, k3.symm⟩
  · exact ⟨i, hi, hib, (rot_out s m e f h1 h2 i (by omega)).symm⟩
/-- where a value of the turned row from a to b comes from -/
theorem rot_cases (s m e : Nat) (f : Nat → UInt8) (h1 : s ≤ m) (h2 : m ≤ e) (k : Nat) :
    (k < s ∧ rot s m e f k = f k) ∨ (s ≤ k ∧ k < s + (e - m) ∧ ∃ j, j = m + (k - s) ∧ rot s m e f k = f j) ∨ (s + (e - m) ≤ k ∧ k < e ∧ ∃ j, j = k - (e - m) ∧ rot s m e f k = f j) ∨ (e ≤ k ∧ rot s m e f k = f k) := by
  by_cases q1 : k < s
  · exact .inl ⟨q1, rot_out s m e f h1 h2 k (.inl q1)⟩
  by_cases q2 : k < s + (e - m)
  · exact .inr (.inl ⟨by omega, q2, _, rfl, rot_at1 s m e k f (by omega) q2⟩)
  by_cases q3 : k < e
  · exact .inr (.inr (.inl ⟨by omega, q3, _, rfl, rot_at2 s m e k f (by omega) q3⟩))
  · exact .inr (.inr (.inr ⟨by omega, rot_out s m e f h1 h2 k (by omega)⟩))
/-- the heart: behind the turn all of the left part stand ahead of all of the right one -/
theorem rot_cross {S : Nat → Int} {f : Nat → UInt8} {a m b s e : Nat} (h1 : Srt S f a m) (h2 : Srt S f m b) (has : a ≤ s) (hsm : s ≤ m) (hme : m ≤ e) (heb : e ≤ b)
    (hx : ∀ x y, a ≤ x → x < s → e ≤ y → y < b → ah S (f x) (f y)) (hy : ∀ y x, m ≤ y → y < e → s ≤ x → x < m → ah S (f y) (f x)) :
    ∀ i j, a ≤ i → i < s + (e - m) → s + (e - m) ≤ j → j < b → ah S (rot s m e f i) (rot s m e f j) := fun i j ai im mj jb => by
  rcases rot_cases s m e f hsm hme i with ⟨p, q⟩ | ⟨p, p2, x, rfl, q⟩ | ⟨p, p2, x, rfl, q⟩ | ⟨p, q⟩
  · rw [q]
    rcases rot_cases s m e f hsm hme j with ⟨p, q⟩ | ⟨p, p2, x, rfl, q⟩ | ⟨p, p2, x, rfl, q⟩ | ⟨p, q⟩
    · omega
    · omega
    · rw [q]; exact h1 _ _ ai (by omega) (by omega)
    · rw [q]; exact hx _ _ ai (by omega) (by omega) jb
  · rw [q]
    rcases rot_cases s m e f hsm hme j with ⟨p, q⟩ | ⟨p, p2, x, rfl, q⟩ | ⟨p, p2, x, rfl, q⟩ | ⟨p, q⟩
    · omega
    · omega
    · rw [q]; exact hy _ _ (by omega) (by omega) (by omega) (by omega)
    · rw [q]; exact h2 _ _ (by omega) (by omega) (by omega)
  · omega
  · omega
/-- the turned row is in order -/
theorem rot_srt {S : Nat → Int} {f : Nat → UInt8} {a m b s e : Nat} (h1 : Srt S f a m) (h2 : Srt S f m b) (has : a ≤ s) (hsm : s ≤ m) (hme : m ≤ e) (heb : e ≤ b)
    (hx : ∀ x y, a ≤ x → x < s → e ≤ y → y < b → ah S (f x) (f y)) (hy : ∀ y x, m ≤ y → y < e → s ≤ x → x < m → ah S (f y) (f x))
    (hl : ∀ x y, a ≤ x → x < s → m ≤ y → y < e → ah S (f x) (f y)) (hr : ∀ x y, s ≤ x → x < m → e ≤ y → y < b → ah S (f x) (f y)) :
    Srt S (rot s m e f) a b := fun i j ai ij jb => by
  by_cases c1 : i < s + (e - m) ∧ s + (e - m) ≤ j
  · exact rot_cross h1 h2 has hsm hme heb hx hy i j ai c1.1 c1.2 jb
  rcases rot_cases s m e f hsm hme i with ⟨p, q⟩ | ⟨p, p2, x, rfl, q⟩ | ⟨p, p2, x, rfl, q⟩ | ⟨p, q⟩
  · rw [q]
    rcases rot_cases s m e f hsm hme j with ⟨p, q⟩ | ⟨p, p2, x, rfl, q⟩ | ⟨p, p2, x, rfl, q⟩ | ⟨p, q⟩
    · rw [q]; exact h1 _ _ ai ij (by omega)
    · rw [q]; exact hl _ _ ai (by omega) (by omega) (by omega)
    · omega
    · omega
  · rw [q]
    rcases rot_cases s m e f hsm hme j with ⟨p, q⟩ | ⟨p, p2, x, rfl, q⟩ | ⟨p, p2, x, rfl, q⟩ | ⟨p, q⟩
    · omega
    · rw [q]; exact h2 _ _ (by omega) (by omega) (by omega)
    · omega
    · omega
  · rw [q]
    rcases rot_cases s m e f hsm hme j with ⟨p, q⟩ | ⟨p, p2, x, rfl, q⟩ | ⟨p, p2, x, rfl, q⟩ | ⟨p, q⟩
    · omega
    · omega
    · rw [q]; exact h1 _ _ (by omega) (by omega) (by omega)
    · rw [q]; exact hr _ _ (by omega) (by omega) (by omega) (by omega)
  · rw [q]
    rcases rot_cases s m e f hsm hme j with ⟨p, q⟩ | ⟨p, p2, x, rfl, q⟩ | ⟨p, p2, x, rfl, q⟩ | ⟨p, q⟩
    · omega
    · omega
    · omega
    · rw [q]; exact h2 _ _ (by omega) (by omega) (by omega)

theorem Mg.same {S : Nat → Int} {f : Nat → UInt8} {a b : Nat} (h : Srt S f a b) : Mg S a b f f := ⟨h, fun i h1 h2 => ⟨i, h1, h2, rfl⟩, fun i h1 h2 => ⟨i, h1, h2, rfl⟩, fun _ _ => rfl⟩
theorem Srt.congr {S : Nat → Int} {f g : Nat → UInt8} {a b : Nat} (h : Srt S f a b) (e : ∀ k, a ≤ k → k < b → g k = f k) : Srt S g a b := fun i j h1 h2 h3 => by
  rw [e i h1 (by omega), e j (by omega) h3]; exact h i j h1 h2 h3
theorem Srt.part {S : Nat → Int} {f : Nat → UInt8} {a b c d : Nat} (h : Srt S f a b) (h1 : a ≤ c) (h2 : d ≤ b) : Srt S f c d := fun i j q1 q2 q3 => h i j (by omega) q2 (by omega)
/-- both halves put in order, one behind the other -/
theorem Mg.both {S : Nat → Int} {f g g2 g3 : Nat → UInt8} {a c b : Nat} (hac : a ≤ c) (hcb : c ≤ b) (s1 : Sub f g a b) (s2 : Sub g f a b) (o : Out f g a b) (h2 : Mg S a c g g2) (h3 : Mg S c b g2 g3)
    (hx : ∀ i j, a ≤ i → i < c → c ≤ j → j < b → ah S (g i) (g j)) : Mg S a b f g3 := by
  have L : ∀ i, a ≤ i → i < c → g3 i = g2 i := fun i h1 h2 => h3.out i (.inl h2)
  have R : ∀ i, c ≤ i → i < b → g2 i = g i := fun i h1 h4 => h2.out i (.inr h1)
  refine ⟨fun i j ai ij jb => ?_, fun i ai ib => ?_, fun i ai ib => ?_, fun i hi => ?_⟩
  · by_cases hj : j < c
    · rw [L i ai (by omega), L j (by omega) hj]; exact h2.srt i j ai ij hj
    · by_cases hi : c ≤ i
      · exact h3.srt i j hi ij jb
      · rw [L i ai (by omega)]
        obtain ⟨i', q1, q2, q3⟩ := h2.bus i ai (by omega)
        obtain ⟨j', r1, r2, r3⟩ := h3.bus j (by omega) jb
        rw [← q3, ← r3, R j' r1 r2]
        exact hx i' j' q1 q2 r1 r2
  · obtain ⟨j, q1, q2, q3⟩ := s1 i ai ib
    by_cases hj : j < c
    · obtain ⟨k, r1, r2, r3⟩ := h2.sub j q1 hj
      exact ⟨k, r1, by omega, by rw [L k r1 r2, r3, q3]⟩
    · obtain ⟨k, r1, r2, r3⟩ := h3.sub j (by omega) q2
      exact ⟨k, by omega, r2, by rw [r3, R j (by omega) q2, q3]⟩
  · by_cases hj : i < c
    · obtain ⟨k, r1, r2, r3⟩ := h2.bus i ai hj
      obtain ⟨l, t1, t2, t3⟩ := s2 k r1 (by omega)
      exact ⟨l, t1, t2, by rw [t3, r3, L i ai hj]⟩
    · obtain ⟨k, r1, r2, r3⟩ := h3.bus i (by omega) ib
      obtain ⟨l, t1, t2, t3⟩ := s2 k (by omega) r2
      exact ⟨l, t1, t2, by rw [t3, ← R k r1 r2, r3]⟩
  · rw [h3.out i (by omega), h2.out i (by omega), o i hi]
/-- one value put in downwards -/
theorem Mg.down {S : Nat → Int} {f : Nat → UInt8} {a m j : Nat} (h : Srt S f a m) (haj : a ≤ j) (hjm : j ≤ m) (hl : ∀ x, a ≤ x → x < j → ah S (f x) (f m)) (hr : ∀ x, j ≤ x → x < m → ah S (f m) (f x)) : Mg S a (m + 1) f (rot j m (m + 1) f) :=
  ⟨rot_srt (b := m + 1) h (fun i k h1 h2 h3 => by omega) haj hjm (by omega) (by omega) (fun x y _ _ _ _ => by omega) (fun y x h1 h2 h3 h4 => by (obtain rfl : y = m := by omega); exact hr x h3 h4)
    (fun x y h1 h2 h3 h4 => by (obtain rfl : y = m := by omega); exact hl x h1 h2) (fun x y _ _ _ _ => by omega),
   rot_sub j m (m + 1) a (m + 1) f hjm (by omega) haj (by omega), rot_bus j m (m + 1) a (m + 1) f hjm (by omega) haj (by omega),
   fun i hi => rot_out j m (m + 1) f hjm (by omega) i (by omega)⟩
/-- one value put in upwards -/
theorem Mg.up {S : Nat → Int} {f : Nat → UInt8} {a b i : Nat} (h : Srt S f (a + 1) b) (hai : a + 1 ≤ i) (hib : i ≤ b) (hl : ∀ x, a + 1 ≤ x → x < i → ah S (f x) (f a)) (hr : ∀ x, i ≤ x → x < b → ah S (f a) (f x)) : Mg S a b f (rot a (a + 1) i f) :=
  ⟨rot_srt (m := a + 1) (b := b) (fun i k h1 h2 h3 => by omega) h (by omega) (by omega) hai hib (fun x y _ _ _ _ => by omega) (fun y x h1 h2 h3 h4 => by (obtain rfl : x = a := by omega); exact hl y h1 h2)
    (fun x y h1 h2 h3 h4 => by omega) (fun x y h1 h2 h3 h4 => by (obtain rfl : x = a := by omega); exact hr y h3 h4),
   rot_sub a (a + 1) i a b f (by omega) hai (by omega) hib, rot_bus a (a + 1) i a b f (by omega) hai (by omega) hib,
   fun k hk => rot_out a (a + 1) i f (by omega) hai k (by omega)⟩
theorem Mg.trans {S : Nat → Int} {f g h : Nat → UInt8} {a b c : Nat} (s1 : Sub f g a b) (s2 : Sub g f a b) (o : Out f g a b) (hbc : b ≤ c) (h2 : Mg S a c g h) : Mg S a c f h := by
  refine ⟨h2.srt, fun i ai ib => ?_, fun i ai ib => ?_, fun i hi => ?_⟩
  · by_cases hi : i < b
    · obtain ⟨j, q1, q2, q3⟩ := s1 i ai hi
      obtain ⟨k, r1, r2, r3⟩ := h2.sub j q1 (by omega)
      exact ⟨k, r1, r2, by rw [r3, q3]⟩
    · obtain ⟨k, r1, r2, r3⟩ := h2.sub i ai ib
      exact ⟨k, r1, r2, by rw [r3, o i (by omega)]⟩
  · obtain ⟨k, r1, r2, r3⟩ := h2.bus i ai ib
    by_cases hk : k < b
    · obtain ⟨l, t1, t2, t3⟩ := s2 k r1 hk
      exact ⟨l, t1, by omega, by rw [t3, r3]⟩
    · exact ⟨k, r1, r2, by rw [← r3, o k (by omega)]⟩
  · rw [h2.out i hi, o i (by omega)]
end Go.Proofs.Ytomiligjcpmnjaa
