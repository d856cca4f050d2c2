/- WALK of the law PredictRound. -/
import Derived.Test.YtphcbeccipjlgaaFt
namespace Go.Proofs.Ytphcbeccipjlgaa
set_option maxRecDepth 100000
open Go.RowKit Go.Maps
set_option linter.unusedVariables false
set_option linter.unusedSimpArgs false

/-- the first n presses of a word, round and round -/
def per (wd : List UInt8) (n : Nat) : List UInt8 := (List.range n).map fun i => wd.getD (i % wd.length) 0
theorem per_len (wd : List UInt8) (n : Nat) : (per wd n).length = n := by unfold per; simp
theorem per_get (wd : List UInt8) (n i : Nat) (h : i < n) : (per wd n).getD i 0 = wd.getD (i % wd.length) 0 := by
  unfold per; simp [List.getD, h]
theorem per_succ (wd : List UInt8) (n : Nat) : per wd (n + 1) = per wd n ++ [wd.getD (n % wd.length) 0] := by
  unfold per; rw [List.range_succ, List.map_append]; rfl
theorem per_add (wd : List UInt8) (t : Nat) : ∀ j, j ≤ wd.length → per wd (wd.length * t + j) = per wd (wd.length * t) ++ wd.take j
  | 0, _ => by simp
  | j + 1, h => by
    rw [← Nat.add_assoc, per_succ, per_add wd t j (by omega), List.append_assoc]
    congr 1
    have e : (wd.length * t + j) % wd.length = j := by rw [Nat.mul_add_mod, Nat.mod_eq_of_lt (by omega)]
    rw [e, List.take_add_one]
    congr 1
    rw [List.getD, List.getElem?_eq_getElem (by omega)]; rfl
theorem per_round (wd : List UInt8) (t : Nat) : per wd (wd.length * (t + 1)) = per wd (wd.length * t) ++ wd := by
  rw [Nat.mul_add, Nat.mul_one, per_add wd t wd.length (Nat.le_refl _), List.take_length]
theorem wts_none (o : Nat) (e p : List UInt8) (v : Nat) : ∀ m, (∀ i, i < m → ¬ hit o e p i v) → wts o e p m v = 0
  | 0, _ => rfl
  | m + 1, h => by
    have h0 : wts o e p (m + 1) v = wts o e p m v + (if hit o e p m v then 1 else 0) := rfl
    rw [h0, wts_none o e p v m (fun i hi => h i (by omega)), if_neg (h m (by omega))]; rfl
theorem wts_some (o : Nat) (e p : List UInt8) (v i : Nat) (hh : hit o e p i v) : ∀ m, i < m → 1 ≤ wts o e p m v
  | 0, h => by omega
  | m + 1, h => by
    have h0 : wts o e p (m + 1) v = wts o e p m v + (if hit o e p m v then 1 else 0) := rfl
    have h1 := wts_nonneg o e p v m
    by_cases c : i = m
    · subst c; rw [h0, if_pos hh]; omega
    · have := wts_some o e p v i hh m (by omega)
      rw [h0]; split <;> omega
/-- each press once -/
def Uni (wd : List UInt8) (n : Nat) : Prop := ∀ a b, b < a → a < n → wd.getD a 0 ≠ wd.getD b 0
theorem one_take (p : List UInt8) (i : Nat) (h : i < p.length) : (p.drop i).take 1 = [p.getD i 0] := by
  rw [List.drop_eq_getElem_cons h, List.take_succ_cons, List.take_zero, List.getD, List.getElem?_eq_getElem h]; rfl
theorem per_hit (wd : List UInt8) (n i v : Nat) (h0 : 0 < wd.length) (hu : Uni wd wd.length) (hn : 0 < n) (hi : i < n) : hit 1 (endN 1 (per wd n)) (per wd n) i v ↔ 1 ≤ i ∧ (i - 1) % wd.length = (n - 1) % wd.length ∧ (wd.getD (i % wd.length) 0).toNat = v := by
  unfold hit
  have e1 : endN 1 (per wd n) = [wd.getD ((n - 1) % wd.length) 0] := by
    unfold endN
    have := one_take (per wd n) (n - 1) (by rw [per_len]; omega)
    rw [per_get wd n (n - 1) (by omega)] at this
    rw [per_len, ← this, List.take_of_length_le (by rw [List.length_drop, per_len]; omega)]
  rw [per_get wd n i hi, e1]
  by_cases h1 : 1 ≤ i
  · rw [one_take (per wd n) (i - 1) (by rw [per_len]; omega), per_get wd n (i - 1) (by omega)]
    have hA := Nat.mod_lt (i - 1) h0
    have hB := Nat.mod_lt (n - 1) h0
    constructor
    · rintro ⟨_, q, r⟩
      refine ⟨h1, ?_, r⟩
      injection q with q _
      rcases Nat.lt_trichotomy ((i - 1) % wd.length) ((n - 1) % wd.length) with c | c | c
      · exact absurd q.symm (hu _ _ c hB)
      · exact c
      · exact absurd q (hu _ _ c hA)
    · rintro ⟨_, q, r⟩
      exact ⟨h1, by rw [q], r⟩
  · constructor
    · rintro ⟨q, _⟩; exact absurd q h1
    · rintro ⟨q, _⟩; exact absurd q h1
theorem mod_next {a b W : Nat} (h : a % W = b % W) : (a + 1) % W = (b + 1) % W := by rw [Nat.add_mod, h, ← Nat.add_mod]
def kMk : Kd := ⟨2, 1, []⟩
theorem per_nxt (wd : List UInt8) (n : Nat) (h0 : 0 < wd.length) (hu : Uni wd wd.length) (hn : wd.length < n) : nxt kMk (per wd n) = wd.getD (n % wd.length) 0 := by
  refine nxt_weight rfl (fun u hne => ?_)
  show wts 1 (endN 1 (per wd n)) (per wd n) (per wd n).length u.toNat < wts 1 (endN 1 (per wd n)) (per wd n) (per wd n).length _
  rw [per_len]
  have hz := wts_none 1 (endN 1 (per wd n)) (per wd n) u.toNat n (fun i hi hh => by
    obtain ⟨q1, q2, q3⟩ := (per_hit wd n i u.toNat h0 hu (by omega) hi).1 hh
    have e := mod_next q2
    rw [show i - 1 + 1 = i by omega, show n - 1 + 1 = n by omega] at e
    rw [e] at q3
    exact hne (UInt8.toNat_inj.1 q3.symm))
  have hp := wts_some 1 (endN 1 (per wd n)) (per wd n) (wd.getD (n % wd.length) 0).toNat (n - wd.length) ((per_hit wd n (n - wd.length) _ h0 hu (by omega) (by omega)).2 ⟨by omega, by
    rw [show n - wd.length - 1 = (n - 1) - wd.length by omega]
    exact (Nat.mod_eq_sub_mod (show n - 1 ≥ wd.length by omega)).symm, by
    rw [show (n - wd.length) % wd.length = n % wd.length from (Nat.mod_eq_sub_mod (show n ≥ wd.length by omega)).symm]⟩) n (by omega)
  rw [hz]
  omega
theorem per_chain (wd : List UInt8) (h0 : 0 < wd.length) (hu : Uni wd wd.length) : ∀ m n i, wd.length < n → i < m → (chN kMk m (per wd n)).getD i 0 = wd.getD ((n + i) % wd.length) 0
  | 0, n, i, hn, h => by omega
  | m + 1, n, 0, hn, h => by rw [chN, List.getD_cons_zero, per_nxt wd n h0 hu hn, Nat.add_zero]
  | m + 1, n, i + 1, hn, h => by
    rw [chN, List.getD_cons_succ, per_nxt wd n h0 hu hn, ← per_succ, per_chain wd h0 hu m (n + 1) i (by omega) (by omega)]
    congr 2; omega
set_option maxHeartbeats 4000000 in
theorem round_law (A0 : Option Addr) (l0 : List UInt8) (cap0 : Nat) (times n : Int) (w : World) (h0 : RB w w.heap.size A0 l0) (k0 : l0.length ≤ cap0) (m0 : cap0 ≤ maxLen) :
    Calls Try.prog 7 #[.slice A0 l0.length cap0, .int .i64 times, .int .i64 n] w fun e w' => e = .returned (.bool true) ∧ Below w.heap.size w w' := by
  have HG := Lib.hid (begun18_any w)
  obtain ⟨wd, hwd⟩ : ∃ p, l0.take 6 = p := ⟨_, rfl⟩
  obtain ⟨W, hW⟩ : ∃ L, wd.length = L := ⟨_, rfl⟩
  obtain ⟨hW6, hWc⟩ : W ≤ 6 ∧ W ≤ cap0 := by rw [← hwd, List.length_take] at hW; omega
  have HS0 := Lib.hid (fun X => short_n A0 l0 l0.length cap0 6 X rfl (by omega) k0 m0 W (by rw [hwd, hW]) 6 rfl)
  have HP : Hid (PM w A0 wd W cap0) := ⟨hW, hWc, m0, by rw [← hwd]; exact h0.take 6⟩
  obtain ⟨n00, hn00⟩ : ∃ n00, l0.length = n00 := ⟨_, rfl⟩
  rw [hn00] at HS0 ⊢
  have HL := Lib.hid hW
  clear h0 k0 m0 hwd hn00 hW
  go_enter Try.func7, Try.ntmps7
  go_wp2_with fail
  (with_reducible refine HG.out.mono ?_)
  rintro e w2 ⟨rfl, hb2⟩
  have HB2 := Lib.hid hb2
  have HP2 := Lib.hid (HP.out.then_ hb2)
  clear hb2 HP HG
  go_wp2_with fail
  (with_reducible refine (HS0.out _).mono ?_)
  rintro e w3 ⟨rfl, rfl⟩
  clear HS0
  by_cases g3 : W = 0
  · subst g3
    go_wp2_with fail
    go_ret
    exact ⟨rfl, HB2.out⟩
  have g3z : ((W : Int) == 0) = false := by simp; omega
  have g3y : ¬ (W : Int) = 0 := by omega
  by_cases g1 : times < 2
  · go_wp2_with fail
    go_ret
    exact ⟨rfl, HB2.out⟩
  by_cases g2 : 8 < times
  · go_wp2_with fail
    go_ret
    exact ⟨rfl, HB2.out⟩
  by_cases g4 : n < 0
  · go_wp2_with fail
    go_ret
    exact ⟨rfl, HB2.out⟩
  by_cases g5 : 30 < n
  · go_wp2_with fail
    go_ret
    exact ⟨rfl, HB2.out⟩
  obtain ⟨N, rfl⟩ : ∃ N : Nat, n = N := ⟨n.toNat, by omega⟩
  obtain ⟨T, rfl⟩ : ∃ N : Nat, times = N := ⟨times.toNat, by omega⟩
  have hN : N ≤ 30 := by omega
  have hT2 : 2 ≤ T := by omega
  have hT8 : T ≤ 8 := by omega
  have hW1 : 0 < W := by omega
  go_wp2_with fail
  go_loopw [8] (fun v wr => ∃ i : Nat, v = .int .i64 i ∧ i ≤ W ∧ (∃ k, w2.drewN k = wr) ∧ Hid (Uni wd i)) (fun v _ => W - (intOf v).toNat)
  case atStart => exact ⟨0, rfl, by omega, ⟨0, rfl⟩, fun a b h1 h2 => by omega⟩
  case round =>
    obtain ⟨i, rfl, hi, ⟨k, hwr⟩, HU⟩ := hrel
    have HWR := Lib.hid hwr
    clear hwr
    by_cases hlt : i < W
    · have hltz : (i : Int) < (W : Int) := by omega
      go_wp2_with fail
      go_loopw [9] (fun v wr => ∃ j : Nat, v = .int .i64 j ∧ j ≤ i ∧ (∃ k, w2.drewN k = wr) ∧ Hid (∀ b, b < j → wd.getD i 0 ≠ wd.getD b 0)) (fun v _ => i - (intOf v).toNat)
      case atStart => exact ⟨0, rfl, by omega, ⟨k, HWR.out⟩, fun b h => by omega⟩
      case round =>
        clear HWR
        obtain ⟨j, rfl, hj, ⟨k2, hwr2⟩, HV⟩ := hrel
        have HPr : Hid (RB wr w2.heap.size A0 wd) := by rw [← hwr2]; exact HP2.out.t.below (below_drewN (Below.refl _ _) k2)
        have HBr : Hid (Below w.heap.size w wr) := by rw [← hwr2]; exact below_drewN HB2.out k2
        have HWR := Lib.hid hwr2
        clear hwr2
        by_cases hlj : j < i
        · have hljz : (j : Int) < (i : Int) := by omega
          obtain ⟨ta, tq, rfl, hta, -⟩ := HPr.out (by rw [HL.out]; omega)
          have ci := HPr.out.cell_ i (by rw [HL.out]; exact hlt)
          have cj := HPr.out.cell_ j (by rw [HL.out]; omega)
          have hjW : j < W := by omega
          obtain ⟨x, hx⟩ : ∃ x, wd.getD i 0 = x := ⟨_, rfl⟩
          obtain ⟨y, hy⟩ : ∃ y, wd.getD j 0 = y := ⟨_, rfl⟩
          rw [hx] at ci
          rw [hy] at cj
          obtain ⟨X, hX⟩ : ∃ X : Int, (x.toNat : Int) = X := ⟨_, rfl⟩
          obtain ⟨Y, hY⟩ : ∃ Y : Int, (y.toNat : Int) = Y := ⟨_, rfl⟩
          rw [hX] at ci
          rw [hY] at cj
          have HBd : Hid (Below w.heap.size w wr.drew) := HBr.out.drew
          have HWd : Hid (∃ k, w2.drewN k = wr.drew) := ⟨k2 + 1, by rw [← HWR.out]; rfl⟩
          by_cases e : X = Y
          · have ez : (X == Y) = true := by simp [e]
            subst e
            clear hx hy hX hY HV
            go_wp2_with fail
            go_big_region
            all_goals go_wp2_with fail
            all_goals go_ret
            all_goals exact ⟨rfl, HBd.out⟩
          · have ez : (X == Y) = false := by simpa using e
            have HV2 : Hid (∀ b, b < j + 1 → wd.getD i 0 ≠ wd.getD b 0) := fun b hb => by
              by_cases c : b = j
              · rw [c, hx, hy]; intro h; rw [h] at hX; exact e (hX.symm.trans hY)
              · exact HV.out b (by omega)
            clear hx hy hX hY HV
            go_wp2_with fail
            go_big_region
            all_goals go_wp2_with fail
            all_goals exact ⟨⟨j + 1, by go_num, by omega, HWd.out, HV2⟩, by simp [intOf]; omega⟩
        · obtain rfl : j = i := by omega
          have hljz : ¬ (j : Int) < (j : Int) := by omega
          have HU2 : Hid (Uni wd (j + 1)) := fun a b h1 h2 => by
            by_cases c : a = j
            · subst c; exact HV.out b h1
            · exact HU.out a b h1 (by omega)
          go_wp2_with fail
          exact ⟨⟨j + 1, by go_num, by omega, ⟨k2, HWR.out⟩, HU2⟩, by simp [intOf]; omega⟩
    · obtain rfl : i = W := by omega
      have hltz : ¬ (i : Int) < (i : Int) := by omega
      have HPr : Hid (PM wr A0 wd i cap0) := by rw [← HWR.out]; exact HP2.out.then_ (below_drewN (Below.refl _ _) k)
      have HBr : Hid (Below w.heap.size w wr) := by rw [← HWR.out]; exact below_drewN HB2.out k
      obtain ⟨w5, hw5⟩ : ∃ w5, wr = w5 := ⟨_, rfl⟩
      rw [hw5] at HPr HBr ⊢
      clear hw5 HWR hlt hi HP2 HB2
      have hPsl : Hid (Value.slice A0 i cap0 = .slice A0 wd.length cap0) := by rw [HL.out]; rfl
      go_wp2_with fail
      go_loopw [10, 11] (fun s10 s11 wr => ∃ (t : Nat) (v : Value), s10 = v ∧ s11 = .int .i64 t ∧ t ≤ T ∧ Hid (OB wr w5.heap.size v (per wd (i * t))) ∧ Hid (Below w5.heap.size w5 wr)) (fun _ v _ => T - (intOf v).toNat)
      case atStart => exact ⟨0, _, rfl, rfl, by omega, by
        have : per wd (i * 0) = [] := by rw [Nat.mul_zero]; rfl
        rw [this]; exact OB.nil _ _, Below.refl _ _⟩
      case round =>
        obtain ⟨t, v, rfl, rfl, ht, HO, HB⟩ := hrel
        by_cases htl : t < T
        · have htz : (t : Int) < (T : Int) := by omega
          have R1 := HPr.out.t.below HB.out
          have hlen : (per wd (i * t)).length + wd.length ≤ 140737488355328 := by
            rw [per_len, HL.out]
            have : i * t ≤ 6 * 8 := Nat.mul_le_mul hW6 (by omega)
            omega
          have hro : Hid (per wd (i * t) ++ wd = per wd (i * (t + 1))) := by
            have := per_round wd t
            rw [HL.out] at this
            exact this.symm
          have hO := HO.out
          have hsz := HB.out.size
          go_wp2_with (at_builtin; refine wpList_append_bytes rfl (.tmp 63) (.tmp 64) rfl w5.heap.size _ (per wd (i * t)) wd rfl hO w5.heap.size A0 cap0 hPsl.out R1 hlen hsz ?_; intro v11 w11 O11 G11 E11)
          refine ⟨⟨t + 1, v11, rfl, by go_num, by omega, ?_, HB.out.grown G11 hsz HO.out.ge⟩, by simp [intOf]; omega⟩
          rw [← hro.out]; exact O11
        · obtain rfl : t = T := by omega
          have htz : ¬ (t : Int) < (t : Int) := by omega
          obtain ⟨L, hLL⟩ : ∃ L, i * t = L := ⟨_, rfl⟩
          have hL48 : L ≤ 48 := by rw [← hLL]; exact Nat.mul_le_mul hW6 hT8
          have hiL : i < L := by
            have : i * 2 ≤ i * t := Nat.mul_le_mul_left i hT2
            omega
          rw [hLL] at HO
          obtain ⟨A9, c9, rfl, hc9, hm9, hr9⟩ := HO.out.form_n L (per_len _ _)
          have HC := Lib.hid (chain_at kMk 2 1 rfl rfl none 0 0 A9 (per wd L) L c9 N wr (km_nil wr kMk (.inr (.inl ⟨rfl, by decide, rfl⟩)) rfl) ⟨per_len _ _, hc9, hm9, hr9⟩ (by omega) N (by omega) _ rfl)
          have HLL := Lib.hid hLL
          have HB5 := Lib.hid (HBr.out.trans (HB.out.mono HBr.out.size))
          have HP5 := Lib.hid (HPr.out.then_ HB.out)
          clear hr9 HO HB HPr HBr hLL htl
          go_wp2_with fail
          (with_reducible refine HC.out.mono ?_)
          rintro e w6 ⟨⟨A', c', rfl, hNc, hc', hr'⟩, hb6⟩
          have HB6 := Lib.hid (HB5.out.trans (hb6.mono HB5.out.size))
          have HR := Lib.hid hr'
          have HP6 := Lib.hid (HP5.out.then_ hb6)
          clear hb6 hr' HC HP5 HB5
          go_wp2_with fail
          go_loopw [13] (fun v wr => ∃ j : Nat, v = .int .i64 j ∧ j ≤ N ∧ ∃ k, w6.drewN k = wr) (fun v _ => N - (intOf v).toNat)
          case atStart => exact ⟨0, rfl, by omega, 0, rfl⟩
          case round =>
            obtain ⟨j, rfl, hj, k, hwr⟩ := hrel
            have HRr : Hid (RB wr w6.heap.size A' (chN kMk N (per wd L))) := by rw [← hwr]; exact HR.out.below (below_drewN (Below.refl _ _) k)
            have HTr : Hid (RB wr w6.heap.size A0 wd) := by rw [← hwr]; exact HP6.out.t.below (below_drewN (Below.refl _ _) k)
            have HBr : Hid (Below w.heap.size w wr) := by rw [← hwr]; exact below_drewN HB6.out k
            have HNew : Hid (∃ k, w6.drewN k = wr.drew) := ⟨k + 1, by rw [← hwr]; rfl⟩
            clear hwr
            by_cases hlt : j < N
            · have hltz : (j : Int) < (N : Int) := by omega
              have hlen : (chN kMk N (per wd L)).length = N := chN_len _ _ _
              obtain ⟨cb, co, rfl, hcb, -⟩ := HRr.out (by rw [hlen]; omega)
              obtain ⟨ta, tq, rfl, hta, -⟩ := HTr.out (by rw [HL.out]; omega)
              have cx := HRr.out.cell_ j (by rw [hlen]; exact hlt)
              obtain ⟨r, hr⟩ : ∃ r : Nat, (j : Int).tmod (i : Int) = r := ⟨j % i, by rw [Int.tmod_eq_emod_of_nonneg (by omega)]; rfl⟩
              have hrn : r = j % i := by rw [Int.tmod_eq_emod_of_nonneg (by omega)] at hr; exact_mod_cast hr.symm
              have hrlt : r < i := by rw [hrn]; exact Nat.mod_lt _ (by omega)
              have hx : (chN kMk N (per wd L)).getD j 0 = wd.getD r 0 := by
                have := per_chain wd (by rw [HL.out]; omega) (by rw [HL.out]; exact HU.out) N L j (by rw [HL.out]; exact hiL) hlt
                rw [this, HL.out, hrn, ← HLL.out, Nat.mul_add_mod]
              have ct := HTr.out.cell_ r (by rw [HL.out]; exact hrlt)
              rw [hx] at cx
              obtain ⟨y, hy⟩ : ∃ y : Int, ((wd.getD r 0).toNat : Int) = y := ⟨_, rfl⟩
              rw [hy] at cx ct
              clear hlen hx hy hrn
              go_wp2_with fail
              go_big_region
              all_goals go_wp2_with fail
              all_goals exact ⟨⟨j + 1, by go_num, by omega, HNew.out⟩, by simp [intOf]; omega⟩
            · obtain rfl : j = N := by omega
              have hltz : ¬ (j : Int) < (j : Int) := by omega
              go_wp2_with fail
              go_ret
              exact ⟨by simp, HBr.out⟩
end Go.Proofs.Ytphcbeccipjlgaa
