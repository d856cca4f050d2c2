/- WALK of the law PageAgain. -/
import Derived.Test.YtfpoeilamfcmjaaBe
namespace Go.Proofs.Ytfpoeilamfcmjaa
set_option maxRecDepth 100000
open Go.RowKit
set_option linter.unusedVariables false
set_option linter.unusedSimpArgs false

/-- N pages by a function -/
def gen (N : Nat) (f : Nat → Sh) : List Sh := (List.range N).map f
theorem gen_len (N : Nat) (f : Nat → Sh) : (gen N f).length = N := by unfold gen; simp
theorem gen_at (N : Nat) (f : Nat → Sh) (j : Nat) (h : j < N) : shAt (gen N f) j = f j := by
  unfold shAt gen; rw [List.getElem?_map, List.getElem?_range h]; rfl
theorem gen_congr {N : Nat} {f g : Nat → Sh} (h : ∀ j, j < N → f j = g j) : gen N f = gen N g := by
  unfold gen; exact List.map_congr_left (fun j hj => h j (List.mem_range.1 hj))
theorem gen_set (N : Nat) (f : Nat → Sh) (k : Nat) (s : Sh) : (gen N f).set k s = gen N (fun j => if j = k then s else f j) := by
  apply List.ext_getElem?
  intro j
  unfold gen
  by_cases h : j < N
  · by_cases e : j = k
    · subst e; rw [List.getElem?_set_self (by simpa using h), List.getElem?_map, List.getElem?_range h]; simp
    · rw [List.getElem?_set_ne (fun x => e x.symm), List.getElem?_map, List.getElem?_map, List.getElem?_range h]; simp [e]
  · rw [List.getElem?_eq_none (by simp; omega), List.getElem?_eq_none (by simp; omega)]
theorem gen_rep (N : Nat) : List.replicate N zS = gen N (fun _ => zS) := by
  apply List.ext_getElem?
  intro j
  unfold gen
  rw [List.getElem?_replicate, List.getElem?_map]
  by_cases h : j < N
  · rw [if_pos h, List.getElem?_range h]; rfl
  · rw [if_neg h, List.getElem?_eq_none (by simp; omega)]; rfl
theorem usedN_all (l : List Sh) (h : ∀ s ∈ l, 0 < s.r) : usedN l = l.length := by
  unfold usedN; rw [List.filter_eq_self.2 (fun s hs => by simpa using h s hs)]
theorem usedN_gen (N : Nat) (f : Nat → Sh) (h : ∀ j, j < N → 0 < (f j).r) : usedN (gen N f) = N := by
  rw [usedN_all _ (fun s hs => by unfold gen at hs; obtain ⟨j, hj, rfl⟩ := List.mem_map.1 hs; exact h j (List.mem_range.1 hj)), gen_len]
def agP (v : Int) (j : Nat) : Sh := ⟨1, shPut zN ((j + 1) % 8) v⟩
def agF (v : Int) (k j : Nat) : Sh := if j < k then agP v j else zS
def agG (v : Int) (k j : Nat) : Sh := if j < k then agP v j else ⟨1, zN⟩
theorem agF_zero (v : Int) (N : Nat) : List.replicate N zS = gen N (agF v 0) := by
  rw [gen_rep]; exact gen_congr (fun j _ => by unfold agF; rw [if_neg (by omega)])
theorem agF_full (v : Int) (N : Nat) : gen N (agF v N) = gen N (agG v N) := gen_congr (fun j h => by unfold agF agG; rw [if_pos h, if_pos h])
theorem agF_step (v : Int) (N k : Nat) : gen N (agF v (k + 1)) = ((gen N (agF v k)).set k ⟨1, zN⟩).set k (agP v k) := by
  rw [gen_set, gen_set]
  refine gen_congr (fun j h => ?_)
  unfold agF
  by_cases e : j = k
  · subst e; rw [if_pos (by omega)]; simp
  · simp only [if_neg e]
    by_cases e2 : j < k
    · rw [if_pos (by omega), if_pos e2]
    · rw [if_neg (by omega), if_neg e2]
theorem agG_step (v : Int) (N c : Nat) (s : Sh) : gen N (agG v c) = ((gen N (agG v (c + 1))).set c s).set c ⟨1, zN⟩ := by
  rw [gen_set, gen_set]
  refine gen_congr (fun j h => ?_)
  unfold agG
  by_cases e : j = c
  · subst e; rw [if_neg (by omega)]; simp
  · simp only [if_neg e]
    by_cases e2 : j < c
    · rw [if_pos (by omega), if_pos (by omega)]
    · rw [if_neg (by omega), if_neg (by omega)]
theorem agF_r (v : Int) (k j : Nat) (h : j < k) : (agF v k j).r = 1 := by unfold agF; rw [if_pos h]; rfl
theorem agF_0 (v : Int) (k : Nat) : (agF v k k).r = 0 := by unfold agF; rw [if_neg (by omega)]; rfl
theorem agG_r (v : Int) (k j : Nat) : (agG v k j).r = 1 := by unfold agG; split <;> rfl
theorem ag_tmod (k : Nat) (z : Int) (hz : z = k + 1) : z.tmod 8 = (((k + 1) % 8 : Nat) : Int) := by
  rw [hz, Int.tmod_eq_emod_of_nonneg (by omega)]
  exact (Int.natCast_emod (k + 1) 8).symm
set_option maxHeartbeats 4000000 in
theorem again_law (n v : Int) (w : World) (n0 : -9223372036854775808 ≤ n) (n1 : n ≤ 9223372036854775807) :
    Calls Try.prog 4 #[.int .i64 n, .int .i32 v] w fun e w' => e = .returned (.bool true) ∧ Below w.heap.size w w' := by
  have HBg := Lib.hid begun10_any
  by_cases g1 : n < 1
  · go_enter Try.func4, Try.ntmps4
    go_wp2_with (go_at_call 8; with_reducible refine (HBg.out _).mono ?_; rintro e w0 ⟨rfl, B0⟩; have B := Lib.hid B0; clear B0)
    go_ret
    exact ⟨rfl, B.out⟩
  by_cases g2 : n > 50
  · go_enter Try.func4, Try.ntmps4
    go_wp2_with (go_at_call 8; with_reducible refine (HBg.out _).mono ?_; rintro e w0 ⟨rfl, B0⟩; have B := Lib.hid B0; clear B0)
    go_ret
    exact ⟨rfl, B.out⟩
  obtain ⟨N, hN⟩ : ∃ N : Nat, n = N := ⟨n.toNat, by omega⟩
  subst hN
  have hN1 : 1 ≤ N := by omega
  have hN50 : N ≤ 50 := by omega
  have HN : Hid (∀ w, Calls Try.prog 9 #[.int .i64 (N : Int)] w fun e w' => ∃ P A, e = .returned (.pointer (some ⟨P, 0, none⟩)) ∧ w.heap.size ≤ A ∧ w.heap.size ≤ P ∧ RM w' P A (gen N (agF v 0)) ∧ Below w.heap.size w w') := fun w => agF_zero v N ▸ new_any N N (by omega) w
  go_enter Try.func4, Try.ntmps4
  go_wp2_with (first
        | (go_at_call 8; with_reducible refine (HBg.out _).mono ?_; rintro e w0 ⟨rfl, B0⟩; have B := Lib.hid B0; clear B0)
        | (go_at_call 9; with_reducible refine (HN.out _).mono ?_; rintro e w1 ⟨P, A, rfl, hA0, hP0, R0, B0⟩; have hA : w.heap.size ≤ A := Nat.le_trans B.out.size hA0; have R := Lib.hid R0; replace B := Lib.hid (B.out.trans (B0.mono B.out.size)); clear R0 B0 hA0 hP0))
  go_loopw [7] (fun i wr => ∃ (k : Nat) (z : Int), i = .int .i64 z ∧ Hid (z = k + 1) ∧ 1 ≤ z ∧ z ≤ 51 ∧ k ≤ N ∧ Hid (RM wr P A (gen N (agF v k))) ∧ Hid (Below w.heap.size w wr)) (fun i _ => 52 - (intOf i).toNat)
  case atStart => exact ⟨0, 1, rfl, rfl, by omega, by omega, by omega, R, B⟩
  case round =>
    obtain ⟨k, z, rfl, hz, z1, z2, hk, R2, B2⟩ := hrel
    clear R B; have R := R2; have B := B2; clear R2 B2
    by_cases hlt : k < N
    · have hzc : z ≤ (N : Int) := by have := hz.out; omega
      have ht := ag_tmod k z hz.out
      have hm8 : (k + 1) % 8 < 8 := by omega
      have hag : Hid (agP v k = ⟨1, shPut zN ((k + 1) % 8) v⟩) := rfl
      generalize hmm : (k + 1) % 8 = m at *
      clear hmm
      have HT : Hid (∀ W P A, RM W P A (gen N (agF v k)) → Calls Try.prog 10 #[.pointer (some ⟨P, 0, none⟩)] W fun e w' => e = .returned (.tuple #[.int .i64 (z), .bool true]) ∧ Upd W w' P A ((gen N (agF v k)).set k ⟨1, zN⟩)) := fun W P A R => take_hit W P A _ R k (by rw [gen_len]; exact hlt) (by rw [gen_at _ _ _ hlt, agF_0]) (fun j hj => by rw [gen_at _ _ _ (by omega), agF_r v k j hj]; omega) z hz.out _ rfl
      have HS : Hid (∀ W P A, RM W P A ((gen N (agF v k)).set k ⟨1, zN⟩) → Calls Try.prog 14 #[.pointer (some ⟨P, 0, none⟩), .int .i64 (z), .int .i64 (m : Int), .int .i32 v] W fun e w' => e = .returned (.bool true) ∧ Upd W w' P A (gen N (agF v (k + 1)))) := fun W P A R => set_in W P A _ R z m v k m hz.out (by rw [List.length_set, gen_len]; exact hlt) (by rw [shAt_set (by rw [gen_len]; exact hlt), if_pos rfl]) rfl hm8 _ (by rw [shAt_set (by rw [gen_len]; exact hlt), if_pos rfl, agF_step, hag.out])
      have hmh : 0 ≤ (m : Int) := by omega
      go_wp2_with (first
        | (go_at_call 10; with_reducible refine (HT.out _ P A R.out).mono ?_; rintro e w1 ⟨rfl, U⟩; replace R := Lib.hid U.rm; replace B := Lib.hid (B.out.grown U.gr B.out.size (fun k e => by have := Option.some.inj e; omega)); clear U)
        | (go_at_call 14; with_reducible refine (HS.out _ P A R.out).mono ?_; rintro e w1 ⟨rfl, U⟩; replace R := Lib.hid U.rm; replace B := Lib.hid (B.out.grown U.gr B.out.size (fun k e => by have := Option.some.inj e; omega)); clear U))
      go_roundw
      case rel => exact ⟨k + 1, z + 1, by first | rfl | go_num, by have := hz.out; unfold Hid; omega, by omega, by omega, by omega, R, B⟩
      case measure => simp [intOf]; omega
    · obtain rfl : k = N := by omega
      have hzc : ¬ z ≤ (k : Int) := by have := hz.out; omega
      have HT : Hid (∀ W P A, RM W P A (gen k (agF v k)) → Calls Try.prog 10 #[.pointer (some ⟨P, 0, none⟩)] W fun e w' => e = .returned (.tuple #[.int .i64 0, .bool false]) ∧ Below W.heap.size W w') := fun W P A R => take_miss W P A _ R (fun j hj => by rw [gen_len] at hj; rw [gen_at _ _ _ hj, agF_r v k j hj]; omega)
      have HU : Hid (∀ W P A, RM W P A (gen k (agG v 0)) → Calls Try.prog 17 #[.pointer (some ⟨P, 0, none⟩)] W fun e w' => e = .returned (.int .i64 (k : Int)) ∧ Below W.heap.size W w') := fun W P A R => used_any W P A _ R k (by rw [usedN_gen k _ (fun j _ => by rw [agG_r]; omega)])
      go_wp2_with (go_at_call 10; with_reducible refine (HT.out _ P A R.out).mono ?_; rintro e w1 ⟨rfl, U⟩; replace R := Lib.hid (R.out.belows U); replace B := Lib.hid (B.out.trans (U.mono B.out.size)); clear U)
      rw [agF_full] at R
      go_loopw [12] (fun i wr => ∃ (c : Nat) (y : Int), i = .int .i64 y ∧ Hid (y = c) ∧ 0 ≤ y ∧ y ≤ 50 ∧ c ≤ k ∧ Hid (RM wr P A (gen k (agG v c))) ∧ Hid (Below w.heap.size w wr)) (fun i _ => (intOf i).toNat)
      case atStart => exact ⟨k, _, rfl, rfl, by omega, by omega, by omega, R, B⟩
      case round =>
        obtain ⟨c', y, rfl, hy, y0, y1, hc, R2, B2⟩ := hrel
        clear R B; have R := R2; have B := B2; clear R2 B2
        by_cases hc0 : c' = 0
        · subst hc0
          obtain rfl : y = 0 := hy.out
          go_wp2_with (go_at_call 17; with_reducible refine (HU.out _ P A R.out).mono ?_; rintro e w1 ⟨rfl, U⟩; replace R := Lib.hid (R.out.belows U); replace B := Lib.hid (B.out.trans (U.mono B.out.size)); clear U)
          go_ret
          exact ⟨rfl, B.out⟩
        · obtain ⟨c, rfl⟩ : ∃ c, c' = c + 1 := ⟨c' - 1, by omega⟩
          have hcl : c < k := by omega
          have hyz : Hid (y = c + 1) := by have := hy.out; unfold Hid; omega
          have hy1 : y ≥ 1 := by have := hyz.out; omega
          have ht := ag_tmod c y hyz.out
          have hm8 : (c + 1) % 8 < 8 := by omega
          generalize hmm : (c + 1) % 8 = m at *
          clear hmm
          have HL : Hid (∀ s : Sh, c < ((gen k (agG v (c + 1))).set c s).length) := fun s => by rw [List.length_set, gen_len]; exact hcl
          have HL0 : Hid (c < (gen k (agG v (c + 1))).length) := by unfold Hid; rw [gen_len]; exact hcl
          have HA0 : Hid ((shAt (gen k (agG v (c + 1))) c).r = 1) := by unfold Hid; rw [gen_at _ _ _ hcl, agG_r]
          obtain ⟨s, hs⟩ : ∃ s : Sh, s = ⟨(shAt (gen k (agG v (c + 1))) c).r - 1, (shAt (gen k (agG v (c + 1))) c).on⟩ := ⟨_, rfl⟩
          have HS0 : Hid (s.r = 0) := by unfold Hid; rw [hs]; show (shAt (gen k (agG v (c + 1))) c).r - 1 = 0; rw [HA0.out]; rfl
          have HSet := Lib.hid (agG_step v k c s)
          have HD1 : Hid (∀ W P A, RM W P A (gen k (agG v (c + 1))) → Calls Try.prog 13 #[.pointer (some ⟨P, 0, none⟩), .int .i64 (y)] W fun e w' => e = .returned (.bool true) ∧ Upd W w' P A ((gen k (agG v (c + 1))).set c s)) := fun W P A R => drop_in W P A _ R y c hyz.out HL0.out (by rw [HA0.out]; omega) (by rw [HA0.out]; omega) (by rw [HA0.out]; omega) _ (by rw [hs])
          have HD2 : Hid (∀ W P A, RM W P A ((gen k (agG v (c + 1))).set c s) → Calls Try.prog 13 #[.pointer (some ⟨P, 0, none⟩), .int .i64 (y)] W fun e w' => e = .returned (.bool false) ∧ W = w') := fun W P A R => drop_out W P A _ R y (by rw [pg_at _ y c hyz.out, shAt_set HL0.out, if_pos rfl, HS0.out])
          have HT2 : Hid (∀ W P A, RM W P A ((gen k (agG v (c + 1))).set c s) → Calls Try.prog 10 #[.pointer (some ⟨P, 0, none⟩)] W fun e w' => e = .returned (.tuple #[.int .i64 (y), .bool true]) ∧ Upd W w' P A (gen k (agG v c))) := fun W P A R => take_hit W P A _ R c (HL.out s) (by rw [shAt_set HL0.out, if_pos rfl, HS0.out]) (fun j hj => by rw [shAt_set HL0.out, if_neg (by omega), gen_at _ _ _ (by omega), agG_r]; omega) y hyz.out _ HSet.out
          have HG : Hid (∀ W P A, RM W P A (gen k (agG v c)) → Calls Try.prog 16 #[.pointer (some ⟨P, 0, none⟩), .int .i64 (y), .int .i64 (m : Int)] W fun e w' => e = .returned (.tuple #[.int .i32 0, .bool true]) ∧ W = w') := fun W P A R => get_in W P A _ R y m c m hyz.out (by rw [gen_len]; exact hcl) (by rw [gen_at _ _ _ hcl, agG_r]; omega) rfl hm8 0 (by rw [gen_at _ _ _ hcl]; unfold agG; rw [if_neg (by omega)]; rfl)
          clear hs
          have hmh : 0 ≤ (m : Int) := by omega
          go_wp2_with (first
        | (go_at_call 13; with_reducible refine (HD1.out _ P A R.out).mono ?_; rintro e w1 ⟨rfl, U⟩; replace R := Lib.hid U.rm; replace B := Lib.hid (B.out.grown U.gr B.out.size (fun k e => by have := Option.some.inj e; omega)); clear U)
        | (go_at_call 13; with_reducible refine (HD2.out _ P A R.out).mono ?_; rintro e w1 ⟨rfl, rfl⟩)
        | (go_at_call 10; with_reducible refine (HT2.out _ P A R.out).mono ?_; rintro e w1 ⟨rfl, U⟩; replace R := Lib.hid U.rm; replace B := Lib.hid (B.out.grown U.gr B.out.size (fun k e => by have := Option.some.inj e; omega)); clear U)
        | (go_at_call 16; with_reducible refine (HG.out _ P A R.out).mono ?_; rintro e w1 ⟨rfl, rfl⟩))
          go_roundw
          case rel => exact ⟨c, y - 1, by first | rfl | go_num, by have := hyz.out; unfold Hid; omega, by omega, by omega, by omega, R, B⟩
          case measure => simp [intOf]; omega
end Go.Proofs.Ytfpoeilamfcmjaa
