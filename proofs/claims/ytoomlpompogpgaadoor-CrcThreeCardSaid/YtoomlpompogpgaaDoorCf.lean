/- WALK: quintainlaw3.CrcMany. -/
import Derived.Test.YtoomlpompogpgaaDoorCe
import Derived.Deep.DeepCutAuto
namespace Go.Proofs.YtoomlpompogpgaaDoor
open Go.RowKit
set_option linter.unusedVariables false

/-- where a step goes: how many bytes it takes -/
def stepOf (z : Int) : Int := (z.tmod 40 + 40) % 40

theorem sum_n (A : Option Addr) (c : List UInt8) (n cap B : Nat) (w : World) (hw : TabW w) (hr : RB w B A c) (hl : n ≤ maxLen) (hn : Hid (c.length = n)) :
    Calls Tryd.prog 9 #[.slice A n cap] w fun e w' => e = .returned (.int .u32 (tn (sumL c))) ∧ w = w' := by
  have hn := hn.out; subst hn
  exact sum_any A c cap B w hw hr hl
theorem more_n (c a : List UInt8) (A : Option Addr) (d : List UInt8) (n cap B : Nat) (w : World) (hw : TabW w) (hr : RB w B A d) (hl : n ≤ maxLen) (hc : Hid (c = a ++ d)) (hn : Hid (d.length = n)) :
    Calls Tryd.prog 11 #[.int .u32 (tn (sumL a)), .slice A n cap] w fun e w' => e = .returned (.int .u32 (tn (sumL c))) ∧ w = w' := by
  have hn := hn.out; subst hn
  exact more_sum c a A d cap B w hw hr hl hc
set_option maxRecDepth 100000 in
set_option maxHeartbeats 1000000 in
theorem crcmany_in (A1 A2 : Option Addr) (l : List UInt8) (zs : List Int) (cap1 cap2 : Nat) (w : World) (hw : TabW w) (h1 : RB w w.heap.size A1 l) (h2 : RI w w.heap.size A2 zs)
    (c1 : l.length ≤ cap1) (m1 : cap1 ≤ maxLen) (m2 : zs.length ≤ maxLen) (hz : ∀ z ∈ zs, -9223372036854775808 ≤ z ∧ z ≤ 9223372036854775807)  :
    Calls Tryd.prog 6 #[.slice A1 l.length cap1, .slice A2 zs.length cap2] w fun e w' => e = .returned (.bool true) ∧ Below w.heap.size w w' := by
  unfold maxLen at m1 m2
  go_enter Tryd.func6, Tryd.ntmps6
  go_upto_if 15 with (go_at_call 7; ((with_reducible refine (begun_any w hw).mono ?_); rintro e w1 ⟨rfl, hb1⟩))
  go_cut [0] (fun s0 wx => wx = w1 ∧ ∃ l', Hid (l' = l.take 300) ∧ s0 = .slice A1 l'.length cap1)
  case first =>
    by_cases h300 : 300 < l.length
    · go_wp2_with fail
      go_meet
      exact ⟨rfl, l.take 300, rfl, by rw [List.length_take, Nat.min_eq_left (by omega)]⟩
    · go_wp2_with fail
      go_meet
      exact ⟨rfl, l, by unfold Hid; rw [List.take_of_length_le (by omega)], rfl⟩
  case rest =>
    obtain ⟨rfl, l', HL, rfl⟩ := hcut
    have ll := take_le HL
    have hw1 := hw.below hb1 hw.lt
    have r2 := h2.below hb1
    have r1 : RB wc w.heap.size A1 l' := by rw [HL.out]; exact (h1.below hb1).take 300
    have c1' : l'.length ≤ cap1 := by have := HL.out; rw [this, List.length_take]; omega
    clear h1 h2 c1
    go_wp2
    go_loop [6, 7, 8] (fun s a i => ∃ k p : Nat, i = .int .i64 k ∧ k ≤ zs.length ∧ k ≤ 40 ∧ a = .int .i64 p ∧ p ≤ l'.length ∧ s = .int .u32 (tn (sumL (l'.take p)))) (fun _ _ i => 40 - (intOf i).toNat)
    case atStart => exact ⟨0, 0, rfl, by omega, by omega, rfl, by omega, by rw [List.take_zero, sum_none]⟩
    case round =>
      obtain ⟨k, p, rfl, hk1, hk2, rfl, hp, rfl⟩ := hrel
      obtain ⟨a, ha⟩ : ∃ a, a = l'.take p := ⟨_, rfl⟩
      rw [← ha]
      by_cases h : k < zs.length ∧ k < 40
      · obtain ⟨hka, hkb⟩ := h
        obtain ⟨b, off, rfl, _, hcell⟩ := r2 (by omega)
        have hx := hcell k hka
        have hzb := hz _ (List.getElem_mem hka)
        generalize zs[k] = z at hx hzb
        clear hcell hz
        have hm1 : -40 < z.tmod 40 := Int.lt_tmod_of_pos z (by omega)
        have hm2 : z.tmod 40 < 40 := Int.tmod_lt_of_pos z (by omega)
        obtain ⟨j, hj⟩ : ∃ j : Nat, z.tmod 40 % 40 = (j : Int) := ⟨(z.tmod 40 % 40).toNat, by omega⟩
        have hj40 : j < 40 := by omega
        obtain ⟨q, hq⟩ : ∃ q, l'.length = p + q := ⟨l'.length - p, by omega⟩
        have hq2 : (l'.length : Int) - p = (q : Int) := by omega
        have ht : ∀ n : Nat, ((p : Int) + n).toNat - p = n := fun n => by omega
        have ht2 : ∀ n : Nat, ((p : Int) + n).toNat = p + n := fun n => by omega
        have hmore : ∀ n : Nat, (n = j ∧ j < q) ∨ (n = q ∧ ¬ j < q) → ∃ c d, Hid (c = l'.take (p + n)) ∧ Hid (c = a ++ d) ∧ Hid (c.length = p + n) ∧ Hid (d.length = n) ∧ RB wc w.heap.size A1 c ∧ RB wc w.heap.size (if cap1 = p then A1 else A1.map (·.add p)) d := fun n hn => by
          obtain ⟨c, d, H1, H2, H3, H4, rc, rd⟩ := piece r1 p n cap1 (by omega) c1'
          rw [← ha] at H2
          exact ⟨c, d, H1, H2, H3, H4, rc, rd⟩
        have HQ := Lib.hid hq
        have hqb : p + q ≤ l'.length := by omega
        clear hq ha
        by_cases hlt : j < q
        · obtain ⟨c, d, H1, H2, H3, H4, rc, rd⟩ := hmore j (.inl ⟨rfl, hlt⟩)
          clear hmore
          have hne : ¬ cap1 = p := by omega
          have hne2 : ¬ cap1 - p = 0 := by omega
          rw [if_neg hne] at rd
          go_wp2_with (first
            | (go_at_call 11; ((with_reducible refine (more_n c a _ d j (cap1 - p) _ _ hw1 rd (by unfold maxLen; omega) H2 H4).mono ?_); rintro e w' ⟨rfl, rfl⟩))
            | (go_at_call 9; ((with_reducible refine (sum_n A1 c (p + j) cap1 _ _ hw1 rc (by unfold maxLen; omega) H3).mono ?_); rintro e w' ⟨rfl, rfl⟩)))
          go_round
          case rel => exact ⟨k + 1, p + j, by go_num, by omega, by omega, by go_num, by omega, by rw [← H1.out]⟩
          case measure => simp [intOf]; omega
        · obtain ⟨c, d, H1, H2, H3, H4, rc, rd⟩ := hmore q (.inr ⟨rfl, hlt⟩)
          clear hmore
          by_cases hne : cap1 = p
          · rw [if_pos hne] at rd
            subst hne
            go_wp2_with (first
              | (go_at_call 11; ((with_reducible refine (more_n c a _ d q 0 _ _ hw1 rd (by unfold maxLen; omega) H2 H4).mono ?_); rintro e w' ⟨rfl, rfl⟩))
              | (go_at_call 9; ((with_reducible refine (sum_n A1 c (cap1 + q) cap1 _ _ hw1 rc (by unfold maxLen; omega) H3).mono ?_); rintro e w' ⟨rfl, rfl⟩)))
            go_round
            case rel => exact ⟨k + 1, cap1 + q, by go_num, by omega, by omega, by go_num, by omega, by rw [← H1.out]⟩
            case measure => simp [intOf]; omega
          · have hne2 : ¬ cap1 - p = 0 := by omega
            rw [if_neg hne] at rd
            go_wp2_with (first
              | (go_at_call 11; ((with_reducible refine (more_n c a _ d q (cap1 - p) _ _ hw1 rd (by unfold maxLen; omega) H2 H4).mono ?_); rintro e w' ⟨rfl, rfl⟩))
              | (go_at_call 9; ((with_reducible refine (sum_n A1 c (p + q) cap1 _ _ hw1 rc (by unfold maxLen; omega) H3).mono ?_); rintro e w' ⟨rfl, rfl⟩)))
            go_round
            case rel => exact ⟨k + 1, p + q, by go_num, by omega, by omega, by go_num, by omega, by rw [← H1.out]⟩
            case measure => simp [intOf]; omega
      · obtain ⟨q, hq⟩ : ∃ q, l'.length = p + q := ⟨l'.length - p, by omega⟩
        have hq2 : (l'.length : Int) - p = (q : Int) := by omega
        have hq3 : l'.length - p = q := by omega
        obtain ⟨c, d, H1, H2, H3, H4, rc, rd⟩ := piece r1 p q cap1 (by omega) c1'
        rw [← ha] at H2
        have HE : Hid (c = l') := by unfold Hid; rw [H1.out, ← hq, List.take_length]
        have hcl : c = l' := HE.out
        subst hcl
        clear H1 HE H3 rc ha
        have HQ := Lib.hid hq; clear hq
        have hk : (k < zs.length ∧ ¬ k < 40) ∨ ¬ k < zs.length := by
          by_cases hz : k < zs.length
          · exact .inl ⟨hz, fun h2 => h ⟨hz, h2⟩⟩
          · exact .inr hz
        clear h r2 hz
        by_cases hne : cap1 = p
        · rw [if_pos hne] at rd
          subst hne
          rcases hk with ⟨k1, k2⟩ | k1
          all_goals
            go_wp2_with (first
              | (go_at_call 11; ((with_reducible refine (more_n c a _ d q 0 _ _ hw1 rd (by unfold maxLen; omega) H2 H4).mono ?_); rintro e w' ⟨rfl, rfl⟩))
              | (go_at_call 9; ((with_reducible refine (sum_any A1 c cap1 _ _ hw1 r1 (by unfold maxLen; omega)).mono ?_); rintro e w' ⟨rfl, rfl⟩)))
            go_ret
            exact ⟨rfl, hb1⟩
        · have hne2 : ¬ cap1 - p = 0 := by omega
          rw [if_neg hne] at rd
          rcases hk with ⟨k1, k2⟩ | k1
          all_goals
            go_wp2_with (first
              | (go_at_call 11; ((with_reducible refine (more_n c a _ d q (cap1 - p) _ _ hw1 rd (by unfold maxLen; omega) H2 H4).mono ?_); rintro e w' ⟨rfl, rfl⟩))
              | (go_at_call 9; ((with_reducible refine (sum_any A1 c cap1 _ _ hw1 r1 (by unfold maxLen; omega)).mono ?_); rintro e w' ⟨rfl, rfl⟩)))
            go_ret
            exact ⟨rfl, hb1⟩
end Go.Proofs.YtoomlpompogpgaaDoor
