/- WALKS over package quintainref1: blank, Name, takes, trim. -/
import Derived.Test.YthidkkjhpdcenaaDoorSf
namespace Go.Proofs.YthidkkjhpdcenaaDoor
set_option maxRecDepth 100000
open Go.RowKit
set_option linter.unusedVariables false

theorem blank_any (c : UInt8) (w : World) : Calls Tryd.prog 22 #[.int .u8 (c.toNat : Int)] w fun e w' => e = .returned (.bool (blk c)) ∧ w = w' := by
  have hb := blk_iff c
  by_cases h1 : c.toNat = 32
  · have q1 : ((c.toNat : Int) == 32) = true := by rw [h1]; rfl
    have HB := Lib.hid (show blk c = true from hb.2 (.inl h1))
    clear hb h1
    go_enter Tryd.func22, Tryd.ntmps22
    go_wp2
    go_ret
    exact ⟨by rw [HB.out]; rfl, rfl⟩
  · have q1 : ((c.toNat : Int) == 32) = false := by rw [beq_eq_false_iff_ne]; omega
    by_cases h2 : c.toNat = 9
    · have q2 : ((c.toNat : Int) == 9) = true := by rw [h2]; rfl
      have HB := Lib.hid (show blk c = true from hb.2 (.inr h2))
      clear hb h1 h2
      go_enter Tryd.func22, Tryd.ntmps22
      go_wp2
      go_ret
      exact ⟨by rw [HB.out]; rfl, rfl⟩
    · have q2 : ((c.toNat : Int) == 9) = false := by rw [beq_eq_false_iff_ne]; omega
      have HB := Lib.hid (show blk c = false by
        rw [Bool.eq_false_iff]
        intro h
        rcases hb.1 h with h | h
        · exact h1 h
        · exact h2 h)
      clear hb h1 h2
      go_enter Tryd.func22, Tryd.ntmps22
      go_wp2
      go_ret
      exact ⟨by rw [HB.out]; rfl, rfl⟩

theorem nameRow (w : World) : (w.alloc (.cells #[.string ⟨#[104, 97, 108, 116]⟩, .string ⟨#[115, 101, 116]⟩, .string ⟨#[109, 111, 118]⟩, .string ⟨#[97, 100, 100]⟩, .string ⟨#[115, 117, 98]⟩, .string ⟨#[109, 117, 108]⟩, .string ⟨#[100, 105, 118]⟩, .string ⟨#[108, 101, 115, 115]⟩, .string ⟨#[115, 97, 109, 101]⟩, .string ⟨#[106, 117, 109, 112]⟩, .string ⟨#[122, 101, 114, 111]⟩, .string ⟨#[105, 110]⟩, .string ⟨#[108, 111, 97, 100]⟩, .string ⟨#[107, 101, 101, 112]⟩, .string ⟨#[114, 117, 110, 101]⟩, .string ⟨#[116, 105, 109, 101]⟩] 9)).rowIs w.heap.size 9 16 (fun i => .string (str (nameL i))) :=
  World.rowIs_alloc w _ _ _ (fun i hi => by
    have hi : i < 16 := hi
    obtain rfl | rfl | rfl | rfl | rfl | rfl | rfl | rfl | rfl | rfl | rfl | rfl | rfl | rfl | rfl | rfl : i = 0 ∨ i = 1 ∨ i = 2 ∨ i = 3 ∨ i = 4 ∨ i = 5 ∨ i = 6 ∨ i = 7 ∨ i = 8 ∨ i = 9 ∨ i = 10 ∨ i = 11 ∨ i = 12 ∨ i = 13 ∨ i = 14 ∨ i = 15 := by omega
    all_goals rfl)
theorem takesRow (w : World) : (w.alloc (.cells #[.int .i64 0, .int .i64 2, .int .i64 2, .int .i64 3, .int .i64 3, .int .i64 3, .int .i64 3, .int .i64 3, .int .i64 3, .int .i64 1, .int .i64 2, .int .i64 2, .int .i64 2, .int .i64 2, .int .i64 2, .int .i64 1] 3)).rowIs w.heap.size 3 16 (fun i => .int .i64 (takesL i : Int)) :=
  World.rowIs_alloc w _ _ _ (fun i hi => by
    have hi : i < 16 := hi
    obtain rfl | rfl | rfl | rfl | rfl | rfl | rfl | rfl | rfl | rfl | rfl | rfl | rfl | rfl | rfl | rfl : i = 0 ∨ i = 1 ∨ i = 2 ∨ i = 3 ∨ i = 4 ∨ i = 5 ∨ i = 6 ∨ i = 7 ∨ i = 8 ∨ i = 9 ∨ i = 10 ∨ i = 11 ∨ i = 12 ∨ i = 13 ∨ i = 14 ∨ i = 15 := by omega
    all_goals rfl)
theorem name_any (k : Nat) (hk : k < 16) (w : World) : Calls Tryd.prog 17 #[.int .i64 (k : Int)] w fun e w' => e = .returned (.string (str (nameL k))) ∧ Below w.heap.size w w' := by
  have hc := (nameRow w).cell hk
  have hk2 : (k : Int) < 16 := by omega
  have b0 : Below w.heap.size w (w.alloc (.cells #[.string ⟨#[104, 97, 108, 116]⟩, .string ⟨#[115, 101, 116]⟩, .string ⟨#[109, 111, 118]⟩, .string ⟨#[97, 100, 100]⟩, .string ⟨#[115, 117, 98]⟩, .string ⟨#[109, 117, 108]⟩, .string ⟨#[100, 105, 118]⟩, .string ⟨#[108, 101, 115, 115]⟩, .string ⟨#[115, 97, 109, 101]⟩, .string ⟨#[106, 117, 109, 112]⟩, .string ⟨#[122, 101, 114, 111]⟩, .string ⟨#[105, 110]⟩, .string ⟨#[108, 111, 97, 100]⟩, .string ⟨#[107, 101, 101, 112]⟩, .string ⟨#[114, 117, 110, 101]⟩, .string ⟨#[116, 105, 109, 101]⟩] 9)) := (Below.refl _ _).alloc (Nat.le_refl _) _
  go_enter Tryd.func17, Tryd.ntmps17
  go_wp2
  go_ret
  exact ⟨rfl, b0⟩
theorem takes_any (k : Nat) (hk : k < 16) (w : World) : Calls Tryd.prog 29 #[.int .i64 (k : Int)] w fun e w' => e = .returned (.int .i64 (takesL k : Int)) ∧ Below w.heap.size w w' := by
  have hc := (takesRow w).cell hk
  have hk2 : (k : Int) < 16 := by omega
  have b0 : Below w.heap.size w (w.alloc (.cells #[.int .i64 0, .int .i64 2, .int .i64 2, .int .i64 3, .int .i64 3, .int .i64 3, .int .i64 3, .int .i64 3, .int .i64 3, .int .i64 1, .int .i64 2, .int .i64 2, .int .i64 2, .int .i64 2, .int .i64 2, .int .i64 1] 3)) := (Below.refl _ _).alloc (Nat.le_refl _) _
  go_enter Tryd.func29, Tryd.ntmps29
  go_wp2
  go_ret
  exact ⟨rfl, b0⟩

theorem lst_cons_of (s : ByteArray) (h : 0 < s.size) : lst s = (s[0]'h) :: lst (s.extract 1 s.size) := by
  have := lst_drop s 0 h
  rw [List.drop_zero] at this
  rw [this, lst_tail, this]
  rfl
theorem lst_snoc_of (s : ByteArray) (h : s.size - 1 < s.size) : lst s = lst (s.extract 0 (s.size - 1)) ++ [s[s.size - 1]'h] := by
  have e := lst_drop s (s.size - 1) h
  have e2 : (lst s).drop (s.size - 1 + 1) = [] := List.drop_eq_nil_of_le (by rw [lst_len]; omega)
  rw [e2] at e
  rw [lst_front, ← e, List.take_append_drop]
set_option maxHeartbeats 1000000 in
theorem trim_any (s : ByteArray) (w : World) (hs : s.size ≤ maxLen) :
    Calls Tryd.prog 21 #[.string s] w fun e w' => e = .returned (.string (str (bareL (lst s)))) ∧ w = w' := by
  unfold maxLen at hs
  go_enter Tryd.func21, Tryd.ntmps21
  go_wp2
  go_loop [0, 3] (fun sv iv => ∃ (z : ByteArray) (k : Nat), sv = .string z ∧ iv = .int .i64 k ∧ k ≤ s.size ∧ z.size ≤ s.size ∧ Hid ((z = s ∧ ∀ c ∈ (lst s).take k, c ≠ 35) ∨ (lst z = noHash (lst s) ∧ z.size < k))) (fun _ iv => s.size - (intOf iv).toNat)
  case atStart => exact ⟨s, 0, rfl, rfl, by omega, Nat.le_refl _, .inl ⟨rfl, by simp⟩⟩
  case round =>
    obtain ⟨z, k, rfl, rfl, hk, hz, HZ⟩ := hrel
    by_cases h : k < z.size
    · have hzs : z = s ∧ ∀ c ∈ (lst s).take k, c ≠ 35 := by
        rcases HZ.out with h1 | h1
        · exact h1
        · exact absurd h (by omega)
      obtain ⟨rfl, hno⟩ := hzs
      have h' : (k : Int) < (z.size : Int) := by omega
      by_cases hc : (z[k]'h).toNat = 35
      · have hq : (((z[k]'h).toNat : Int) == 35) = true := by rw [hc]; rfl
        have HN := Lib.hid (show lst (z.extract 0 k) = noHash (lst z) by
          have e5 : (z[k]'h) = 35 := UInt8.toNat_inj.1 hc
          have e4 := lst_drop z k h
          rw [e5] at e4
          have e3 : lst z = (lst z).take k ++ 35 :: (lst z).drop (k + 1) := by rw [← e4, List.take_append_drop]
          rw [lst_front]
          conv => rhs; rw [e3, noHash_at hno])
        clear hc hno HZ
        go_wp2
        go_round
        case rel => exact ⟨z.extract 0 k, k + 1, rfl, by go_num, by omega, size_front z k, .inr ⟨HN.out, by rw [ByteArray.size_extract]; omega⟩⟩
        case measure => simp [intOf]; omega
      · have hq : (((z[k]'h).toNat : Int) == 35) = false := by rw [beq_eq_false_iff_ne]; omega
        have HN := Lib.hid (show ∀ c ∈ (lst z).take (k + 1), c ≠ 35 from mem_take_more z k 1 35 (by omega) hno (fun j hj => by
          obtain rfl : j = 0 := by omega
          rw [Nat.add_zero, get!_at z k h]; exact hc))
        clear hc hno HZ
        go_wp2
        go_round
        case rel => exact ⟨z, k + 1, rfl, by go_num, by omega, Nat.le_refl _, .inl ⟨rfl, HN.out⟩⟩
        case measure => simp [intOf]; omega
    · have HL := Lib.hid (show lst z = noHash (lst s) by
        rcases HZ.out with ⟨rfl, h1⟩ | h1
        · obtain rfl : k = z.size := by omega
          rw [List.take_of_length_le (by rw [lst_len]; exact Nat.le_refl _)] at h1
          rw [noHash_of h1]
        · exact h1.1)
      have h' : ¬ (k : Int) < (z.size : Int) := by omega
      clear HZ
      have hzm := hz
      go_wp2_with fail
      go_loop [0] (fun sv => ∃ y : ByteArray, sv = .string y ∧ y.size ≤ s.size ∧ Hid (trimL (lst y) = trimL (noHash (lst s)))) (fun sv => match sv with | .string y => y.size | _ => 0)
      case atStart => exact ⟨z, rfl, hz, by unfold Hid; rw [HL.out]⟩
      case round =>
        obtain ⟨y, rfl, hy, HY⟩ := hrel
        by_cases h0 : 0 < y.size
        · have h0' : (0 : Int) < (y.size : Int) := by omega
          have e := lst_cons_of y h0
          have HB := Lib.hid (fun W => blank_any (y[0]'h0) W)
          cases hb : blk (y[0]'h0) with
          | true =>
            have HN := Lib.hid (show trimL (lst (y.extract 1 y.size)) = trimL (noHash (lst s)) by
              have := HY.out
              rw [e, trimL_blk _ _ hb] at this
              exact this)
            rw [hb] at HB
            clear e hb HY
            go_wp2_with (go_at_call 22; refine (HB.out _).mono ?_; rintro e w' ⟨rfl, rfl⟩)
            go_round
            case rel => exact ⟨y.extract 1 y.size, rfl, by rw [ByteArray.size_extract]; omega, HN⟩
            case measure => simp; omega
          | false =>
            have HT := Lib.hid (show lst y = trimL (noHash (lst s)) by
              have := HY.out
              rw [e, trimL_cons _ _ hb, ← e] at this
              exact this)
            rw [hb] at HB
            clear e hb HY
            go_wp2_with (go_at_call 22; refine (HB.out _).mono ?_; rintro e w' ⟨rfl, rfl⟩)
            go_loop [0] (fun sv => ∃ y2 : ByteArray, sv = .string y2 ∧ y2.size ≤ s.size ∧ Hid (trimR (lst y2) = trimR (trimL (noHash (lst s))))) (fun sv => match sv with | .string y2 => y2.size | _ => 0)
            case atStart => exact ⟨y, rfl, hy, by unfold Hid; rw [HT.out]⟩
            case round =>
              obtain ⟨y2, rfl, hy2, HY2⟩ := hrel
              by_cases hy0 : 0 < y2.size
              · obtain ⟨m, hm⟩ : ∃ m, y2.size = m + 1 := ⟨y2.size - 1, by omega⟩
                have hlt : m < y2.size := by omega
                have hlt2 : (m : Int) < (y2.size : Int) := by omega
                have hms : ((y2.size : Int) - 1) = (m : Int) := by omega
                have hpos : (0 : Int) < (y2.size : Int) := by omega
                have hle : (m : Int) ≤ (y2.size : Int) := by omega
                have e2 : lst y2 = lst (y2.extract 0 m) ++ [y2[m]'hlt] := by
                  have e := lst_snoc_of y2 (by omega)
                  have hm1 : y2.size - 1 = m := by omega
                  simp only [hm1] at e
                  exact e
                have HB2 := Lib.hid (fun W => blank_any (y2[m]'hlt) W)
                have HM := Lib.hid hm; clear hm hy0
                cases hb2 : blk (y2[m]'hlt) with
                | true =>
                  have HN := Lib.hid (show trimR (lst (y2.extract 0 m)) = trimR (trimL (noHash (lst s))) by
                    have := HY2.out
                    rw [e2, trimR_snoc_blk _ _ hb2] at this
                    exact this)
                  rw [hb2] at HB2
                  clear e2 hb2 HY2
                  go_wp2_with (go_at_call 22; refine (HB2.out _).mono ?_; rintro e w' ⟨rfl, rfl⟩)
                  go_round
                  case rel => exact ⟨y2.extract 0 m, rfl, Nat.le_trans (size_front y2 m) hy2, HN⟩
                  case measure => have := HM.out; simp [ByteArray.size_extract]; omega
                | false =>
                  have HF := Lib.hid (show lst y2 = bareL (lst s) by
                    have := HY2.out
                    rw [e2, trimR_snoc _ _ hb2, ← e2, ← bareL_two] at this
                    exact this)
                  rw [hb2] at HB2
                  clear e2 hb2 HY2
                  go_wp2_with (go_at_call 22; refine (HB2.out _).mono ?_; rintro e w' ⟨rfl, rfl⟩)
                  go_ret
                  exact ⟨by rw [← HF.out, str_lst]; rfl, rfl⟩
              · have HF := Lib.hid (show lst y2 = bareL (lst s) by
                  have := HY2.out
                  have e : lst y2 = [] := List.eq_nil_of_length_eq_zero (by rw [lst_len]; omega)
                  rw [e, ← bareL_two] at this
                  rw [e]; exact this)
                have hy0' : ¬ (0 : Int) < (y2.size : Int) := by omega
                clear HY2
                go_wp2_with fail
                go_ret
                exact ⟨by rw [← HF.out, str_lst]; rfl, rfl⟩
        · have HT := Lib.hid (show lst y = trimL (noHash (lst s)) by
            have := HY.out
            have e : lst y = [] := List.eq_nil_of_length_eq_zero (by rw [lst_len]; omega)
            rw [e] at this ⊢
            exact this)
          have h0' : ¬ (0 : Int) < (y.size : Int) := by omega
          clear HY
          go_wp2_with fail
          go_loop [0] (fun sv => ∃ y2 : ByteArray, sv = .string y2 ∧ y2.size ≤ s.size ∧ Hid (trimR (lst y2) = trimR (trimL (noHash (lst s))))) (fun sv => match sv with | .string y2 => y2.size | _ => 0)
          case atStart => exact ⟨y, rfl, hy, by unfold Hid; rw [HT.out]⟩
          case round =>
            obtain ⟨y2, rfl, hy2, HY2⟩ := hrel
            by_cases hy0 : 0 < y2.size
            · obtain ⟨m, hm⟩ : ∃ m, y2.size = m + 1 := ⟨y2.size - 1, by omega⟩
              have hlt : m < y2.size := by omega
              have hlt2 : (m : Int) < (y2.size : Int) := by omega
              have hms : ((y2.size : Int) - 1) = (m : Int) := by omega
              have hpos : (0 : Int) < (y2.size : Int) := by omega
              have hle : (m : Int) ≤ (y2.size : Int) := by omega
              have e2 : lst y2 = lst (y2.extract 0 m) ++ [y2[m]'hlt] := by
                have e := lst_snoc_of y2 (by omega)
                have hm1 : y2.size - 1 = m := by omega
                simp only [hm1] at e
                exact e
              have HB2 := Lib.hid (fun W => blank_any (y2[m]'hlt) W)
              have HM := Lib.hid hm; clear hm hy0
              cases hb2 : blk (y2[m]'hlt) with
              | true =>
                have HN := Lib.hid (show trimR (lst (y2.extract 0 m)) = trimR (trimL (noHash (lst s))) by
                  have := HY2.out
                  rw [e2, trimR_snoc_blk _ _ hb2] at this
                  exact this)
                rw [hb2] at HB2
                clear e2 hb2 HY2
                go_wp2_with (go_at_call 22; refine (HB2.out _).mono ?_; rintro e w' ⟨rfl, rfl⟩)
                go_round
                case rel => exact ⟨y2.extract 0 m, rfl, Nat.le_trans (size_front y2 m) hy2, HN⟩
                case measure => have := HM.out; simp [ByteArray.size_extract]; omega
              | false =>
                have HF := Lib.hid (show lst y2 = bareL (lst s) by
                  have := HY2.out
                  rw [e2, trimR_snoc _ _ hb2, ← e2, ← bareL_two] at this
                  exact this)
                rw [hb2] at HB2
                clear e2 hb2 HY2
                go_wp2_with (go_at_call 22; refine (HB2.out _).mono ?_; rintro e w' ⟨rfl, rfl⟩)
                go_ret
                exact ⟨by rw [← HF.out, str_lst]; rfl, rfl⟩
            · have HF := Lib.hid (show lst y2 = bareL (lst s) by
                have := HY2.out
                have e : lst y2 = [] := List.eq_nil_of_length_eq_zero (by rw [lst_len]; omega)
                rw [e, ← bareL_two] at this
                rw [e]; exact this)
              have hy0' : ¬ (0 : Int) < (y2.size : Int) := by omega
              clear HY2
              go_wp2_with fail
              go_ret
              exact ⟨by rw [← HF.out, str_lst]; rfl, rfl⟩
end Go.Proofs.YthidkkjhpdcenaaDoor
