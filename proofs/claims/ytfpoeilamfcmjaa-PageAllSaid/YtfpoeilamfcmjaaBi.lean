/- WALK: the law's same, of layer 10. -/
import Derived.Test.YtfpoeilamfcmjaaBe
import Derived.BigQuiet
import Derived.Deep.CutBlock
import Derived.Deep.DeepCutAuto
namespace Go.Proofs.Ytfpoeilamfcmjaa
set_option maxRecDepth 100000
open Go.RowKit
set_option linter.unusedVariables false
set_option linter.unusedSimpArgs false

theorem RM.drewN {w : World} {P A : Nat} {l : List Sh} (h : RM w P A l) (n : Nat) : RM (w.drewN n) P A l := ⟨h.slot, h.row, h.ne, h.len⟩
theorem SR.drewN {w : World} {b : Nat} {t : TypeId} {l : List Sh} (h : SR w b t l) (n : Nat) : SR (w.drewN n) b t l := h
theorem pg_cons (l : List Sh) (p : Nat) : pg l (p : Int) = shAt (zS :: l) p := by
  cases p with
  | zero => rw [pg_out l _ (by omega)]; rfl
  | succ k => rw [pg_at l _ k (by omega)]; rfl
theorem usedN_cons (l : List Sh) : usedN (zS :: l) = usedN l := by unfold usedN; rfl
theorem get_pg (w : World) (P A : Nat) (l : List Sh) (R : RM w P A l) (p i : Int) (j : Nat) (h : (pg l p).r ≠ 0) (hj : i = j) (h8 : j < 8) (x : Int) (hx : x = (pg l p).on j) :
    Calls Try.prog 16 #[.pointer (some ⟨P, 0, none⟩), .int .i64 p, .int .i64 i] w fun e w' => e = .returned (.tuple #[.int .i32 x, .bool true]) ∧ w = w' := by
  obtain ⟨k, hk, hkl⟩ := pg_in h
  rw [pg_at l p k hk] at h hx
  exact get_in w P A l R p i k j hk hkl h hj h8 x hx
theorem infoLaw : (Try.prog.info? 31).map (·.size) = some 9 := by kernel_rfl
theorem blk_ref {w : World} {b : Nat} {t : TypeId} {s : Sh} (h : w.heap[b]? = some (.cells (shA s) t (0, 0))) : w.cell? ⟨b, 0, none⟩ = some (.int .i64 s.r) := (cell_of_row _ _ _ _ _ _ h).trans rfl
theorem blk_num {w : World} {b : Nat} {t : TypeId} {s : Sh} (h : w.heap[b]? = some (.cells (shA s) t (0, 0))) (j : Nat) (hj : j < 8) : w.cell? ⟨b, 1 + j, none⟩ = some (.int .i32 (s.on j)) := by
  rw [cell_of_row _ _ _ _ _ _ h]
  unfold shA
  rw [List.getElem?_toArray, shL_at s (1 + j) (by omega)]
  unfold shv
  rw [if_neg (by omega), show 1 + j - 1 = j by omega]

set_option maxHeartbeats 8000000 in
theorem same_any (w : World) (P A L : Nat) (l : List Sh) (R0 : RM w P A l) (S0 : SR w L 31 (zS :: l)) (hpos : ∀ j, 0 ≤ (shAt (zS :: l) j).r) (n : Nat) (hn : n = l.length + 1) :
    Calls Try.prog 15 #[.pointer (some ⟨P, 0, none⟩), .slice (some ⟨L, 0, none⟩) n n] w fun e w' => e = .returned (.bool true) ∧ Below w.heap.size w w' := by
  have R := Lib.hid R0
  have S := Lib.hid S0
  have HP := Lib.hid hpos
  have hlen := R0.len
  have hll : Hid ((zS :: l).length = n) := by unfold Hid; rw [hn]; rfl
  have hn201 : n ≤ 201 := by omega
  clear R0 S0 hpos hn
  go_enter Try.func15, Try.ntmps15
  go_wp2_with fail
  go_loopw [5, 6] (fun u i wr => ∃ (p m : Nat), i = .int .i64 p ∧ u = .int .i64 m ∧ p ≤ n + 1 ∧ m ≤ p ∧ Hid (m = usedN ((zS :: l).take p)) ∧ Hid (Below w.heap.size w wr)) (fun _ i _ => n + 1 - (intOf i).toNat)
  case atStart => exact ⟨0, 0, rfl, rfl, by omega, by omega, rfl, Lib.hid (Below.refl _ _)⟩
  case round =>
    obtain ⟨p, m, rfl, rfl, hp, hmp, hm, B⟩ := hrel
    by_cases hend : p = n + 1
    · subst hend
      have hq : Hid (m = usedN l) := by
        have := hm.out
        rw [List.take_of_length_le (by rw [hll.out]; omega), usedN_cons] at this
        exact this
      have R2 := Lib.hid (R.out.belows B.out)
      clear hm
      have HU := Lib.hid (used_any _ P A l R2.out m (by rw [hq.out]))
      go_wp2_with (go_at_call 17; with_reducible refine HU.out.mono ?_; rintro e w1 ⟨rfl, U⟩)
      go_ret
      exact ⟨by simp, B.out.trans (U.mono B.out.size)⟩
    · have hpn : p ≤ n := by omega
      have hpnc : (p : Int) ≤ (n : Int) := by omega
      have HS0 := HP.out p
      have HPG := Lib.hid (pg_cons l p)
      have HSt : Hid (m + (if 0 < (shAt (zS :: l) p).r then 1 else 0) = usedN ((zS :: l).take (p + 1))) := by
        unfold Hid
        by_cases h : p < (zS :: l).length
        · rw [usedN_step _ _ h, ← hm.out]
        · have h1 := hm.out
          rw [List.take_of_length_le (by omega)] at h1 ⊢
          rw [shAt_ge (by omega), ← h1]; rfl
      have B1 := Lib.hid (B.out.alloc B.out.size (.cells #[.int .i64 0, .int .i32 0, .int .i32 0, .int .i32 0, .int .i32 0, .int .i32 0, .int .i32 0, .int .i32 0, .int .i32 0] 31))
      have HO := Lib.hid (shA_one (shAt (zS :: l) p))
      have HSz := Lib.hid (shA_size (shAt (zS :: l) p))
      have HLt : p < n → Hid (p < (zS :: l).length) := fun h => by unfold Hid; rw [hll.out]; exact h
      have HGe : ¬ p < n → Hid (shAt (zS :: l) p = zS) := fun h => shAt_ge (by rw [hll.out]; omega)
      clear hm
      by_cases hlt : p < n
      · have hltc : (p : Int) < (n : Int) := by omega
        have hL := HLt hlt
        have HL := Lib.hid ((S.out.below B.out S.out.lt).alloc (.cells #[.int .i64 0, .int .i32 0, .int .i32 0, .int .i32 0, .int .i32 0, .int .i32 0, .int .i32 0, .int .i32 0, .int .i32 0] 31))
        clear HLt HGe
        obtain ⟨s, hs⟩ : ∃ s, shAt (zS :: l) p = s := ⟨_, rfl⟩
        rw [hs] at HS0 HPG HSt HO HSz
        obtain ⟨r, hrr⟩ : ∃ r, s.r = r := ⟨_, rfl⟩
        rw [hrr] at HS0 HSt
        by_cases hrp : 0 < r
        · have hr : r > 0 := by omega
          have HT : Hid (m + 1 = usedN ((zS :: l).take (p + 1))) := by have := HSt.out; rw [if_pos hr] at this; exact this
          clear HSt
          go_wp2_with (first
              | (with_reducible refine wpList_load_sh rfl 31 (.tmp 24) rfl L p (by with_unfolding_all rfl) 31 (zS :: l) HL.out hL.out Try.underlying31 infoLaw ?_; rw [hs])
              | (with_reducible refine wpList_store_blk rfl 31 (.tmp 7) (.tmp 25) rfl wr.heap.size (by with_unfolding_all rfl) 31 _ (shA s) (heap_alloc_last _ _) (by with_unfolding_all rfl) (by rw [HSz.out]; first | done | exact z9_size) (by rw [HSz.out]; first | done | exact infoLaw) HO.out ?_; intro w3 H3 S3 R3; have c0 : w3.cell? ⟨wr.heap.size, 0, none⟩ = some (.int .i64 r) := (blk_ref H3).trans (by rw [hrr]); have H3h := Lib.hid H3; have B3 := Lib.hid (B1.out.grown R3 B1.out.size (by simp [B.out.size])); clear H3 S3 R3))
          have R3 := Lib.hid (R.out.belows B3.out)
          go_loop [8] (fun i => ∃ z : Int, i = .int .i64 z ∧ -1 ≤ z ∧ z ≤ 9) (fun i => (9 - intOf i).toNat)
          case atStart => exact ⟨-1, rfl, by omega, by omega⟩
          case round =>
            obtain ⟨z, rfl, z0, z1⟩ := hrel
            by_cases hz9 : z = 9
            · subst hz9
              have HRf : Hid (∀ W, RM W P A l → Calls Try.prog 18 #[.pointer (some ⟨P, 0, none⟩), .int .i64 (p : Int)] W fun e w' => e = .returned (.int .i64 r) ∧ W = w') := fun W RW => refs_any W P A l RW p r (by rw [HPG.out]; exact hrr.symm)
              have HRd := Lib.hid (fun k => R3.out.drewN k)
              go_upto_region 17 with fail
              go_quiet ((go_at_call 18; with_reducible exact same_left (HRf.out _ (HRd.out _))))
              go_wp2
              go_roundw
              case rel => exact ⟨p + 1, m + 1, by go_num, by go_num, by omega, by omega, HT, below_drewN B3.out _⟩
              case measure => simp [intOf]; omega
            · have hz8 : z ≤ 8 := by omega
              by_cases hzi : 0 ≤ z ∧ z < 8
              · obtain ⟨h0, h8⟩ := hzi
                obtain ⟨j, hj⟩ : ∃ j : Nat, z = j := ⟨z.toNat, by omega⟩
                have hj8 : j < 8 := by omega
                have zk : z.toNat = j := by omega
                have cj : w3.cell? ⟨wr.heap.size, 1 + j, none⟩ = some (.int .i32 (s.on j)) := blk_num H3h.out j hj8
                have HG := Lib.hid (get_pg _ P A l R3.out p z j (by rw [HPG.out, hrr]; omega) hj hj8 (s.on j) (by rw [HPG.out]))
                generalize s.on j = x at *
                have HJ := Lib.hid hj; clear hj
                go_wp2_with (go_at_call 16; with_reducible refine HG.out.mono ?_; rintro e w4 ⟨rfl, rfl⟩)
                go_round
                case rel => exact ⟨z + 1, by first | rfl | go_num, by omega, by omega⟩
                case measure => simp [intOf]; omega
              · have HN : Hid (nuB z = false) := by unfold Hid nuB; simp; omega
                by_cases hzn : 0 ≤ z
                · have h8 : ¬ z < 8 := by omega
                  have HG := Lib.hid (get_out _ P A l R3.out p z (.inr HN.out))
                  go_wp2_with (go_at_call 16; with_reducible refine HG.out.mono ?_; rintro e w4 ⟨rfl, rfl⟩)
                  go_round
                  case rel => exact ⟨z + 1, by first | rfl | go_num, by omega, by omega⟩
                  case measure => simp [intOf]; omega
                · have h0 : ¬ z ≥ 0 := by omega
                  have HG := Lib.hid (get_out _ P A l R3.out p z (.inr HN.out))
                  go_wp2_with (go_at_call 16; with_reducible refine HG.out.mono ?_; rintro e w4 ⟨rfl, rfl⟩)
                  go_round
                  case rel => exact ⟨z + 1, by first | rfl | go_num, by omega, by omega⟩
                  case measure => simp [intOf]; omega
        · obtain rfl : r = 0 := by omega
          have HT : Hid (m = usedN ((zS :: l).take (p + 1))) := by have := HSt.out; rw [if_neg (by omega)] at this; exact this
          clear HSt
          go_wp2_with (first
              | (with_reducible refine wpList_load_sh rfl 31 (.tmp 24) rfl L p (by with_unfolding_all rfl) 31 (zS :: l) HL.out hL.out Try.underlying31 infoLaw ?_; rw [hs])
              | (with_reducible refine wpList_store_blk rfl 31 (.tmp 7) (.tmp 25) rfl wr.heap.size (by with_unfolding_all rfl) 31 _ (shA s) (heap_alloc_last _ _) (by with_unfolding_all rfl) (by rw [HSz.out]; first | done | exact z9_size) (by rw [HSz.out]; first | done | exact infoLaw) HO.out ?_; intro w3 H3 S3 R3; have c0 : w3.cell? ⟨wr.heap.size, 0, none⟩ = some (.int .i64 0) := (blk_ref H3).trans (by rw [hrr]); have H3h := Lib.hid H3; have B3 := Lib.hid (B1.out.grown R3 B1.out.size (by simp [B.out.size])); clear H3 S3 R3))
          have R3 := Lib.hid (R.out.belows B3.out)
          go_loop [8] (fun i => ∃ z : Int, i = .int .i64 z ∧ -1 ≤ z ∧ z ≤ 9) (fun i => (9 - intOf i).toNat)
          case atStart => exact ⟨-1, rfl, by omega, by omega⟩
          case round =>
            obtain ⟨z, rfl, z0, z1⟩ := hrel
            by_cases hz9 : z = 9
            · subst hz9
              have HRf : Hid (∀ W, RM W P A l → Calls Try.prog 18 #[.pointer (some ⟨P, 0, none⟩), .int .i64 (p : Int)] W fun e w' => e = .returned (.int .i64 0) ∧ W = w') := fun W RW => refs_any W P A l RW p 0 (by rw [HPG.out]; exact hrr.symm)
              have HRd := Lib.hid (fun k => R3.out.drewN k)
              go_upto_region 17 with fail
              go_quiet ((go_at_call 18; with_reducible exact same_left (HRf.out _ (HRd.out _))))
              go_wp2
              go_roundw
              case rel => exact ⟨p + 1, m, by go_num, by go_num, by omega, by omega, HT, below_drewN B3.out _⟩
              case measure => simp [intOf]; omega
            · have hz8 : z ≤ 8 := by omega
              have HG := Lib.hid (get_out _ P A l R3.out p z (.inl (by rw [HPG.out]; exact hrr)))
              go_wp2_with (go_at_call 16; with_reducible refine HG.out.mono ?_; rintro e w4 ⟨rfl, rfl⟩)
              go_round
              case rel => exact ⟨z + 1, by first | rfl | go_num, by omega, by omega⟩
              case measure => simp [intOf]; omega
      · have hltc : ¬ (p : Int) < (n : Int) := by omega
        have hz := HGe hlt
        clear HLt HGe
        rw [hz.out] at HS0 HPG HSt
        have B3 := B1
        have H3h : Hid ((wr.alloc (.cells #[.int .i64 0, .int .i32 0, .int .i32 0, .int .i32 0, .int .i32 0, .int .i32 0, .int .i32 0, .int .i32 0, .int .i32 0] 31)).heap[wr.heap.size]? = some (.cells (shA zS) 31 (0, 0))) := heap_alloc_last wr _
        have c0 : (wr.alloc (.cells #[.int .i64 0, .int .i32 0, .int .i32 0, .int .i32 0, .int .i32 0, .int .i32 0, .int .i32 0, .int .i32 0, .int .i32 0] 31)).cell? ⟨wr.heap.size, 0, none⟩ = some (.int .i64 0) := blk_ref H3h.out
        have HT : Hid (m = usedN ((zS :: l).take (p + 1))) := HSt.out
        clear HSt
        go_wp2_with fail
        have R3 := Lib.hid (R.out.belows B3.out)
        go_loop [8] (fun i => ∃ z : Int, i = .int .i64 z ∧ -1 ≤ z ∧ z ≤ 9) (fun i => (9 - intOf i).toNat)
        case atStart => exact ⟨-1, rfl, by omega, by omega⟩
        case round =>
          obtain ⟨z, rfl, z0, z1⟩ := hrel
          by_cases hz9 : z = 9
          · subst hz9
            have HRf : Hid (∀ W, RM W P A l → Calls Try.prog 18 #[.pointer (some ⟨P, 0, none⟩), .int .i64 (p : Int)] W fun e w' => e = .returned (.int .i64 0) ∧ W = w') := fun W RW => refs_any W P A l RW p 0 (by rw [HPG.out]; rfl)
            have HRd := Lib.hid (fun k => R3.out.drewN k)
            go_upto_region 17 with fail
            go_quiet ((go_at_call 18; with_reducible exact same_left (HRf.out _ (HRd.out _))))
            go_wp2
            go_roundw
            case rel => exact ⟨p + 1, m, by go_num, by go_num, by omega, by omega, HT, below_drewN B3.out _⟩
            case measure => simp [intOf]; omega
          · have hz8 : z ≤ 8 := by omega
            have HG := Lib.hid (get_out _ P A l R3.out p z (.inl (by rw [HPG.out]; rfl)))
            go_wp2_with (go_at_call 16; with_reducible refine HG.out.mono ?_; rintro e w4 ⟨rfl, rfl⟩)
            go_round
            case rel => exact ⟨z + 1, by first | rfl | go_num, by omega, by omega⟩
            case measure => simp [intOf]; omega
end Go.Proofs.Ytfpoeilamfcmjaa
