/- SnapAll: the book in memory; WALKS: count, used, new. -/
import Derived.Test.YtkmkjfbbpeocdaaYa
namespace Go.Proofs.Ytkmkjfbbpeocdaa
set_option maxRecDepth 100000
open Go.RowKit Go.Maps
set_option linter.unusedVariables false
set_option linter.unusedSimpArgs false

/-- the j-th cell of the k-th picture of the book -/
def picC (k : Nat) (p : Bp) (j : Nat) : Value := if j = 0 then .int .i64 ((k : Int) + 1) else if j = 1 then .int .i64 p.r else if j < 34 then .int .i32 (p.g.getD (j - 2) 0) else .int .i64 (p.pn (j - 34))
def zB : Bp := ⟨0, [], fun _ => 0⟩
def picF (B : List Bp) (i : Nat) : Value := picC (i / 38) ((B[i / 38]?).getD zB) (i % 38)
def picsL (B : List Bp) : List Value := (List.range (B.length * 38)).map (picF B)
def picL (k : Nat) (p : Bp) : List Value := (List.range 38).map (picC k p)
theorem picsL_len (B : List Bp) : (picsL B).length = B.length * 38 := by unfold picsL; simp
theorem picsL_at (B : List Bp) (k : Nat) (p : Bp) (hp : B[k]? = some p) (j : Nat) (hj : j < 38) : (picsL B)[k * 38 + j]? = some (picC k p j) := by
  have hk := (List.getElem?_eq_some_iff.1 hp).1
  unfold picsL
  rw [List.getElem?_map, List.getElem?_range (by omega)]
  show some (picF B (k * 38 + j)) = _
  unfold picF
  rw [show (k * 38 + j) / 38 = k by omega, show (k * 38 + j) % 38 = j by omega, hp]; rfl
theorem picsL_snoc (B : List Bp) (p : Bp) : picsL (B ++ [p]) = picsL B ++ picL B.length p := by
  apply List.ext_getElem?
  intro i
  by_cases h1 : i < B.length * 38
  · rw [List.getElem?_append_left (by rw [picsL_len]; exact h1)]
    unfold picsL
    rw [List.getElem?_map, List.getElem?_map, List.getElem?_range (by simp; omega), List.getElem?_range h1]
    show some (picF _ i) = some (picF _ i)
    unfold picF
    rw [List.getElem?_append_left (by omega)]
  · rw [List.getElem?_append_right (by rw [picsL_len]; omega), picsL_len]
    by_cases h2 : i < B.length * 38 + 38
    · unfold picsL picL
      rw [List.getElem?_map, List.getElem?_map, List.getElem?_range (by simp; omega), List.getElem?_range (by omega)]
      show some (picF _ i) = some (picC _ _ _)
      unfold picF
      rw [show i / 38 = B.length by omega, show i % 38 = i - B.length * 38 by omega, List.getElem?_append_right (Nat.le_refl _), Nat.sub_self]; rfl
    · rw [List.getElem?_eq_none (by rw [picsL_len]; simp; omega), List.getElem?_eq_none (by unfold picL; simp; omega)]
/-- the book at Bb reads as the pictures B, the next page's number, the room -/
structure BM (w : World) (Bb : Nat) (v : Value) (nx rm : Int) (B : List Bp) : Prop where
  c0 : w.cell? ⟨Bb, 0, none⟩ = some v
  c1 : w.cell? ⟨Bb, 1, none⟩ = some (.int .i64 nx)
  c2 : w.cell? ⟨Bb, 2, none⟩ = some (.int .i64 rm)
  row : ∃ q cap, v = .slice q B.length cap ∧ ∀ (k : Nat) (p : Bp), B[k]? = some p → ∃ b, q = some ⟨b, 0, none⟩ ∧ b < w.heap.size ∧ ∀ j, j < 38 → w.cell? ⟨b, k * 38 + j, none⟩ = some (picC k p j)
theorem BM.belows {w w' : World} {Bb : Nat} {v : Value} {nx rm : Int} {B : List Bp} (h : BM w Bb v nx rm B) (hb : Below w.heap.size w w') : BM w' Bb v nx rm B := by
  refine ⟨(hb.cell (p := ⟨Bb, 0, none⟩) (cell_lt h.c0)).trans h.c0, (hb.cell (p := ⟨Bb, 1, none⟩) (cell_lt h.c1)).trans h.c1, (hb.cell (p := ⟨Bb, 2, none⟩) (cell_lt h.c2)).trans h.c2, ?_⟩
  obtain ⟨q, cap, h1, h2⟩ := h.row
  refine ⟨q, cap, h1, fun k p hp => ?_⟩
  obtain ⟨b, h3, h4, h5⟩ := h2 k p hp
  exact ⟨b, h3, Nat.lt_of_lt_of_le h4 hb.size, fun j hj => (hb.cell (p := ⟨b, _, none⟩) h4).trans (h5 j hj)⟩
theorem bcnt_snoc (B : List Bp) (k : Nat) (p : Bp) (hp : B[k]? = some p) (a : Int) : bcnt (B.take (k + 1)) a = bcnt (B.take k) a + pcN (bP p) a := by
  have hl := (List.getElem?_eq_some_iff.1 hp).1
  unfold bcnt
  rw [List.take_add_one, hp]
  show cnt ((B.take k ++ [p]).map bP) a = _
  rw [List.map_append]
  exact cnt_append _ _ _
set_option maxHeartbeats 2000000 in
theorem count_any (w : World) (Bb : Nat) (v : Value) (nx rm : Int) (B : List Bp) (h : BM w Bb v nx rm B) (hB : B.length ≤ 100) (a : Int) (x : Int) (hx : x = bcnt B a) :
    Calls Try.prog 32 #[.pointer (some ⟨Bb, 0, none⟩), .int .i64 a] w fun e w' => e = .returned (.int .i64 x) ∧ w = w' := by
  have c0 := h.c0
  obtain ⟨q, cap, rfl, hrow⟩ := h.row
  have HRow := Lib.hid hrow
  have HX := Lib.hid hx
  clear h hrow hx
  go_enter Try.func32, Try.ntmps32
  go_wp2_with fail
  go_loop [5, 6] (fun n i => ∃ (k : Nat) (m : Int), i = .int .i64 k ∧ n = .int .i64 m ∧ k ≤ B.length ∧ 0 ≤ m ∧ m ≤ 4 * (k : Int) ∧ Hid (m = bcnt (B.take k) a)) (fun _ i => B.length - (numI i).toNat)
  case atStart => exact ⟨0, 0, rfl, rfl, by omega, by omega, by omega, rfl⟩
  case round =>
    obtain ⟨k, m, rfl, rfl, hk, hm0, hm1, HM⟩ := hrel
    by_cases hlt : k < B.length
    · have hkc : (k : Int) < (B.length : Int) := by omega
      obtain ⟨p, hp⟩ : ∃ p, B[k]? = some p := ⟨_, List.getElem?_eq_getElem hlt⟩
      obtain ⟨b, rfl, hbw, hcell⟩ := HRow.out k p hp
      have cr : w.cell? ⟨b, k * 38 + 1, none⟩ = some (.int .i64 p.r) := hcell 1 (by omega)
      have HCell := Lib.hid hcell
      have HS := Lib.hid (bcnt_snoc B k p hp a)
      have HN := Lib.hid (hasN_nn p.pn a)
      have HPc : Hid (pcN (bP p) a = if 0 < p.r then hasN p.pn a 4 else 0) := rfl
      have HP := Lib.hid hp
      clear hcell hp
      generalize hr : p.r = r at cr HPc
      clear hr
      go_wp2_with fail
      go_loop [5, 7] (fun n i => ∃ (j : Nat) (y : Int), i = .int .i64 j ∧ n = .int .i64 y ∧ j ≤ 4 ∧ 0 ≤ y ∧ y ≤ 4 * (k : Int) + j ∧ Hid (y = m + if 0 < r then hasN p.pn a j else 0)) (fun _ i => 4 - (numI i).toNat)
      case atStart => exact ⟨0, m, rfl, rfl, by omega, by omega, by omega, by rw [Hid]; unfold hasN; split <;> omega⟩
      case round =>
        obtain ⟨j, y, rfl, rfl, hj, hy0, hy1, HY⟩ := hrel
        by_cases hj4 : j < 4
        · have hjc : (j : Int) < 4 := by omega
          have cp : w.cell? ⟨b, k * 38 + 34 + j, none⟩ = some (.int .i64 (p.pn j)) := by
            have := HCell.out (34 + j) (by omega)
            rw [show k * 38 + 34 + j = k * 38 + (34 + j) by omega, this]
            unfold picC
            rw [if_neg (by omega), if_neg (by omega), if_neg (by omega), show 34 + j - 34 = j by omega]
          have hst : hasN p.pn a (j + 1) = hasN p.pn a j + (if p.pn j = a then 1 else 0) := rfl
          have HSt := Lib.hid hst
          clear hst
          generalize p.pn j = z at cp HSt
          by_cases hr0 : r > 0
          · by_cases hz : z = a
            · have HZ : Hid (y + 1 = m + if 0 < r then hasN p.pn a (j + 1) else 0) := by
                have h1 := HY.out; have h2 := HSt.out
                rw [if_pos hr0] at h1; rw [if_pos hz] at h2
                rw [Hid, if_pos hr0]; omega
              subst hz
              go_wp2_with fail
              go_round
              case rel => exact ⟨j + 1, y + 1, by go_num, rfl, by omega, by omega, by omega, HZ⟩
              case measure => simp [numI]; omega
            · have HZ : Hid (y = m + if 0 < r then hasN p.pn a (j + 1) else 0) := by
                have h1 := HY.out; have h2 := HSt.out
                rw [if_pos hr0] at h1; rw [if_neg hz] at h2
                rw [Hid, if_pos hr0]; omega
              have hz2 : (z == a) = false := by simpa using hz
              go_wp2_with fail
              go_round
              case rel => exact ⟨j + 1, y, by go_num, rfl, by omega, by omega, by omega, HZ⟩
              case measure => simp [numI]; omega
          · have HZ : Hid (y = m + if 0 < r then hasN p.pn a (j + 1) else 0) := by
              have h1 := HY.out
              rw [if_neg hr0] at h1
              rw [Hid, if_neg hr0]; exact h1
            go_wp2_with fail
            go_round
            case rel => exact ⟨j + 1, y, by go_num, rfl, by omega, by omega, by omega, HZ⟩
            case measure => simp [numI]; omega
        · obtain rfl : j = 4 := by omega
          have HZ : Hid (y = bcnt (B.take (k + 1)) a) := by
            rw [Hid, HS.out, HPc.out, ← HM.out]; exact HY.out
          have hy4 : y ≤ 4 * ((k + 1 : Nat) : Int) := by omega
          go_wp2_with fail
          go_round
          case rel => exact ⟨k + 1, y, by go_num, rfl, by omega, by omega, hy4, HZ⟩
          case measure => simp [numI]; omega
    · obtain rfl : k = B.length := by omega
      go_wp2
      go_ret
      exact ⟨by have e := HM.out; rw [List.take_length] at e; rw [HX.out, ← e]; rfl, rfl⟩

theorem bused_snoc (B : List Bp) (k : Nat) : bused B (k + 1) = bused B k + (if 0 < bcnt B ((k : Int) + 1) then 1 else 0) := by
  unfold bused
  rw [List.range_succ, List.filter_append, List.length_append]
  congr 1
  by_cases e : 0 < bcnt B ((k : Int) + 1) <;> simp [e]
theorem bused_le (B : List Bp) (k : Nat) : bused B k ≤ k := by unfold bused; exact Nat.le_trans (List.length_filter_le _ _) (by simp)
set_option maxHeartbeats 2000000 in
theorem bused_any (w : World) (Bb : Nat) (v : Value) (n : Nat) (rm : Int) (B : List Bp) (h : BM w Bb v n rm B) (hB : B.length ≤ 100) (hn : n ≤ 1000) (x : Int) (hx : x = (bused B n : Nat)) :
    Calls Try.prog 30 #[.pointer (some ⟨Bb, 0, none⟩)] w fun e w' => e = .returned (.int .i64 x) ∧ w = w' := by
  have c1 := h.c1
  have HC := Lib.hid (fun a => count_any w Bb v n rm B h hB a _ rfl)
  have HX := Lib.hid hx
  clear h hx
  go_enter Try.func30, Try.ntmps30
  go_wp2_with fail
  go_loop [3, 4] (fun u i => ∃ (k : Nat) (m : Nat), i = .int .i64 ((k : Int) + 1) ∧ u = .int .i64 m ∧ k ≤ n ∧ m ≤ k ∧ Hid (m = bused B k)) (fun _ i => n + 1 - (numI i).toNat)
  case atStart => exact ⟨0, 0, rfl, rfl, by omega, by omega, rfl⟩
  case round =>
    obtain ⟨k, m, rfl, rfl, hk, hm, HM⟩ := hrel
    by_cases hlt : k < n
    · have hkc : (k : Int) + 1 ≤ (n : Int) := by omega
      have HCk := Lib.hid (HC.out ((k : Int) + 1))
      have HS := Lib.hid (bused_snoc B k)
      have hb := (bcnt_nn B ((k : Int) + 1)).2
      generalize bcnt B ((k : Int) + 1) = y at HCk HS hb
      by_cases hy : y > 0
      · have HZ : Hid (m + 1 = bused B (k + 1)) := by have h1 := HS.out; rw [if_pos hy] at h1; have := HM.out; rw [Hid]; omega
        go_wp2_with (go_at_call 32; with_reducible refine HCk.out.mono ?_; rintro e w1 ⟨rfl, rfl⟩)
        go_round
        case rel => exact ⟨k + 1, m + 1, by go_num, by go_num, by omega, by omega, HZ⟩
        case measure => simp [numI]; omega
      · have HZ : Hid (m = bused B (k + 1)) := by have h1 := HS.out; rw [if_neg hy] at h1; have := HM.out; rw [Hid]; omega
        go_wp2_with (go_at_call 32; with_reducible refine HCk.out.mono ?_; rintro e w1 ⟨rfl, rfl⟩)
        go_round
        case rel => exact ⟨k + 1, m, by go_num, rfl, by omega, by omega, HZ⟩
        case measure => simp [numI]; omega
    · obtain rfl : k = n := by omega
      go_wp2
      go_ret
      exact ⟨by have e := HM.out; rw [HX.out, ← e]; rfl, rfl⟩
set_option maxHeartbeats 2000000 in
theorem new_ok (w : World) (Bb : Nat) (v : Value) (nx rm : Int) (B : List Bp) (h : BM w Bb v nx rm B) (hB : B.length ≤ 100) (x : Int) (hx : x = 0 ∨ x = B.length) :
    Calls Try.prog 31 #[.pointer (some ⟨Bb, 0, none⟩), .int .i64 x] w fun e w' => e = .returned (.bool true) ∧ w = w' := by
  have c0 := h.c0
  obtain ⟨q, cap, rfl, hrow⟩ := h.row
  have HRow := Lib.hid hrow
  have HX := Lib.hid hx
  clear h hrow hx
  go_enter Try.func31, Try.ntmps31
  go_wp2_with fail
  go_loop [5] (fun i => ∃ (k : Nat), i = .int .i64 k ∧ k ≤ B.length) (fun i => B.length - (numI i).toNat)
  case atStart => exact ⟨0, rfl, by omega⟩
  case round =>
    obtain ⟨k, rfl, hk⟩ := hrel
    by_cases hlt : k + 1 < B.length
    · have hkc : (k : Int) < (B.length : Int) - 1 := by omega
      have hkc2 : (k : Int) < (B.length : Int) := by omega
      obtain ⟨p, hp⟩ : ∃ p, B[k]? = some p := ⟨_, List.getElem?_eq_getElem (by omega)⟩
      obtain ⟨b, rfl, hbw, hcell⟩ := HRow.out k p hp
      have cr : w.cell? ⟨b, k * 38, none⟩ = some (.int .i64 ((k : Int) + 1)) := hcell 0 (by omega)
      have hne : ((k : Int) + 1 == x) = false := by
        have := HX.out
        simp only [beq_eq_false_iff_ne, ne_eq]; omega
      clear hcell hp
      by_cases hx0 : x = 0
      · subst hx0
        go_wp2_with fail
        go_round
        case rel => exact ⟨k + 1, by go_num, by omega⟩
        case measure => simp [numI]; omega
      · have hx1 : (x == 0) = false := by simpa using hx0
        have hx2 : (x != 0) = true := by simpa using hx0
        go_wp2_with fail
        go_round
        case rel => exact ⟨k + 1, by go_num, by omega⟩
        case measure => simp [numI]; omega
    · have hkc : ¬ (k : Int) < (B.length : Int) - 1 := by omega
      go_wp2
      go_ret
      exact ⟨rfl, rfl⟩
end Go.Proofs.Ytkmkjfbbpeocdaa
