/- THE WALKS: Words, of both packages. -/
import Derived.Test.YthidkkjhpdcenaaDoorRe
namespace Go.Proofs.YthidkkjhpdcenaaDoor
open Go.RowKit

/-! ### plain: the words of a text's bytes -/
def blk (c : UInt8) : Bool := c == 32 || c == 9
def wordsL : List UInt8 → List UInt8 → List (List UInt8)
  | cur, [] => if cur = [] then [] else [cur]
  | cur, c :: r => if blk c = true then (if cur = [] then wordsL [] r else cur :: wordsL [] r) else wordsL (cur ++ [c]) r
def wrds (s : ByteArray) : List (List UInt8) := wordsL [] s.data.toList
def wcell (l : List (List UInt8)) : List Value := l.map fun x => .string ⟨x.toArray⟩
def lst (c : ByteArray) : List UInt8 := c.data.toList

theorem wcell_of (out : List ByteArray) : out.map Value.string = wcell (out.map lst) := by
  simp only [wcell, List.map_map]
  apply List.map_congr_left
  intro c _
  simp [lst]
theorem empty_false (c : ByteArray) (h : lst c ≠ []) : c.toList.isEmpty = false := by
  rw [Lib.toList_data]
  cases e : c.data.toList with
  | nil => exact absurd e h
  | cons => rfl
theorem empty_true (c : ByteArray) (h : lst c = []) : c.toList.isEmpty = true := by
  rw [Lib.toList_data]
  unfold lst at h
  rw [h]; rfl
theorem lst_drop (s : ByteArray) (k : Nat) (h : k < s.size) : (lst s).drop k = (s[k]'h) :: (lst s).drop (k + 1) := by
  unfold lst
  have hl : k < s.data.toList.length := by rw [← size_len]; exact h
  rw [List.drop_eq_getElem_cons hl]
  rfl
theorem lst_append (a b : ByteArray) : lst (a ++ b) = lst a ++ lst b := by simp [lst]
theorem lst_one (s : ByteArray) (k : Nat) (h : k < s.size) : lst (s.extract k (k + 1)) = [s[k]'h] := by
  unfold lst
  rw [data_extract]
  have hl : k < s.data.toList.length := by rw [← size_len]; exact h
  apply List.ext_getElem?
  intro i
  rw [List.getElem?_drop, List.getElem?_take]
  rcases i with _ | i
  · rw [if_pos (by omega), Nat.add_zero, List.getElem?_eq_getElem hl]; rfl
  · rw [if_neg (by omega)]; rfl

theorem infoStr : (Tryd.prog.info? 9).map (fun i => (i.zero, i.size, i.bytes)) = some (some (.string ⟨#[]⟩), 1, 16) := by kernel_rfl

/-- What Words hands back. -/
def WordsOut (s : ByteArray) (w : World) (e : Ending) (w' : World) : Prop :=
  ∃ v, e = .returned v ∧ w'.ownsRow w.heap.size 9 1 v (wrds s).length (wcell (wrds s)) ∧ Below w.heap.size w w'

set_option maxHeartbeats 1000000 in
theorem refwords_any (s : ByteArray) (w : World) (hs : s.size ≤ 140737488351232 / 16) :
    Calls Tryd.prog 25 #[.string s] w (WordsOut s w) := by
  obtain ⟨i0, hi, hz0, hz1, hz2⟩ := info_parts infoStr
  have HZ0 := Lib.hid hz0; have HZ1 := Lib.hid hz1; have HZ2 := Lib.hid hz2; have HI := Lib.hid hi
  clear hz0 hz1 hz2 hi
  go_enter Tryd.func25, Tryd.ntmps25
  go_wp2
  go_loopw [3, 4, 5] (fun lv cv iv wr => ∃ (c : ByteArray) (k : Nat) (out : List ByteArray), cv = .string c ∧ iv = .int .i64 k ∧ k ≤ s.size ∧ c.size ≤ k ∧ out.length + (if lst c = [] then 0 else 1) ≤ k ∧ Hid (out.map lst ++ wordsL (lst c) ((lst s).drop k) = wrds s) ∧ Hid (wr.ownsRow w.heap.size 9 1 lv out.length (out.map Value.string)) ∧ Below w.heap.size w wr) (fun _ _ iv _ => s.size - (intOf iv).toNat)
  case atStart => exact ⟨⟨#[]⟩, 0, [], rfl, rfl, by omega, Nat.le_refl 0, by simp [lst], by simp [Hid, lst, wrds], World.ownsRow_nil _ _ _ _, Below.refl _ _⟩
  case round =>
    obtain ⟨c, k, out, rfl, rfl, hk, hc, ho, HP, HO, hb⟩ := hrel
    by_cases h : k < s.size
    · have HD := Lib.hid (lst_drop s k h)
      have hbs : w.heap.size ≤ (wr.alloc (.cells #[.string c] 9)).heap.size := by simp; have := hb.size; omega
      have HBS := Lib.hid hbs; clear hbs
      by_cases hbl : blk (s[k]'h) = true
      · have HB := Lib.hid hbl; clear hbl
        have hor : (((s[k]'h).toNat : Int) == 32) = true ∨ ((((s[k]'h).toNat : Int) == 32) = false ∧ (((s[k]'h).toNat : Int) == 9) = true) := by
          have := HB.out
          unfold blk at this
          rw [Bool.or_eq_true, beq_iff_eq, beq_iff_eq] at this
          rcases this with e | e <;> rw [e] <;> decide
        by_cases he : lst c = []
        · have hne := empty_true c he
          rw [if_pos he] at ho
          have HE := Lib.hid he; clear he
          rcases hor with g1 | ⟨g1, g2⟩
          all_goals
            go_wp2
            go_roundw
            case rel =>
              refine ⟨⟨#[]⟩, k + 1, out, rfl, by go_num, by omega, Nat.zero_le _, by simp [lst]; omega, ?_, HO, hb⟩
              have := HP.out
              rw [HD.out, wordsL, if_pos HB.out, if_pos HE.out] at this
              exact this
            case measure => simp [intOf]; omega
        · have hne := empty_false c he
          rw [if_neg he] at ho
          have HE := Lib.hid he; clear he
          rcases hor with g1 | ⟨g1, g2⟩
          all_goals
            go_wp2_with (at_builtin; refine wpList_append_own _ rfl _ _ 48 rfl w.heap.size 9 i0 (.string ⟨#[]⟩) 1 16 Tryd.underlying48 HI.out HZ0.out HZ1.out HZ2.out rfl (by decide) _ _ _ rfl (HO.out.alloc _) ⟨wr.heap.size, 0, none⟩ 1 1 [.string c] rfl rfl (cell_one_new _ _ _) (by simp [Value.oneCell']) (by unfold maxLen; omega) (by omega) HBS.out ?_; intro v' w1 hown1 hgrow _; have HO1 := Lib.hid hown1; have hb1 := below_one hb HO.out (Nat.le_refl _) hb.size hgrow; clear hown1 hgrow)
            go_roundw
            case rel =>
              refine ⟨⟨#[]⟩, k + 1, out ++ [c], rfl, by go_num, by omega, Nat.zero_le _, by simp [lst]; omega, ?_, ?_, hb1⟩
              · have := HP.out
                rw [HD.out, wordsL, if_pos HB.out, if_neg HE.out] at this
                unfold Hid
                rw [← this]
                simp [lst]
              · have := HO1.out
                unfold Hid
                simpa using this
            case measure => simp [intOf]; omega
      · have HB := Lib.hid hbl
        have g1 : (((s[k]'h).toNat : Int) == 32) = false := by
          rw [beq_eq_false_iff_ne]
          intro e
          apply hbl
          have : (s[k]'h) = 32 := UInt8.toNat_inj.1 (by simpa using (by omega : (s[k]'h).toNat = 32))
          rw [this]; rfl
        have g2 : (((s[k]'h).toNat : Int) == 9) = false := by
          rw [beq_eq_false_iff_ne]
          intro e
          apply hbl
          have : (s[k]'h) = 9 := UInt8.toNat_inj.1 (by simpa using (by omega : (s[k]'h).toNat = 9))
          rw [this]; rfl
        clear hbl
        have hlen : out.length ≤ k := by split at ho <;> omega
        clear ho
        go_wp2
        go_roundw
        case rel =>
          refine ⟨c ++ s.extract k (k + 1), k + 1, out, rfl, by go_num, by omega, ?_, ?_, ?_, HO, hb⟩
          · simp only [ByteArray.size_append, ByteArray.size_extract]; omega
          · rw [lst_append, lst_one s k h, if_neg (by simp)]; omega
          · have := HP.out
            rw [HD.out, wordsL, if_neg HB.out] at this
            unfold Hid
            rw [lst_append, lst_one s k h]
            exact this
        case measure => simp [intOf]; omega
    · have hd : (lst s).drop k = [] := List.drop_eq_nil_of_le (by unfold lst; rw [← size_len]; omega)
      have hp := HP.out
      rw [hd] at hp
      have HP2 := Lib.hid hp; clear hp hd
      by_cases he : lst c = []
      · have hne := empty_true c he
        have HE := Lib.hid he; clear he ho
        go_wp2
        go_ret
        have e : out.map lst = wrds s := by
          have := HP2.out
          rw [wordsL, if_pos HE.out, List.append_nil] at this
          exact this
        refine ⟨_, rfl, ?_, hb⟩
        rw [← e, ← wcell_of, List.length_map]
        exact HO.out
      · have hne := empty_false c he
        rw [if_neg he] at ho
        have hbs : w.heap.size ≤ (wr.alloc (.cells #[.string c] 9)).heap.size := by simp; have := hb.size; omega
        have HBS := Lib.hid hbs; clear hbs
        have HE := Lib.hid he; clear he
        go_wp2_with (at_builtin; refine wpList_append_own _ rfl _ _ 48 rfl w.heap.size 9 i0 (.string ⟨#[]⟩) 1 16 Tryd.underlying48 HI.out HZ0.out HZ1.out HZ2.out rfl (by decide) _ _ _ rfl (HO.out.alloc _) ⟨wr.heap.size, 0, none⟩ 1 1 [.string c] rfl rfl (cell_one_new _ _ _) (by simp [Value.oneCell']) (by unfold maxLen; omega) (by omega) HBS.out ?_; intro v' w1 hown1 hgrow _; have HO1 := Lib.hid hown1; have hb1 := below_one hb HO.out (Nat.le_refl _) hb.size hgrow; clear hown1 hgrow)
        go_ret
        have e : (out ++ [c]).map lst = wrds s := by
          have := HP2.out
          rw [wordsL, if_neg HE.out] at this
          simpa using this
        refine ⟨_, rfl, ?_, hb1⟩
        rw [← e, ← wcell_of, List.length_map]
        simpa using HO1.out
end Go.Proofs.YthidkkjhpdcenaaDoor
