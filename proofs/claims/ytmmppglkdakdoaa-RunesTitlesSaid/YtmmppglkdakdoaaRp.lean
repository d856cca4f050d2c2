/- THE WALK OF THE LAW RunesJoin. -/
import Derived.Test.YtmmppglkdakdoaaRo
namespace Go.Proofs.Ytmmppglkdakdoaa
open Go.RowKit

theorem wordsL_join : ∀ (x cur y : List UInt8), wordsL cur (x ++ 32 :: y) = wordsL cur x ++ wordsL [] y := by
  intro x
  induction x with
  | nil =>
    intro cur y
    show wordsL cur (32 :: y) = wordsL cur [] ++ wordsL [] y
    rw [show wordsL cur (32 :: y) = if blk 32 = true then (if cur = [] then wordsL [] y else cur :: wordsL [] y) else wordsL (cur ++ [32]) y from rfl, if_pos (show blk 32 = true by decide)]
    rw [show wordsL cur [] = if cur = [] then [] else [cur] from rfl]
    split <;> simp
  | cons c r ih =>
    intro cur y
    rw [List.cons_append, wordsL, wordsL, ih, ih]
    split
    · split <;> simp
    · rfl
theorem lst_blank : lst (⟨#[32]⟩ : ByteArray) = [32] := rfl
theorem wrds_join (a b : ByteArray) : wrds (a ++ ⟨#[32]⟩ ++ b) = wrds a ++ wrds b := by
  have h : lst (a ++ ⟨#[32]⟩ ++ b) = lst a ++ 32 :: lst b := by rw [lst_append, lst_append, lst_blank]; simp
  unfold wrds
  show wordsL [] (lst _) = _
  rw [h, wordsL_join]
  rfl
theorem wcell_append (x y : List (List UInt8)) : wcell (x ++ y) = wcell x ++ wcell y := by simp [wcell]

/-- Words, its list's length under a name. -/
theorem words_sl (s : ByteArray) (m : Nat) (hm : (wrds s).length = m) (w : World) (hs : s.size ≤ 140737488351232 / 16) :
    Calls Try.prog 19 #[.string s] w fun e w' => ∃ A c, e = .returned (.slice A m c) ∧ w'.ownsRow w.heap.size 9 1 (.slice A m c) m (wcell (wrds s)) ∧ Below w.heap.size w w' := by
  refine (words_any s w hs).mono ?_
  rintro e w' ⟨v, rfl, hown, hb⟩
  rw [hm] at hown
  obtain ⟨A, c, rfl⟩ := own_form hown
  exact ⟨A, c, rfl, hown, hb⟩

set_option maxRecDepth 100000 in
set_option maxHeartbeats 1000000 in
theorem joinlaw_any (s u : ByteArray) (w : World) :
    Calls Try.prog 7 #[.string s, .string u] w fun e w' => e = .returned (.bool true) ∧ Below w.heap.size w w' := by
  go_enter Try.func7, Try.ntmps7
  go_wp2_with fail
  refine (begun_any _).mono ?_
  rintro e w1 ⟨rfl, hb1⟩
  go_wp2_with fail
  refine (cut_any s 40 _ (by omega)).mono ?_
  rintro e w' ⟨rfl, rfl⟩
  obtain ⟨a, ha⟩ : ∃ t, t = s.extract 0 (min 40 s.size) := ⟨_, rfl⟩
  have haz : a.size ≤ 40 := by rw [ha]; exact cut_size s 40
  rw [← ha]
  clear ha
  go_wp2_with fail
  refine (cut_any u 40 _ (by omega)).mono ?_
  rintro e w' ⟨rfl, rfl⟩
  obtain ⟨b, hb⟩ : ∃ t, t = u.extract 0 (min 40 u.size) := ⟨_, rfl⟩
  have hbz : b.size ≤ 40 := by rw [hb]; exact cut_size u 40
  rw [← hb]
  clear hb
  have hzs : (a ++ ⟨#[32]⟩ ++ b).size ≤ 140737488351232 / 16 := by
    rw [ByteArray.size_append, ByteArray.size_append]
    have : (⟨#[32]⟩ : ByteArray).size = 1 := rfl
    omega
  have HZS := Lib.hid hzs; clear hzs
  have hla := wrds_len a
  have hlb := wrds_len b
  obtain ⟨m, hm⟩ : ∃ m, (wrds a).length = m := ⟨_, rfl⟩
  obtain ⟨n, hn⟩ : ∃ n, (wrds b).length = n := ⟨_, rfl⟩
  have hmn : (wrds (a ++ ⟨#[32]⟩ ++ b)).length = m + n := by rw [wrds_join, List.length_append, hm, hn]
  rw [hm] at hla
  rw [hn] at hlb
  have HM := Lib.hid hm; have HN := Lib.hid hn; have HMN := Lib.hid hmn; clear hm hn hmn
  go_wp2_with fail
  refine (words_sl a m HM.out _ (by omega)).mono ?_
  rintro e w2 ⟨A, c, rfl, hown, hb2⟩
  have hC2 := Below.next hb1 hb1.size hb2
  go_wp2_with fail
  refine (words_sl b n HN.out _ (by omega)).mono ?_
  rintro e w3 ⟨A2, c2, rfl, hown2, hb3⟩
  have hC3 := Below.next hC2 hC2.size hb3
  have hown1 := own_below hown hb3
  clear hown hb2 hC2 hb3
  have H1 := Lib.hid hown1; have H2 := Lib.hid hown2; clear hown1 hown2
  go_wp2_with fail
  refine (words_sl (a ++ ⟨#[32]⟩ ++ b) (m + n) HMN.out _ HZS.out).mono ?_
  rintro e w4 ⟨A3, c3, rfl, hown3, hb4⟩
  have hC4 := Below.next hC3 hC3.size hb4
  have hown1 := own_below H1.out hb4
  have hown2 := own_below H2.out hb4
  rw [wrds_join, wcell_append] at hown3
  clear H1 H2 hC3 hb4
  have H1 := Lib.hid hown1; have H2 := Lib.hid hown2; have H3 := Lib.hid hown3; clear hown1 hown2 hown3
  obtain ⟨B1, hB1⟩ : ∃ B, B = w1.heap.size := ⟨_, rfl⟩
  obtain ⟨B2, hB2⟩ : ∃ B, B = w2.heap.size := ⟨_, rfl⟩
  obtain ⟨B3, hB3⟩ : ∃ B, B = w3.heap.size := ⟨_, rfl⟩
  rw [← hB1] at H1
  rw [← hB2] at H2
  rw [← hB3] at H3
  clear hB1 hB2 hB3 hb1
  go_wp2
  go_loopw [9] (fun iv wr => ∃ k : Nat, k ≤ m + n ∧ iv = .int .i64 k ∧ Hid (wr.ownsRow B1 9 1 (.slice A m c) m (wcell (wrds a))) ∧ Hid (wr.ownsRow B2 9 1 (.slice A2 n c2) n (wcell (wrds b))) ∧ Hid (wr.ownsRow B3 9 1 (.slice A3 (m + n) c3) (m + n) (wcell (wrds a) ++ wcell (wrds b))) ∧ Below w.heap.size w wr) (fun iv _ => m + n - (intOf iv).toNat)
  case atStart => exact ⟨0, by omega, rfl, H1, H2, H3, hC4⟩
  case round =>
    obtain ⟨k, hk, rfl, G1, G2, G3, hb⟩ := hrel
    clear H1 H2 H3 hC4
    by_cases hlt : k < m + n
    · have hk1 : (k : Int) < (m : Int) + (n : Int) := by omega
      have hk0 : (0 : Int) ≤ (k : Int) := by omega
      obtain ⟨g3, cap3, hA3, _, _⟩ := G3.out.form (by omega)
      obtain ⟨rfl, rfl⟩ : A3 = some ⟨g3, 0, none⟩ ∧ c3 = cap3 := by injection hA3 with a b d; exact ⟨a, d⟩
      have e3 := G3.out.cellAt k (by omega)
      have hl1 : (wcell (wrds a)).length = m := by rw [wcell, List.length_map]; exact HM.out
      by_cases hx : k < m
      · have hx1 : (k : Int) < (m : Int) := by omega
        have hx2 : decide (m ≤ k) = false := by simp; omega
        obtain ⟨g1, cap1, hA1, _, _⟩ := G1.out.form (by omega)
        obtain ⟨rfl, rfl⟩ : A = some ⟨g1, 0, none⟩ ∧ c = cap1 := by injection hA1 with a b d; exact ⟨a, d⟩
        have e1 := G1.out.cellAt k (by omega)
        rw [List.getElem?_append_left (by omega)] at e3
        have hw : k < (wrds a).length := by rw [HM.out]; exact hx
        rw [wcell_at hw] at e1 e3
        have hns := neq_self ((wrds a)[k]'hw)
        clear hA1 hA3 hl1
        go_wp2
        go_quiet (fail)
        go_wp2
        go_roundw
        case rel => exact ⟨k + 1, by omega, by go_num, G1, G2, G3, below_drewN hb _⟩
        case measure => simp [intOf]; omega
      · have hx1 : ¬ (k : Int) < (m : Int) := by omega
        have hx2 : (m : Int) ≤ (k : Int) := by omega
        have hx3 : decide ((k : Int) < (m : Int)) = false := by simp; omega
        have hx4 : (0 : Int) ≤ (k : Int) - (m : Int) := by omega
        have hx5 : (k : Int) - (m : Int) < (n : Int) := by omega
        obtain ⟨g2, cap2, hA2, _, _⟩ := G2.out.form (by omega)
        obtain ⟨rfl, rfl⟩ : A2 = some ⟨g2, 0, none⟩ ∧ c2 = cap2 := by injection hA2 with a b d; exact ⟨a, d⟩
        have e1 := G2.out.cellAt (k - m) (by omega)
        rw [List.getElem?_append_right (by omega), hl1] at e3
        have hw : k - m < (wrds b).length := by rw [HN.out]; omega
        rw [wcell_at hw] at e1 e3
        have hns := neq_self ((wrds b)[k - m]'hw)
        have htn : ((k : Int) - (m : Int)).toNat = k - m := by omega
        clear hA2 hA3 hl1
        go_wp2
        go_quiet (fail)
        go_wp2
        go_roundw
        case rel => exact ⟨k + 1, by omega, by go_num, G1, G2, G3, below_drewN hb _⟩
        case measure => simp [intOf]; omega
    · have hk1 : ¬ (k : Int) < (m : Int) + (n : Int) := by omega
      go_wp2
      go_ret
      exact ⟨rfl, hb⟩

theorem joinlaw_law (s u : ByteArray) (w : World) (_ : s.size ≤ maxLen) (_ : u.size ≤ maxLen) :
    Calls Try.prog 7 #[.string s, .string u] w fun e w' => e = .returned (.bool true) ∧ Below w.heap.size w w' := joinlaw_any s u w
end Go.Proofs.Ytmmppglkdakdoaa
