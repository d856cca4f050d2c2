/- THE WALK OF THE LAW RunesTitles. -/
import Derived.Test.YtmmppglkdakdoaaRr
namespace Go.Proofs.Ytmmppglkdakdoaa
open Go.RowKit

/-- n times one rune. -/
def rep (r : Nat) (n : Nat) : List (Nat × Nat) := List.replicate n (r, (Utf8.encode r).size)
theorem rep_len (r n : Nat) : (rep r n).length = n := List.length_replicate
theorem rep_good (r n : Nat) (h : r ≤ 1114111 ∧ ¬ (55296 ≤ r ∧ r < 57344)) : good (rep r n) = true := by
  unfold good rep
  rw [List.all_replicate]
  split
  · rfl
  · exact enc_ok r h
theorem rep_plain (r n : Nat) (h1 : 32 ≤ r) (h2 : r ≠ 127) : plainR (rep r n) = true := by
  unfold plainR rep
  rw [List.all_replicate]
  split
  · rfl
  · simp; omega
theorem rep_tit (s : ByteArray) (r n : Nat) (h : r ≤ 1114111 ∧ ¬ (55296 ≤ r ∧ r < 57344)) (h1 : 32 ≤ r) (h2 : r ≠ 127) (hs : rns s = rep r n) : titB s = (decide (1 ≤ n) && decide (n ≤ 20)) := by
  unfold titB
  rw [hs, rep_good r n h, rep_plain r n h1 h2, rep_len]
  simp
theorem rns_nl : rns (⟨#[10]⟩ : ByteArray) = [(10, 1)] := by decide +kernel
theorem rep_nl (s : ByteArray) (r n : Nat) (h : r ≤ 1114111 ∧ ¬ (55296 ≤ r ∧ r < 57344)) (hs : rns s = rep r n) : titB (s ++ ⟨#[10]⟩) = false := by
  unfold titB
  rw [rns_append s _ (by rw [hs]; exact rep_good r n h), rns_nl]
  have : plainR (rns s ++ [(10, 1)]) = false := by simp [plainR]
  rw [this, Bool.and_false]
theorem rep_succ (s : ByteArray) (r k : Nat) (h : r ≤ 1114111 ∧ ¬ (55296 ≤ r ∧ r < 57344)) (hs : rns s = rep r k) : rns (s ++ Utf8.encode (r : Int)) = rep r (k + 1) := by
  rw [rns_append s _ (by rw [hs]; exact rep_good r k h), hs, rns_encode r h, rep, rep, List.replicate_succ']

set_option maxRecDepth 100000 in
set_option maxHeartbeats 2000000 in
theorem titleslaw_go (n : Nat) (x : Int) (r : Nat) (HXR : Hid (x = r)) (w : World) (hn : n ≤ 25) (h1 : 32 ≤ r) (h2 : r ≠ 127) (h3 : r ≤ 1114111 ∧ ¬ (55296 ≤ r ∧ r < 57344)) :
    Calls Try.prog 8 #[.int .i64 n, .int .i32 x] w fun e w' => e = .returned (.bool true) ∧ Below w.heap.size w w' := by
  have hx := HXR.out
  have q1 : ¬ (n : Int) < 0 := by omega
  have q2 : ¬ (n : Int) > 25 := by omega
  have q3 : ¬ x < 32 := by omega
  have q4 : (x == 127) = false := by rw [beq_eq_false_iff_ne]; omega
  have q5 : ¬ x > 1114111 := by omega
  have q6 : ¬ x ≥ 55296 ∨ (x ≥ 55296 ∧ ¬ x < 57344) := by omega
  have H1 := Lib.hid h1; have H2 := Lib.hid h2; have H3 := Lib.hid h3; clear h1 h2 h3 hx
  have HE := Lib.hid (enc_size x).2
  rcases q6 with q6 | ⟨q6, q7⟩
  all_goals
    go_enter Try.func8, Try.ntmps8
    go_wp2_with fail
    refine (begun_any _).mono ?_
    rintro e w1 ⟨rfl, hb1⟩
    go_wp2
    go_loop [6, 7] (fun sv iv => ∃ (k : Nat) (s : ByteArray), k ≤ n ∧ iv = .int .i64 k ∧ sv = .string s ∧ s.size ≤ 4 * k ∧ Hid (rns s = rep r k)) (fun _ iv => n - (intOf iv).toNat)
    case atStart => exact ⟨0, ⟨#[]⟩, by omega, rfl, rfl, Nat.le_refl 0, rns_nil rfl⟩
    case round =>
      obtain ⟨k, s, hk, rfl, rfl, hs, HR⟩ := hrel
      by_cases hlt : k < n
      · have hlt1 : (k : Int) < (n : Int) := by omega
        have henc := HE.out
        go_wp2
        go_round
        case rel =>
          refine ⟨k + 1, _, by omega, by go_num, rfl, ?_, by rw [HXR.out]; exact rep_succ s r k H3.out HR.out⟩
          rw [ByteArray.size_append]; omega
        case measure => simp [intOf]; omega
      · have hlt1 : ¬ (k : Int) < (n : Int) := by omega
        obtain rfl : k = n := by omega
        have hm1 : s.size ≤ maxLen := by unfold maxLen; omega
        have hm2 : (s ++ ⟨#[10]⟩).size ≤ maxLen := by
          rw [ByteArray.size_append]
          have : (⟨#[10]⟩ : ByteArray).size = 1 := rfl
          unfold maxLen; omega
        have ht1 := rep_tit s r k H3.out H1.out H2.out HR.out
        have ht2 := rep_nl s r k H3.out HR.out
        have hlen : (rns s).length = k := by rw [HR.out, rep_len]
        have HM1 := Lib.hid hm1; have HM2 := Lib.hid hm2; have HT1 := Lib.hid ht1; have HT2 := Lib.hid ht2; have HL := Lib.hid hlen
        clear hm1 hm2 ht1 ht2 hlen
        have hb : (1 ≤ k ∧ k ≤ 20) ∨ ¬ 1 ≤ k ∨ (1 ≤ k ∧ ¬ k ≤ 20) := by omega
        rcases hb with ⟨b1, b2⟩ | b1 | ⟨b1, b2⟩
        · have c1 : (k : Int) ≥ 1 := by omega
          have c2 : (k : Int) ≤ 20 := by omega
          have ht : titB s = true := by rw [HT1.out]; simp; omega
          have HT := Lib.hid ht; clear ht b1 b2
          go_wp2_with fail
          refine (title_any s _ HM1.out).mono ?_
          rintro e w2 ⟨rfl, hb2⟩
          rw [HT.out]
          have hC2 := Below.next hb1 hb1.size hb2
          go_wp2_with fail
          refine (count_any s _ HM1.out).mono ?_
          rintro e w3 ⟨rfl, hb3⟩
          rw [HL.out]
          have hC3 := Below.next hC2 hC2.size hb3
          go_wp2_with fail
          refine (title_any _ _ HM2.out).mono ?_
          rintro e w4 ⟨rfl, hb4⟩
          rw [HT2.out]
          have hC4 := Below.next hC3 hC3.size hb4
          go_wp2
          go_ret
          exact ⟨rfl, hC4⟩
        · have c1 : ¬ (k : Int) ≥ 1 := by omega
          have ht : titB s = false := by rw [HT1.out]; simp; omega
          have HT := Lib.hid ht; clear ht b1
          go_wp2_with fail
          refine (title_any s _ HM1.out).mono ?_
          rintro e w2 ⟨rfl, hb2⟩
          rw [HT.out]
          have hC2 := Below.next hb1 hb1.size hb2
          go_wp2_with fail
          refine (count_any s _ HM1.out).mono ?_
          rintro e w3 ⟨rfl, hb3⟩
          rw [HL.out]
          have hC3 := Below.next hC2 hC2.size hb3
          go_wp2_with fail
          refine (title_any _ _ HM2.out).mono ?_
          rintro e w4 ⟨rfl, hb4⟩
          rw [HT2.out]
          have hC4 := Below.next hC3 hC3.size hb4
          go_wp2
          go_ret
          exact ⟨rfl, hC4⟩
        · have c1 : (k : Int) ≥ 1 := by omega
          have c2 : ¬ (k : Int) ≤ 20 := by omega
          have ht : titB s = false := by rw [HT1.out]; simp; omega
          have HT := Lib.hid ht; clear ht b1 b2
          go_wp2_with fail
          refine (title_any s _ HM1.out).mono ?_
          rintro e w2 ⟨rfl, hb2⟩
          rw [HT.out]
          have hC2 := Below.next hb1 hb1.size hb2
          go_wp2_with fail
          refine (count_any s _ HM1.out).mono ?_
          rintro e w3 ⟨rfl, hb3⟩
          rw [HL.out]
          have hC3 := Below.next hC2 hC2.size hb3
          go_wp2_with fail
          refine (title_any _ _ HM2.out).mono ?_
          rintro e w4 ⟨rfl, hb4⟩
          rw [HT2.out]
          have hC4 := Below.next hC3 hC3.size hb4
          go_wp2
          go_ret
          refine ⟨?_, hC4⟩
          show Ending.returned (.bool (!decide ((k : Int) ≤ 20))) = _
          rw [decide_eq_false (show ¬ (k : Int) ≤ 20 by omega)]; rfl

set_option maxRecDepth 100000 in
set_option maxHeartbeats 2000000 in
theorem titleslaw_no (n r : Int) (w : World) (h : n < 0 ∨ (¬ n < 0 ∧ n > 25) ∨ (¬ n < 0 ∧ ¬ n > 25 ∧ r < 32) ∨ (¬ n < 0 ∧ ¬ n > 25 ∧ ¬ r < 32 ∧ r = 127) ∨ (¬ n < 0 ∧ ¬ n > 25 ∧ ¬ r < 32 ∧ r ≠ 127 ∧ r > 1114111) ∨ (¬ n < 0 ∧ ¬ n > 25 ∧ ¬ r < 32 ∧ r ≠ 127 ∧ ¬ r > 1114111 ∧ 55296 ≤ r ∧ r < 57344)) :
    Calls Try.prog 8 #[.int .i64 n, .int .i32 r] w fun e w' => e = .returned (.bool true) ∧ Below w.heap.size w w' := by
  have hq : r = 127 → (r == 127) = true := fun e => by rw [e]; rfl
  have hq2 : r ≠ 127 → (r == 127) = false := fun e => by rw [beq_eq_false_iff_ne]; exact e
  rcases h with a1 | ⟨a1, a2⟩ | ⟨a1, a2, a3⟩ | ⟨a1, a2, a3, a4⟩ | ⟨a1, a2, a3, a4, a5⟩ | ⟨a1, a2, a3, a4, a5, a6, a7⟩
  all_goals try (have a8 := hq a4; clear a4)
  all_goals try (have a8 := hq2 a4; clear a4)
  all_goals clear hq hq2
  all_goals
    go_enter Try.func8, Try.ntmps8
    go_wp2_with fail
    refine (begun_any _).mono ?_
    rintro e w1 ⟨rfl, hb1⟩
    go_wp2
    go_ret
    exact ⟨rfl, hb1⟩

theorem titleslaw_law (n r : Int) (w : World) (_ : (Lit.int .i64 n).wf = true) (_ : (Lit.int .i32 r).wf = true) :
    Calls Try.prog 8 #[.int .i64 n, .int .i32 r] w fun e w' => e = .returned (.bool true) ∧ Below w.heap.size w w' := by
  by_cases h : 0 ≤ n ∧ n ≤ 25 ∧ 32 ≤ r ∧ r ≠ 127 ∧ r ≤ 1114111 ∧ ¬ (55296 ≤ r ∧ r < 57344)
  · obtain ⟨N, rfl⟩ : ∃ N : Nat, n = N := ⟨n.toNat, by omega⟩
    obtain ⟨R, rfl⟩ : ∃ R : Nat, r = R := ⟨r.toNat, by omega⟩
    exact titleslaw_go N R R rfl w (by omega) (by omega) (by omega) (by omega)
  · exact titleslaw_no n r w (by omega)
end Go.Proofs.Ytmmppglkdakdoaa
