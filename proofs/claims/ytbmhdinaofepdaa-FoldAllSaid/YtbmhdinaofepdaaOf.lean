/- THE WALKS of fits, ref Form. -/
import Derived.Test.YtbmhdinaofepdaaOe
import Derived.Test.YtbmhdinaofepdaaRe
namespace Go.Proofs.Ytbmhdinaofepdaa
open Go.RowKit
set_option linter.unusedVariables false

def numO (o : O4) (j : Nat) : Int := match j with
  | 0 => o.k
  | 1 => o.a
  | 2 => o.b
  | _ => o.c
theorem smlOB_all (o : O4) : (∀ i, i < 4 → smlB (numO o i) = true) → smlOB o = true := fun h => by
  have h0 := h 0 (by omega); have h1 := h 1 (by omega); have h2 := h 2 (by omega); have h3 := h 3 (by omega)
  simp only [numO] at h0 h1 h2 h3
  unfold smlOB; rw [h0, h1, h2, h3]; rfl
theorem smlOB_bad (o : O4) (i : Nat) (hi : i < 4) (h : smlB (numO o i) = false) : smlOB o = false := by
  unfold smlOB
  obtain rfl | rfl | rfl | rfl : i = 0 ∨ i = 1 ∨ i = 2 ∨ i = 3 := by omega
  all_goals
    simp only [numO] at h
    rw [h]
    simp
theorem smlB_yes {n : Int} (h1 : -2147483648 ≤ n) (h2 : n ≤ 2147483647) : smlB n = true := by unfold smlB; simp; exact ⟨h1, h2⟩
theorem smlB_no {n : Int} (h : n < -2147483648 ∨ 2147483647 < n) : smlB n = false := by
  unfold smlB
  rcases h with h | h
  · rw [show decide (-2147483648 ≤ n) = false by simp; omega]; rfl
  · rw [show decide (n ≤ 2147483647) = false by simp; omega]; simp
theorem two_cells {w w1 : World} {u v : Value} {T : TypeId} {B : Nat} (hb : Below B (w.alloc (.cells #[u, v] T)) w1) (hB : w.heap.size < B) :
    w1.cell? ⟨w.heap.size, 0, none⟩ = some u ∧ w1.cell? ⟨w.heap.size, 1, none⟩ = some v ∧ w1.frozen? ⟨w.heap.size, 0, none⟩ = false ∧ w1.frozen? ⟨w.heap.size, 1, none⟩ = false := by
  have h0 := hb.cell (p := ⟨w.heap.size, 0, none⟩) hB
  have h1 := hb.cell (p := ⟨w.heap.size, 1, none⟩) hB
  have f0 := hb.frozen (p := ⟨w.heap.size, 0, none⟩) hB
  have f1 := hb.frozen (p := ⟨w.heap.size, 1, none⟩) hB
  have r : (w.alloc (.cells #[u, v] T)).rowIs w.heap.size T 2 (fun i => if i = 0 then u else v) := World.rowIs_alloc w _ T _ (fun i hi => by
    have hi : i < 2 := hi
    obtain rfl | rfl : i = 0 ∨ i = 1 := by omega
    all_goals rfl)
  exact ⟨h0.trans (r.cell (show 0 < 2 by omega)), h1.trans (r.cell (show 1 < 2 by omega)), f0.trans (r.frozen 0), f1.trans (r.frozen 1)⟩
theorem index_parts (o : O4) (j : Nat) (hj : j < 4) (w : World) : (Instr.index 86 (opV o) (.int .i64 (j : Int))).run Try.prog w = .ok (.int .i64 (numO o j)) w := by
  obtain rfl | rfl | rfl | rfl : j = 0 ∨ j = 1 ∨ j = 2 ∨ j = 3 := by omega
  all_goals kernel_rfl
theorem smlOs_bad {os : List O4} {k : Nat} (h : k < os.length) (hb : smlOB os[k] = false) : smlOs os = false := by
  unfold smlOs
  rw [List.all_eq_false]
  exact ⟨os[k], List.getElem_mem h, by simp [hb]⟩
theorem smlOs_take {os : List O4} {k : Nat} (h : k < os.length) (h1 : smlOs (os.take k) = true) (h2 : smlOB os[k] = true) : smlOs (os.take (k + 1)) = true := by
  unfold smlOs at *
  rw [List.take_succ_eq_append_getElem h, List.all_append, h1]
  simp [h2]
/-- a program as it is handed in -/
def progV (t : ByteArray) (A : Option Addr) (n cap : Nat) : Value := .agg #[.string t, .slice A n cap]
set_option maxHeartbeats 4000000 in
theorem fits_any (t : ByteArray) (A : Option Addr) (os : List O4) (cap B : Nat) (w : World) (hr : RO w B A os) (hB : B ≤ w.heap.size) (hc : os.length ≤ cap) (hm : cap ≤ maxLen) (ht : t.size ≤ maxLen) :
    Calls Try.prog 48 #[progV t A os.length cap] w fun e w' => e = .returned (.bool (fitsB (titB t) os)) ∧ Below w.heap.size w w' := by
  unfold progV
  unfold maxLen at hm
  have b0 : Below w.heap.size w (w.alloc (.cells #[.string t, .slice A os.length cap] 24)) := (Below.refl _ _).alloc (Nat.le_refl _) _
  have HT := Lib.hid (title_any t (w.alloc (.cells #[.string t, .slice A os.length cap] 24)) ht)
  have HR := Lib.hid hr; clear hr
  by_cases h1 : os.length < 1
  · have g1 : (os.length : Int) < 1 := by omega
    have HF := Lib.hid (show fitsB (titB t) os = false by unfold fitsB; rw [show decide (1 ≤ os.length) = false by rw [decide_eq_false_iff_not]; omega]; simp)
    clear h1
    go_enter Try.func48, Try.ntmps48
    go_wp2
    go_ret
    exact ⟨by rw [HF.out]; rfl, b0⟩
  by_cases h2 : 64 < os.length
  · have g1 : ¬ (os.length : Int) < 1 := by omega
    have g2 : (64 : Int) < os.length := by omega
    have HF := Lib.hid (show fitsB (titB t) os = false by unfold fitsB; rw [show decide (os.length ≤ 64) = false by rw [decide_eq_false_iff_not]; omega]; simp)
    clear h1 h2
    go_enter Try.func48, Try.ntmps48
    go_wp2
    go_ret
    exact ⟨by rw [HF.out]; rfl, b0⟩
  have g1 : ¬ (os.length : Int) < 1 := by omega
  have g2 : ¬ (64 : Int) < os.length := by omega
  cases hti : titB t with
  | false =>
    have HF := Lib.hid (show fitsB false os = false by unfold fitsB; simp)
    rw [hti] at HT
    clear h1 h2 hti
    go_enter Try.func48, Try.ntmps48
    go_wp2_with (go_at_call 59; refine HT.out.mono ?_; rintro e w1 ⟨rfl, hb1⟩)
    go_ret
    exact ⟨by rw [HF.out]; rfl, b0.trans (hb1.mono (by simp))⟩
  | true =>
    have HF := Lib.hid (show fitsB true os = smlOs os by unfold fitsB; rw [show decide (1 ≤ os.length) = true by rw [decide_eq_true_iff]; omega, show decide (os.length ≤ 64) = true by rw [decide_eq_true_iff]; omega]; rfl)
    rw [hti] at HT
    clear h1 h2 hti
    have HR0 := Lib.hid (HR.out.below (b0.mono hB))
    go_enter Try.func48, Try.ntmps48
    go_wp2_with (go_at_call 59; refine HT.out.mono ?_; rintro e w1 ⟨rfl, hb1⟩; obtain ⟨hc0, hc1, _, _⟩ := two_cells hb1 (by simp))
    have H1 := Lib.hid (HR0.out.below (hb1.mono (by simp; omega)))
    have hb2 := b0.trans (hb1.mono (by simp))
    clear hb1 b0 HR0 HR HT
    go_loopw [26] (fun i wr => ∃ k : Nat, i = .int .i64 k ∧ k ≤ os.length ∧ Hid (RO wr B A os) ∧ Below w.heap.size w wr ∧ Hid (smlOs (os.take k) = true)) (fun i _ => os.length - (intOf i).toNat)
    case atStart => exact ⟨0, rfl, by omega, H1, hb2, rfl⟩
    case round =>
      obtain ⟨k, rfl, hk, hr, hb, hs⟩ := hrel
      clear hc0 hc1 H1 hb2
      by_cases hlt : k < os.length
      · obtain ⟨b, off, rfl, hbB, hcell⟩ := hr.out (by omega)
        obtain ⟨q1, q2, q3, q4⟩ := hcell k hlt
        clear hcell
        have hsz := hb.size
        have hkc : (k : Int) < (os.length : Int) := by omega
        obtain ⟨o, ho⟩ : ∃ o, os[k] = o := ⟨_, rfl⟩
        rw [ho] at q1 q2 q3 q4
        have HO := Lib.hid ho; clear ho
        have bv : Below w.heap.size wr (wr.alloc (.cells #[.int .i64 o.k, .int .i64 o.a, .int .i64 o.b, .int .i64 o.c] 46)) := (Below.refl _ _).alloc hsz _
        have HS := Lib.hid (split_any o (wr.alloc (.cells #[.int .i64 o.k, .int .i64 o.a, .int .i64 o.b, .int .i64 o.c] 46)))
        go_wp2_with fail
        refine HS.out.mono ?_
        rintro e w2 ⟨rfl, hb3⟩
        have hb4 := hb.trans (bv.trans (hb3.mono (by simp; omega)))
        have HR4 := Lib.hid (hr.out.below ((bv.trans (hb3.mono (by simp; omega))).mono hB))
        clear hb3 bv HS q1 q2 q3 q4 hb
        go_wp2_with fail
        go_loop [32] (fun i => ∃ j : Nat, i = .int .i64 j ∧ j ≤ 4 ∧ Hid (∀ i, i < j → smlB (numO o i) = true)) (fun i => 4 - (intOf i).toNat)
        case atStart => exact ⟨0, rfl, by omega, fun i hi => by omega⟩
        case round =>
          obtain ⟨j, rfl, hj, hall⟩ := hrel
          by_cases hj4 : j < 4
          · have hx := index_parts o j hj4
            have hjc : (j : Int) < 4 := by omega
            obtain ⟨n, hn⟩ : ∃ n, numO o j = n := ⟨_, rfl⟩
            have hx2 := hx w2
            rw [hn] at hx2
            have HN := Lib.hid hn
            clear hn hx
            by_cases n1 : n < -2147483648
            · have HF2 := Lib.hid (show fitsB true os = false by rw [HF.out]; exact smlOs_bad hlt (by rw [HO.out]; exact smlOB_bad o j hj4 (by rw [HN.out]; exact smlB_no (.inl n1))))
              go_wp2
              go_ret
              exact ⟨by rw [HF2.out]; rfl, hb4⟩
            · by_cases n2 : 2147483647 < n
              · have HF2 := Lib.hid (show fitsB true os = false by rw [HF.out]; exact smlOs_bad hlt (by rw [HO.out]; exact smlOB_bad o j hj4 (by rw [HN.out]; exact smlB_no (.inr n2))))
                go_wp2
                go_ret
                exact ⟨by rw [HF2.out]; rfl, hb4⟩
              · have HA := Lib.hid (show ∀ i, i < j + 1 → smlB (numO o i) = true from fun i hi => by
                  by_cases e : i < j
                  · exact hall.out i e
                  · obtain rfl : i = j := by omega
                    rw [HN.out]; exact smlB_yes (by omega) (by omega))
                go_wp2
                go_round
                case rel => exact ⟨j + 1, by go_num, by omega, HA⟩
                case measure => simp [intOf]; omega
          · obtain rfl : j = 4 := by omega
            have HS2 := Lib.hid (smlOs_take hlt hs.out (by rw [HO.out]; exact smlOB_all o hall.out))
            go_wp2
            go_roundw
            case rel => exact ⟨k + 1, by go_num, by omega, HR4, hb4, HS2⟩
            case measure => simp [intOf]; omega
      · obtain rfl : k = os.length := by omega
        have HF2 := Lib.hid (show fitsB true os = true by rw [HF.out, ← hs.out, List.take_length])
        go_wp2
        go_ret
        exact ⟨by rw [HF2.out]; rfl, hb⟩
end Go.Proofs.Ytbmhdinaofepdaa
