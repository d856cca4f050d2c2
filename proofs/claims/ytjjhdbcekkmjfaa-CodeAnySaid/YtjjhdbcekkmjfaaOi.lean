/- THE WALK of ref Encode. -/
import Derived.Test.YtjjhdbcekkmjfaaOg
import Derived.Test.YtjjhdbcekkmjfaaOh
import Derived.Outline
namespace Go.Proofs.Ytjjhdbcekkmjfaa
open Go.RowKit
set_option linter.unusedVariables false
attribute [local go_sem ↓] Go.wp_at_zero Go.wp_at_succ

theorem ne_next {G : Nat} {v v' : Value} {w : World} (h : some G ≠ v.ownBlock) (e : v'.ownBlock = v.ownBlock ∨ v'.ownBlock = some w.heap.size) (hz : G < w.heap.size) : Hid (some G ≠ v'.ownBlock) := fun he => by
  rcases e with e | e
  · exact h (he.trans e)
  · rw [e] at he; injection he with he; omega
set_option maxHeartbeats 4000000 in
theorem refencode_any (t : ByteArray) (A : Option Addr) (os : List O4) (cap B : Nat) (w : World) (hr : RO w B A os) (hB : B ≤ w.heap.size) (hc : os.length ≤ cap) (hm : cap ≤ maxLen) (ht : t.size ≤ 549755813888) :
    Calls Try.prog 12 #[progV t A os.length cap] w fun e w' => ∃ v, e = .returned v ∧ OB w' w.heap.size v (encB t os) ∧ Below w.heap.size w w' := by
  have b0 : Below w.heap.size w (w.alloc (.cells #[.string t, .slice A os.length cap] 24)) := (Below.refl _ _).alloc (Nat.le_refl _) _
  have HR := Lib.hid (hr.below (b0.mono hB)); clear hr
  have HF := Lib.hid (form_any t A os cap B (w.alloc (.cells #[.string t, .slice A os.length cap] 24)) HR.out (by rw [World.size_alloc]; omega) hc hm (by omega))
  unfold maxLen at hm
  unfold progV at HF ⊢
  cases hti : fitsB (titB t) os with
  | false =>
    have HE := Lib.hid (show encB t os = [] by unfold encB; rw [hti]; rfl)
    rw [hti] at HF
    clear hti
    go_enter Try.func12, Try.ntmps12
    go_wp2_with (go_at_call 18; refine HF.out.mono ?_; rintro e w1 ⟨rfl, hb1⟩)
    go_ret
    exact ⟨_, rfl, by rw [HE.out]; exact OB.nil _ _, b0.trans (hb1.mono (by simp))⟩
  | true =>
    have HE := Lib.hid (show encB t os = encP t.data.toList os by unfold encB; rw [hti]; rfl)
    have hfit := (fitsB_iff _ _).1 hti
    rw [hti] at HF
    have hos := hfit.2.2.1
    have HQ := Lib.hid hfit; clear hfit hti
    go_enter Try.func12, Try.ntmps12
    go_wp2_with (go_at_call 18; refine HF.out.mono ?_; rintro e w1 ⟨rfl, hb1⟩; obtain ⟨hc0, hc1, _, _⟩ := two_cells hb1 (by simp))
    have H1 := Lib.hid (HR.out.below (hb1.mono (by simp; omega)))
    have hb2 := b0.trans (hb1.mono (by simp))
    have hs1 := hb1.size
    rw [World.size_alloc] at hs1
    clear hb1 b0 HR HF
    have hlT : (putT t.data.toList).length ≤ t.size + 10 := by
      have := putN_len _ (len_in t.data.toList (by have : t.data.toList.length = t.size := rfl; omega))
      unfold putT
      rw [List.length_append]
      have : t.data.toList.length = t.size := rfl
      omega
    have hlN := putN_len (os.length : Int) (len_in os (by omega))
    have HNI := Lib.hid (len_in os (by omega))
    have hbw : Below w1.heap.size w1 w1.drew := (Below.refl _ _).drew
    have k0 := hc0; have k1 := hc1
    go_region_held3 (fun w' => w'.cell? ⟨w.heap.size, 0, none⟩ = some (.string t) ∧ w'.cell? ⟨w.heap.size, 1, none⟩ = some (.slice A os.length cap)) (first | exact ⟨by assumption, by assumption⟩ | go_keep)
      (first
        | (go_at_call 24; refine (puttext_any t _ (by omega)).mono ?_; rintro e w5 ⟨v5, rfl, h5, b5⟩; have hz := hbw.size; replace hbw := hbw.trans (b5.mono hz); replace k0 := (hbw.cell (p := ⟨w.heap.size, 0, none⟩) (by simp; omega)).trans hc0; replace k1 := (hbw.cell (p := ⟨w.heap.size, 1, none⟩) (by simp; omega)).trans hc1; (try replace HB := Lib.hid (HB.out.below b5 (Nat.le_refl _))); have HA := Lib.hid (h5.less (b' := w1.heap.size) hz); clear h5 hz b5)
        | (go_at_call 25; refine (refput_any (os.length : Int) _ HNI.out).mono ?_; rintro e w6 ⟨v6, rfl, h6, b6⟩; obtain ⟨A6, c6, rfl, _, _, _⟩ := h6.form _ rfl; have hz := hbw.size; replace hbw := hbw.trans (b6.mono hz); replace k0 := (hbw.cell (p := ⟨w.heap.size, 0, none⟩) (by simp; omega)).trans hc0; replace k1 := (hbw.cell (p := ⟨w.heap.size, 1, none⟩) (by simp; omega)).trans hc1; (try replace HA := Lib.hid (HA.out.below b6 (Nat.le_refl _))); have HB := Lib.hid (h6.less (b' := w1.heap.size) hz); clear h6 hz b6)
        | (refine step_append_bytes (by rfl) (.tmp 11) (.tmp 15) (by rfl) w1.heap.size _ (putT t.data.toList) (putN os.length) (by rfl) HA.out _ _ _ (by rfl) HB.out.cells (by omega) hbw.size ?_; intro v7 w7 o7 g7 e7; have hne : some w.heap.size ≠ v5.ownBlock := (fun e => by have := HA.out.ge _ e.symm; omega); have m0 := g7.cell k0 hne; have m1 := g7.cell k1 hne))
    have hb4 : Below w.heap.size w w7 := (hb2.trans (hbw.mono (by omega))).grown g7 (by have := hbw.size; omega) (fun k hk => by have := HA.out.ge _ hk; omega)
    have HR3 := Lib.hid (show RO w7 B A os from H1.out.below ((hbw.mono (by omega)).grown g7 (by have := hbw.size; omega) (fun k hk => by have := HA.out.ge _ hk; omega)))
    have hs3 : w.heap.size + 1 ≤ w7.heap.size := by have := hbw.size; have := g7.size; omega
    have HO3 := Lib.hid (o7.less (b' := w.heap.size + 1) (by omega))
    have hlen : ∀ k, k ≤ os.length → (encOs (os.take k)).length ≤ 40 * 64 := fun k hk => by
      have := encOs_len (os.take k) (fun o ho => HQ.out.2.2.2 o (List.mem_of_mem_take ho))
      rw [List.length_take] at this; omega
    have HL := Lib.hid hlen
    have M1 := Lib.hid m1
    clear hlen o7 g7 hne m0 m1 k0 k1 hbw HA HB hc0 hc1 H1 hb2 e7
    go_wp2_with fail
    go_loopw [3, 4] (fun s i wr => ∃ k : Nat, i = .int .i64 k ∧ k ≤ os.length ∧ Hid (OB wr (w.heap.size + 1) s (putT t.data.toList ++ putN os.length ++ encOs (os.take k))) ∧ Hid (RO wr B A os) ∧ Below w.heap.size w wr ∧ w.heap.size + 1 ≤ wr.heap.size ∧ Hid (wr.cell? ⟨w.heap.size, 1, none⟩ = some (.slice A os.length cap))) (fun _ i _ => os.length - (intOf i).toNat)
    case atStart => exact ⟨0, rfl, by omega, by have := HO3.out; unfold Hid; rw [List.take_zero, encOs_nil, List.append_nil]; exact this, HR3, hb4, hs3, M1⟩
    case round =>
      obtain ⟨k, rfl, hk, hob, hr, hb, hsz, hm1⟩ := hrel
      clear HO3 HR3 hb4 hs3 M1
      have hcl := hm1.out
      by_cases hlt : k < os.length
      · obtain ⟨b, off, rfl, hbB, hcell⟩ := hr.out (by omega)
        obtain ⟨q1, q2, q3, q4⟩ := hcell k hlt
        clear hcell
        have hkc : (k : Int) < (os.length : Int) := by omega
        have hl1 := HL.out k (by omega)
        obtain ⟨o, ho⟩ : ∃ o, os[k] = o := ⟨_, rfl⟩
        have hsm : smlO o := by rw [← ho]; exact HQ.out.2.2.2 _ (List.getElem_mem hlt)
        rw [ho] at q1 q2 q3 q4
        have HK := Lib.hid (show encOs (os.take (k + 1)) = encOs (os.take k) ++ encO o by rw [← ho]; exact encOs_take hlt)
        clear ho
        have HX := Lib.hid (sml_in hsm.1); have HY := Lib.hid (sml_in hsm.2.1); have HZ := Lib.hid (sml_in hsm.2.2.1); have HW := Lib.hid (sml_in hsm.2.2.2)
        have lX := putN_len _ HX.out; have lY := putN_len _ HY.out; have lZ := putN_len _ HZ.out; have lW := putN_len _ HW.out
        clear hsm
        have bv : Below wr.heap.size wr (wr.alloc (Obj.cells #[.int .i64 o.k, .int .i64 o.a, .int .i64 o.b, .int .i64 o.c] 37)).drew := ((Below.refl _ _).alloc (Nat.le_refl _) _).drew
        have hbt : Below (w.heap.size + 1) wr (wr.alloc (Obj.cells #[.int .i64 o.k, .int .i64 o.a, .int .i64 o.b, .int .i64 o.c] 37)).drew := bv.mono hsz
        have hz : wr.heap.size < (wr.alloc (Obj.cells #[.int .i64 o.k, .int .i64 o.a, .int .i64 o.b, .int .i64 o.c] 37)).drew.heap.size := by simp
        have hG : wr.heap.size ≤ (wr.alloc (Obj.cells #[.int .i64 o.k, .int .i64 o.a, .int .i64 o.b, .int .i64 o.c] 37)).drew.heap.size := Nat.le_of_lt hz
        have k0 : (wr.alloc (Obj.cells #[.int .i64 o.k, .int .i64 o.a, .int .i64 o.b, .int .i64 o.c] 37)).drew.cell? ⟨wr.heap.size, 0, none⟩ = some (.int .i64 o.k) := by simp
        have k1 : (wr.alloc (Obj.cells #[.int .i64 o.k, .int .i64 o.a, .int .i64 o.b, .int .i64 o.c] 37)).drew.cell? ⟨wr.heap.size, 1, none⟩ = some (.int .i64 o.a) := by simp
        have k2 : (wr.alloc (Obj.cells #[.int .i64 o.k, .int .i64 o.a, .int .i64 o.b, .int .i64 o.c] 37)).drew.cell? ⟨wr.heap.size, 2, none⟩ = some (.int .i64 o.b) := by simp
        have k3 : (wr.alloc (Obj.cells #[.int .i64 o.k, .int .i64 o.a, .int .i64 o.b, .int .i64 o.c] 37)).drew.cell? ⟨wr.heap.size, 3, none⟩ = some (.int .i64 o.c) := by simp
        have HV := Lib.hid (hob.out.below bv (Nat.le_refl _))
        have HLow := Lib.hid hob.out.low
        have HNe := Lib.hid (hob.out.low.ne (Nat.le_refl _))
        have hLL : (putT t.data.toList ++ putN os.length ++ encOs (os.take k)).length ≤ 549755820000 := by simp only [List.length_append]; omega
        have hbW := Lib.hid hb; have hrW := Lib.hid hr; have hmW := Lib.hid hm1; have hobW := Lib.hid hob
        clear bv hb hr hm1 hob
        go_wp2_with fail
        clear q1 q2 q3 q4 hcl
        go_region_held3 (fun w' => w'.cell? ⟨wr.heap.size, 0, none⟩ = some (.int .i64 o.k) ∧ w'.cell? ⟨wr.heap.size, 1, none⟩ = some (.int .i64 o.a) ∧ w'.cell? ⟨wr.heap.size, 2, none⟩ = some (.int .i64 o.b) ∧ w'.cell? ⟨wr.heap.size, 3, none⟩ = some (.int .i64 o.c)) (first | exact ⟨by assumption, by assumption, by assumption, by assumption⟩ | go_keep)
          (first
            | (go_at_call 25; (with_reducible refine (refput_any o.k _ HX.out).mono ?_); rintro e w5 ⟨v5, rfl, h5, b5⟩; obtain ⟨A5, c5, rfl, _, _, _⟩ := h5.form _ rfl; replace k0 := (b5.cell (p := ⟨wr.heap.size, 0, none⟩) hz).trans k0; replace k1 := (b5.cell (p := ⟨wr.heap.size, 1, none⟩) hz).trans k1; replace k2 := (b5.cell (p := ⟨wr.heap.size, 2, none⟩) hz).trans k2; replace k3 := (b5.cell (p := ⟨wr.heap.size, 3, none⟩) hz).trans k3; (try replace HV := Lib.hid (HV.out.below b5 (Nat.le_refl _))); (try replace HV1 := Lib.hid (HV1.out.below b5 (Nat.le_refl _))); (try replace HB := Lib.hid (HB.out.below b5 (Nat.le_refl _))); have HA := Lib.hid (h5.less (b' := wr.heap.size) hG); replace hbt := hbt.trans (b5.mono (by omega)); replace hz := Nat.lt_of_lt_of_le hz b5.size; replace hG := Nat.le_trans hG b5.size; clear h5 b5)
            | (go_at_call 25; (with_reducible refine (refput_any o.a _ HY.out).mono ?_); rintro e w5 ⟨v5, rfl, h5, b5⟩; obtain ⟨A5, c5, rfl, _, _, _⟩ := h5.form _ rfl; replace k0 := (b5.cell (p := ⟨wr.heap.size, 0, none⟩) hz).trans k0; replace k1 := (b5.cell (p := ⟨wr.heap.size, 1, none⟩) hz).trans k1; replace k2 := (b5.cell (p := ⟨wr.heap.size, 2, none⟩) hz).trans k2; replace k3 := (b5.cell (p := ⟨wr.heap.size, 3, none⟩) hz).trans k3; (try replace HV := Lib.hid (HV.out.below b5 (Nat.le_refl _))); (try replace HV1 := Lib.hid (HV1.out.below b5 (Nat.le_refl _))); (try replace HA := Lib.hid (HA.out.below b5 (Nat.le_refl _))); have HB := Lib.hid (h5.less (b' := wr.heap.size) hG); replace hbt := hbt.trans (b5.mono (by omega)); replace hz := Nat.lt_of_lt_of_le hz b5.size; replace hG := Nat.le_trans hG b5.size; clear h5 b5)
            | (refine step_append_bytes (by rfl) (.tmp 29) (.tmp 32) (by rfl) (w.heap.size + 1) _ (putT t.data.toList ++ putN os.length ++ encOs (os.take k)) (putN o.k) (by rfl) HV.out _ _ _ (by rfl) HA.out.cells (by omega) (by omega) ?_; intro v7 w7 o7 g7 e7; replace k0 := g7.cell k0 HNe.out; replace k1 := g7.cell k1 HNe.out; replace k2 := g7.cell k2 HNe.out; replace k3 := g7.cell k3 HNe.out; (try replace HB := Lib.hid (HB.out.apart (Nat.le_refl _) HLow.out g7)); have HV1 := Lib.hid o7; have HNe1 : Hid (some wr.heap.size ≠ v7.ownBlock) := ne_next HNe.out e7 hz; replace hbt := hbt.grown g7 (by omega) HV.out.ge; replace hz := Nat.lt_of_lt_of_le hz g7.size; replace hG := Nat.le_trans hG g7.size; clear o7 g7 e7 HV HA HNe)
            | (refine step_append_bytes (by rfl) (.tmp 33) (.tmp 36) (by rfl) (w.heap.size + 1) _ ((putT t.data.toList ++ putN os.length ++ encOs (os.take k)) ++ putN o.k) (putN o.a) (by rfl) HV1.out _ _ _ (by rfl) HB.out.cells (by simp only [List.length_append] at *; omega) (by omega) ?_; intro v8 w8 o8 g8 e8; replace k0 := g8.cell k0 HNe1.out; replace k1 := g8.cell k1 HNe1.out; replace k2 := g8.cell k2 HNe1.out; replace k3 := g8.cell k3 HNe1.out; have HV2 := Lib.hid o8; have HNe2 : Hid (some wr.heap.size ≠ v8.ownBlock) := ne_next HNe1.out e8 hz; replace hbt := hbt.grown g8 (by omega) HV1.out.ge; replace hz := Nat.lt_of_lt_of_le hz g8.size; replace hG := Nat.le_trans hG g8.size; clear o8 g8 e8 HV1 HB HNe1 HLow))
        all_goals
          have HLow := Lib.hid HV2.out.low
          have HNe := Lib.hid (show some wr.heap.size ≠ v8.ownBlock from HNe2.out)
          have HV := Lib.hid (HV2.out.below (Below.refl _ _).drew (Nat.le_refl _))
          have hLL2 : ((putT t.data.toList ++ putN os.length ++ encOs (os.take k)) ++ putN o.k ++ putN o.a).length ≤ 549755820100 := by simp only [List.length_append] at *; omega
          clear HNe2 HV2 hG
          have hG : w8.heap.size ≤ w8.drew.heap.size := Nat.le_refl _
          replace hbt := hbt.drew
        go_wp2_with fail
        go_region_held3 (fun w' => w'.cell? ⟨wr.heap.size, 0, none⟩ = some (.int .i64 o.k) ∧ w'.cell? ⟨wr.heap.size, 1, none⟩ = some (.int .i64 o.a) ∧ w'.cell? ⟨wr.heap.size, 2, none⟩ = some (.int .i64 o.b) ∧ w'.cell? ⟨wr.heap.size, 3, none⟩ = some (.int .i64 o.c)) (first | exact ⟨by assumption, by assumption, by assumption, by assumption⟩ | go_keep)
          (first
            | (go_at_call 25; (with_reducible refine (refput_any o.b _ HZ.out).mono ?_); rintro e w5 ⟨v5, rfl, h5, b5⟩; obtain ⟨A5, c5, rfl, _, _, _⟩ := h5.form _ rfl; replace k0 := (b5.cell (p := ⟨wr.heap.size, 0, none⟩) hz).trans k0; replace k1 := (b5.cell (p := ⟨wr.heap.size, 1, none⟩) hz).trans k1; replace k2 := (b5.cell (p := ⟨wr.heap.size, 2, none⟩) hz).trans k2; replace k3 := (b5.cell (p := ⟨wr.heap.size, 3, none⟩) hz).trans k3; (try replace HV := Lib.hid (HV.out.below b5 (Nat.le_refl _))); (try replace HV1 := Lib.hid (HV1.out.below b5 (Nat.le_refl _))); (try replace HB := Lib.hid (HB.out.below b5 (Nat.le_refl _))); have HA := Lib.hid (h5.less (b' := w8.heap.size) hG); replace hbt := hbt.trans (b5.mono (by omega)); replace hz := Nat.lt_of_lt_of_le hz b5.size; replace hG := Nat.le_trans hG b5.size; clear h5 b5)
            | (go_at_call 25; (with_reducible refine (refput_any o.c _ HW.out).mono ?_); rintro e w5 ⟨v5, rfl, h5, b5⟩; obtain ⟨A5, c5, rfl, _, _, _⟩ := h5.form _ rfl; replace k0 := (b5.cell (p := ⟨wr.heap.size, 0, none⟩) hz).trans k0; replace k1 := (b5.cell (p := ⟨wr.heap.size, 1, none⟩) hz).trans k1; replace k2 := (b5.cell (p := ⟨wr.heap.size, 2, none⟩) hz).trans k2; replace k3 := (b5.cell (p := ⟨wr.heap.size, 3, none⟩) hz).trans k3; (try replace HV := Lib.hid (HV.out.below b5 (Nat.le_refl _))); (try replace HV1 := Lib.hid (HV1.out.below b5 (Nat.le_refl _))); (try replace HA := Lib.hid (HA.out.below b5 (Nat.le_refl _))); have HB := Lib.hid (h5.less (b' := w8.heap.size) hG); replace hbt := hbt.trans (b5.mono (by omega)); replace hz := Nat.lt_of_lt_of_le hz b5.size; replace hG := Nat.le_trans hG b5.size; clear h5 b5)
            | (refine step_append_bytes (by rfl) (.tmp 38) (.tmp 41) (by rfl) (w.heap.size + 1) _ ((putT t.data.toList ++ putN os.length ++ encOs (os.take k)) ++ putN o.k ++ putN o.a) (putN o.b) (by rfl) HV.out _ _ _ (by rfl) HA.out.cells (by omega) (by omega) ?_; intro v7 w7 o7 g7 e7; replace k0 := g7.cell k0 HNe.out; replace k1 := g7.cell k1 HNe.out; replace k2 := g7.cell k2 HNe.out; replace k3 := g7.cell k3 HNe.out; (try replace HB := Lib.hid (HB.out.apart (Nat.le_refl _) HLow.out g7)); have HV1 := Lib.hid o7; have HNe1 : Hid (some wr.heap.size ≠ v7.ownBlock) := ne_next HNe.out e7 hz; replace hbt := hbt.grown g7 (by omega) HV.out.ge; replace hz := Nat.lt_of_lt_of_le hz g7.size; replace hG := Nat.le_trans hG g7.size; clear o7 g7 e7 HV HA HNe)
            | (refine step_append_bytes (by rfl) (.tmp 42) (.tmp 45) (by rfl) (w.heap.size + 1) _ (((putT t.data.toList ++ putN os.length ++ encOs (os.take k)) ++ putN o.k ++ putN o.a) ++ putN o.b) (putN o.c) (by rfl) HV1.out _ _ _ (by rfl) HB.out.cells (by simp only [List.length_append] at *; omega) (by omega) ?_; intro v9 w9 o8 g8 e8; replace k0 := g8.cell k0 HNe1.out; replace k1 := g8.cell k1 HNe1.out; replace k2 := g8.cell k2 HNe1.out; replace k3 := g8.cell k3 HNe1.out; have HV2 := Lib.hid o8; have HNe2 : Hid (some wr.heap.size ≠ v9.ownBlock) := ne_next HNe1.out e8 hz; replace hbt := hbt.grown g8 (by omega) HV1.out.ge; replace hz := Nat.lt_of_lt_of_le hz g8.size; replace hG := Nat.le_trans hG g8.size; clear o8 g8 e8 HV1 HB HNe1 HLow))
        all_goals
          have HOF := Lib.hid (show OB w9 (w.heap.size + 1) v9 (putT t.data.toList ++ putN os.length ++ encOs (os.take (k + 1))) by
            have := HV2.out
            rw [HK.out, encO]
            simp only [List.append_assoc] at *
            exact this)
          have HRF := Lib.hid (hrW.out.out.below (hbt.mono (by omega)))
          have HMF := Lib.hid ((hbt.cell (p := ⟨w.heap.size, 1, none⟩) (by simp)).trans hmW.out.out)
          have hbF := hbW.out.trans (hbt.mono (by omega))
          have hsF := Nat.le_trans hsz hbt.size
          clear k0 k1 k2 k3 HV2 hbt HNe2 hbW hrW hmW hobW
          go_wp2_with fail
          go_roundw
          case rel => exact ⟨k + 1, by go_num, by omega, HOF, HRF, hbF, hsF, HMF⟩
          case measure => simp [intOf]; omega
      · obtain rfl : k = os.length := by omega
        go_wp2_with fail
        go_ret
        refine ⟨_, rfl, ?_, hb⟩
        rw [HE.out]
        unfold encP
        have := hob.out
        rw [List.take_length, List.append_assoc] at this
        exact this.less (by omega)
end Go.Proofs.Ytjjhdbcekkmjfaa
