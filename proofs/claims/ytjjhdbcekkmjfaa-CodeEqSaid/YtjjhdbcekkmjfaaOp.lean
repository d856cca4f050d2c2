/- WALK of the law CodeMost. -/
import Derived.Test.YtjjhdbcekkmjfaaOo
namespace Go.Proofs.Ytjjhdbcekkmjfaa
open Go.RowKit
set_option linter.unusedVariables false
attribute [local go_sem ↓] Go.wp_at_zero Go.wp_at_succ

theorem OO.form_n {w : World} {base : Nat} {v : Value} {os : List O4} (h : OO w base v os) (n : Nat) (hn : os.length = n) : ∃ A cap, v = .slice A n cap := by
  obtain ⟨A, cap, e, _⟩ := h.form
  rw [hn] at e
  exact ⟨A, cap, e⟩
theorem ret_bool {a b : Bool} (h : a = b) : Ending.returned (.bool a) = .returned (.bool b) := by rw [h]
theorem oObj_reads (w : World) (o : O4) : RO (w.alloc (oObj o)) (w.heap.size + 1) (some ⟨w.heap.size, 0, none⟩) [o] := fun _ => by
  have r : (w.alloc (oObj o)).rowIs w.heap.size 37 4 (opF o) := World.rowIs_alloc w _ _ _ (fun i hi => by
    have hi : i < 4 := hi
    obtain rfl | rfl | rfl | rfl : i = 0 ∨ i = 1 ∨ i = 2 ∨ i = 3 := by omega
    all_goals rfl)
  refine ⟨_, _, rfl, Nat.lt_succ_self _, fun j hj => ?_⟩
  have hj : j < 1 := hj
  obtain rfl : j = 0 := by omega
  exact ⟨r.cell (show 0 < 4 by omega), r.cell (show 1 < 4 by omega), r.cell (show 2 < 4 by omega), r.cell (show 3 < 4 by omega)⟩
def pF (t : ByteArray) (v : Value) (i : Nat) : Value := if i = 0 then .string t else v
theorem pRow (w : World) (t : ByteArray) (v : Value) : (w.alloc (.cells #[.string t, v] 24)).rowIs w.heap.size 24 2 (pF t v) := World.rowIs_alloc w _ _ _ (fun i hi => by
  have hi : i < 2 := hi
  obtain rfl | rfl : i = 0 ∨ i = 1 := by omega
  all_goals rfl)
theorem encB_len (t : ByteArray) (os : List O4) : ((0 : Int) < ((encB t os).length : Int) ↔ fitsB (titB t) os = true) := by
  unfold encB
  by_cases h : fitsB (titB t) os = true
  · rw [if_pos h]
    have := encP_pos t.data.toList os
    exact ⟨fun _ => h, fun _ => by omega⟩
  · rw [if_neg h]
    exact ⟨fun h2 => by simp at h2, fun h2 => absurd h2 h⟩
def many : ByteArray := ⟨#[109, 97, 110, 121]⟩
set_option maxHeartbeats 4000000 in
theorem most_law (n : Int) (o : O4) (w : World) (n1 : -9223372036854775808 ≤ n) (n2 : n ≤ 9223372036854775807) :
    Calls Try.prog 6 #[.int .i64 n, opV o] w fun e w' => e = .returned (.bool true) ∧ Below w.heap.size w w' := by
  unfold opV
  have b0 : Below w.heap.size w (w.alloc (oObj o)) := (Below.refl _ _).alloc (Nat.le_refl _) _
  by_cases hn : n < 0 ∨ 70 < n
  · by_cases h0 : n < 0
    · clear hn
      go_enter Try.func6, Try.ntmps6
      go_wp2_with fail
      refine (begun_any _).mono ?_
      rintro e w1 ⟨rfl, hb1⟩
      go_wp2_with fail
      go_ret
      exact ⟨rfl, b0.trans (hb1.mono (by simp))⟩
    · have h70 : 70 < n := by omega
      clear hn
      go_enter Try.func6, Try.ntmps6
      go_wp2_with fail
      refine (begun_any _).mono ?_
      rintro e w1 ⟨rfl, hb1⟩
      go_wp2_with fail
      go_ret
      exact ⟨rfl, b0.trans (hb1.mono (by simp))⟩
  · have h0 : 0 ≤ n := by omega
    have h70 : n ≤ 70 := by omega
    clear hn n1 n2
    have hr0 := oObj_reads w o
    have HR0 := Lib.hid hr0; clear hr0
    go_enter Try.func6, Try.ntmps6
    go_wp2_with fail
    refine (begun_any _).mono ?_
    rintro e w1 ⟨rfl, hb1⟩
    have hs1 := hb1.size
    rw [World.size_alloc] at hs1
    have HR1 := Lib.hid (HR0.out.below (hb1.mono (by simp)))
    have hb2 := b0.trans (hb1.mono (by simp))
    have HP := Lib.hid (pRow w1 many (.slice none 0 0))
    clear hb1 HR0 b0
    have HB := Lib.hid ((Below.refl w1.heap.size w1).alloc (Nat.le_refl _) (.cells #[.string many, .slice none 0 0] 24))
    go_wp2_with fail
    go_loopw [7] (fun i wr => ∃ (k : Nat) (v : Value), i = .int .i64 k ∧ (k : Int) ≤ n ∧ Hid (wr.rowIs w1.heap.size 24 2 (pF many v)) ∧ Hid (OO wr (w1.heap.size + 1) v (List.replicate k o)) ∧ Below w1.heap.size w1 wr) (fun i _ => (n - intOf i).toNat)
    case atStart => exact ⟨0, _, rfl, h0, HP, OO.nil _ _, HB.out⟩
    case round =>
      obtain ⟨k, v, rfl, hk, hrow, hown, hb⟩ := hrel
      clear HP HB
      have hgl := World.rowIs.lt hrow.out
      have p0 := World.rowIs.cell hrow.out (show 0 < 2 by omega)
      have p1 := World.rowIs.cell hrow.out (show 1 < 2 by omega)
      have pf := World.rowIs.frozen hrow.out 1
      unfold pF at p0 p1
      simp only [if_true, if_neg (show ¬ (1 : Nat) = 0 by omega)] at p0 p1
      have hfar := HR1.out.below (hb.mono hs1)
      by_cases hlt : (k : Int) < n
      · obtain ⟨b, off, e, _, hc⟩ := hfar (by simp)
        injection e with e
        injection e with e1 e2
        subst e1 e2
        obtain ⟨q1, q2, q3, q4⟩ := hc 0 (by simp)
        simp only [Nat.zero_mul, Nat.zero_add, List.getElem_cons_zero] at q1 q2 q3 q4
        clear hc hfar
        have HX := Lib.hid (hown.out.alloc (oObj o))
        have hq := oObj_reads wr o
        have hsz : (wr.alloc (oObj o)).heap.size = wr.heap.size + 1 := by simp
        have HQ := Lib.hid (show RO (wr.alloc (oObj o)) (wr.alloc (oObj o)).heap.size (some ⟨wr.heap.size, 0, none⟩) [o] by rw [hsz]; exact hq)
        have hkl : (List.replicate k o).length ≤ 1000000 := by rw [List.length_replicate]; omega
        have HK := Lib.hid hkl
        have hbase : w1.heap.size + 1 ≤ (wr.alloc (oObj o)).heap.size := by rw [hsz]; omega
        have HBs := Lib.hid hbase
        have hrow2 := World.rowIs.alloc hrow.out (oObj o)
        have HRw := Lib.hid hrow2
        have hbw := hb.alloc (Nat.le_of_lt hgl) (oObj o)
        clear hq hsz hkl hbase hrow2
        go_wp2_with (at_builtin; refine wpList_append_op rfl (.tmp 24) (.tmp 26) rfl (w1.heap.size + 1) v (List.replicate k o) o rfl HX.out wr.heap.size 1 rfl HQ.out HK.out HBs.out ?_; intro v2 w2 o2 g2; obtain ⟨A2, c2, rfl⟩ := o2.form_n (k + 1) (by simp); have hrw2 : w2.rowIs w1.heap.size 24 2 (pF many v) := World.rowIs.of_block HRw.out (g2.block _ (World.rowIs.lt HRw.out) (fun e => by have := (World.ownsRow.lt HX.out _ e.symm).1; omega)); have t1 := World.rowIs.cell hrw2 (show 1 < 2 by omega); have t2 := World.rowIs.frozen hrw2 1; have HRw2 := Lib.hid hrw2; clear hrw2; have HO2 := Lib.hid o2; clear o2; have hb3 := hbw.grown g2 (by simp; omega) (fun j hj => by have := (World.ownsRow.lt HX.out _ hj).1; omega); clear g2)
        go_roundw
        case rel =>
          refine ⟨k + 1, .slice A2 (k + 1) c2, by go_num, by omega, ?_, ?_, hb3.setCell (by simp) _⟩
          · refine (World.rowIs.set HRw2.out 1 _).congr (fun i hi => ?_)
            obtain rfl | rfl : i = 0 ∨ i = 1 := by omega
            all_goals rfl
          · have := HO2.out
            rw [← List.replicate_succ'] at this
            exact ownsRow_setCell_below this (by simp) _
        case measure => simp [intOf]; omega
      · obtain ⟨A, cap, rfl, c1, c2, hro⟩ := hown.out.form
        have HRO := Lib.hid hro
        have hl : (List.replicate k o).length = k := by simp
        have HLn := Lib.hid hl
        rw [hl] at c1 p1
        have hb3 := hb2.trans (hb.mono hb2.size)
        have hE : ∀ W, Below wr.heap.size wr W → Calls Try.prog 11 #[progV many A (List.replicate k o).length cap] W fun e w' => ∃ A' m c, e = .returned (.slice A' m c) ∧ Hid ((0 : Int) < (m : Int) ↔ fitsB (titB many) (List.replicate k o) = true) ∧ Below W.heap.size W w' := fun W hW => by
          refine (encode_any many A (List.replicate k o) cap wr.heap.size W (HRO.out.below hW) hW.size (by rw [hl]; exact c1) c2 (by decide)).mono ?_
          rintro e w' ⟨v, rfl, ho, hbw⟩
          obtain ⟨A', c, rfl, _, _, _⟩ := ho.form _ rfl
          exact ⟨A', _, c, rfl, encB_len _ _, hbw⟩
        have hF : ∀ W, Below wr.heap.size wr W → Calls Try.prog 18 #[progV many A (List.replicate k o).length cap] W fun e w' => e = .returned (.bool (fitsB (titB many) (List.replicate k o))) ∧ Below W.heap.size W w' := fun W hW =>
          form_any many A (List.replicate k o) cap wr.heap.size W (HRO.out.below hW) hW.size (by rw [hl]; exact c1) c2 (by decide)
        unfold progV at hE hF
        rw [hl] at hE hF
        obtain ⟨b, hbb⟩ : ∃ b, fitsB (titB many) (List.replicate k o) = b := ⟨_, rfl⟩
        rw [hbb] at hE hF
        have HE := Lib.hid hE; have HF := Lib.hid hF
        have P0 := Lib.hid p0; have P1 := Lib.hid p1
        have hbc : Below wr.heap.size wr wr.drew := (Below.refl _ _).drew
        clear hE hF hl HLn hfar hro hb hown hbb HRO c1 c2
        go_wp2_with fail
        cases b with
        | true =>
          go_region_held3 (fun w' => w'.cell? ⟨w1.heap.size, 0, none⟩ = some (.string many) ∧ w'.cell? ⟨w1.heap.size, 1, none⟩ = some (.slice A k cap)) (first | exact ⟨by assumption, by assumption⟩ | go_keep)
            (first
              | (go_at_call 11; refine (HE.out _ hbc).mono ?_; rintro e w5 ⟨A5, m5, c5, rfl, hm5, b5⟩; have hm : (0 : Int) < (m5 : Int) := hm5.out.2 rfl; replace hbc := hbc.trans (b5.mono hbc.size); replace p0 := (hbc.cell (p := ⟨w1.heap.size, 0, none⟩) hgl).trans P0.out; replace p1 := (hbc.cell (p := ⟨w1.heap.size, 1, none⟩) hgl).trans P1.out)
              | (go_at_call 18; refine (HF.out _ hbc).mono ?_; rintro e w6 ⟨rfl, b6⟩; replace hbc := hbc.trans (b6.mono hbc.size); replace p0 := (hbc.cell (p := ⟨w1.heap.size, 0, none⟩) hgl).trans P0.out; replace p1 := (hbc.cell (p := ⟨w1.heap.size, 1, none⟩) hgl).trans P1.out))
          all_goals
            have hbf := hb3.trans (hbc.mono (by have := hb3.size; omega))
            go_wp2
            go_ret
            exact ⟨ret_bool (decide_eq_true (by omega)), hbf⟩
        | false =>
          go_region_held3 (fun w' => w'.cell? ⟨w1.heap.size, 0, none⟩ = some (.string many) ∧ w'.cell? ⟨w1.heap.size, 1, none⟩ = some (.slice A k cap)) (first | exact ⟨by assumption, by assumption⟩ | go_keep)
            (first
              | (go_at_call 11; refine (HE.out _ hbc).mono ?_; rintro e w5 ⟨A5, m5, c5, rfl, hm5, b5⟩; have hm : ¬ (0 : Int) < (m5 : Int) := (fun h => by have := hm5.out.1 h; cases this); replace hbc := hbc.trans (b5.mono hbc.size); replace p0 := (hbc.cell (p := ⟨w1.heap.size, 0, none⟩) hgl).trans P0.out; replace p1 := (hbc.cell (p := ⟨w1.heap.size, 1, none⟩) hgl).trans P1.out)
              | (go_at_call 18; refine (HF.out _ hbc).mono ?_; rintro e w6 ⟨rfl, b6⟩; replace hbc := hbc.trans (b6.mono hbc.size); replace p0 := (hbc.cell (p := ⟨w1.heap.size, 0, none⟩) hgl).trans P0.out; replace p1 := (hbc.cell (p := ⟨w1.heap.size, 1, none⟩) hgl).trans P1.out))
          all_goals
            have hbf := hb3.trans (hbc.mono (by have := hb3.size; omega))
            go_wp2
            go_ret
            exact ⟨ret_bool (by rw [decide_eq_false (by omega)]; rfl), hbf⟩
end Go.Proofs.Ytjjhdbcekkmjfaa
