/- WALK of asm.Print. -/
import Derived.Test.YthidkkjhpdcenaaDoorPa
import Derived.Test.YthidkkjhpdcenaaDoorOh
import Derived.Test.YthidkkjhpdcenaaDoorOo
import Derived.Deep.DeepCutAuto
namespace Go.Proofs.YthidkkjhpdcenaaDoor
set_option maxRecDepth 100000
open Go.RowKit
set_option linter.unusedVariables false
attribute [local go_sem ↓] Go.wp_at_zero Go.wp_at_succ

/-- Encode's answer, as far as Print asks -/
def Packed (b : Bool) (w : World) (e : Ending) (w' : World) : Prop := Below w.heap.size w w' ∧ match b with
  | false => e = .returned (.slice none 0 0)
  | true => ∃ g n c, e = .returned (.slice (some ⟨g, 0, none⟩) n c)
set_option maxHeartbeats 1000000 in
theorem packed_any (t : ByteArray) (A : Option Addr) (os : List O4) (cap B : Nat) (w : World) (hr : RO w B A os) (hB : B ≤ w.heap.size) (hc : os.length ≤ cap) (hm : cap ≤ maxLen) (ht : t.size ≤ 549755813888) :
    Calls Tryd.prog 26 #[progV t A os.length cap] w (Packed (fitsB (titB t) os) w) := by
  cases hf : fitsB (titB t) os with
  | true =>
    refine (encode_any t A os cap B w hr hB hc hm ht).mono ?_
    rintro e w' ⟨v, rfl, ho, hb⟩
    have he : encB t os = encP t.data.toList os := by unfold encB; rw [if_pos hf]
    rw [he] at ho
    obtain ⟨g, c, rfl, _⟩ := ho.some_ (encP_pos _ _)
    exact ⟨hb, g, _, c, rfl⟩
  | false =>
    have b0 : Below w.heap.size w (w.alloc (.cells #[.string t, .slice A os.length cap] 26)) := (Below.refl _ _).alloc (Nat.le_refl _) _
    have HF := Lib.hid (fits_any t A os cap B _ (hr.below (b0.mono hB)) (Nat.le_trans hB b0.size) hc hm (by unfold maxLen; omega))
    rw [hf] at HF
    unfold progV at HF ⊢
    go_enter Tryd.func26, Tryd.ntmps26
    go_wp2_with fail
    refine HF.out.mono ?_
    rintro e w2 ⟨rfl, hb2⟩
    go_wp2
    go_ret
    exact ⟨b0.trans (hb2.mono (by simp)), rfl⟩

theorem textOf_nil (t : List UInt8) : textOf [] t [] = titleP ++ (32 :: (t ++ [10])) := by unfold textOf; simp
theorem textOf_snoc (t : List UInt8) (x : List O4) (o : O4) : textOf [] t (x ++ [o]) = textOf [] t x ++ (opLine o ++ [10]) := by
  unfold textOf; simp
theorem printB_no1 {t : ByteArray} {os : List O4} (h : fitsB (titB t) os = false) : printB t os = false := by unfold printB; rw [h]; rfl
theorem printB_no2 {t : ByteArray} {os : List O4} (h : bareL (lst t) ≠ lst t) : printB t os = false := by
  rw [Bool.eq_false_iff]; intro e; exact h ((printB_iff t os).1 e).2.1
theorem printB_no3 {t : ByteArray} {os : List O4} {k : Nat} (hk : k < os.length) (h : okOp os[k] = false) : printB t os = false := by
  rw [Bool.eq_false_iff]; intro e
  have := ((printB_iff t os).1 e).2.2 os[k] (List.getElem_mem hk)
  rw [h] at this; cases this
theorem printL_no {t : ByteArray} {os : List O4} (h : printB t os = false) : str (printL t os) = ⟨#[]⟩ := by rw [printL_ne.2 h]; rfl
theorem printL_yes {t : ByteArray} {os : List O4} {z : ByteArray} (h : printB t os = true) (hz : lst z = textOf [] (lst t) os) : str (printL t os) = z := by
  unfold printL; rw [if_pos h, ← hz, str_lst]
theorem nil_eq (w : World) : (binOp .eql 50 (.slice none 0 0) (.slice none 0 0)).run Tryd.prog w = .ok (.bool true) w := by kernel_rfl
theorem nil_ne (g n c : Nat) (w : World) : (binOp .eql 50 (.slice (some ⟨g, 0, none⟩) n c) (.slice none 0 0)).run Tryd.prog w = .ok (.bool false) w := by kernel_rfl
theorem ret_str {a b : ByteArray} (h : a = b) : Ending.returned (.string a) = .returned (.string b) := by rw [h]
set_option maxHeartbeats 2000000 in
theorem print_any (t : ByteArray) (A : Option Addr) (os : List O4) (cap B : Nat) (w : World) (hT : Tabs w) (hr : RO w B A os) (hB : B ≤ w.heap.size) (hc : os.length ≤ cap) (hm : cap ≤ maxLen) (ht : t.size ≤ 1000) :
    Calls Tryd.prog 15 #[progV t A os.length cap] w fun e w' => e = .returned (.string (str (printL t os))) ∧ Below w.heap.size w w' := by
  have HTT := Lib.hid hT; clear hT
  have hm0 := hm
  unfold maxLen at hm
  obtain ⟨W, hW⟩ : ∃ W, W = w.alloc (.cells #[.string t, .slice A os.length cap] 26) := ⟨_, rfl⟩
  have b0 : Below w.heap.size w W := by rw [hW]; exact (Below.refl _ _).alloc (Nat.le_refl _) _
  have p0 : W.cell? ⟨w.heap.size, 0, none⟩ = some (.string t) := by rw [hW]; simp
  have p1 : W.cell? ⟨w.heap.size, 1, none⟩ = some (.slice A os.length cap) := by rw [hW]; simp
  have hsW : w.heap.size < W.heap.size := by rw [hW]; simp
  have H0 := Lib.hid (hr.below (b0.mono hB)); clear hr
  have hP : ∀ W', Below W.heap.size W W' → Calls Tryd.prog 26 #[.agg #[.string t, .slice A os.length cap]] W' (Packed (fitsB (titB t) os) W') := fun W' hW' =>
    packed_any t A os cap B W' (H0.out.below (hW'.mono (Nat.le_trans hB b0.size))) (Nat.le_trans (Nat.le_trans hB b0.size) hW'.size) hc hm0 (by omega)
  obtain ⟨y, hy⟩ : ∃ y, y = str (bareL (lst t)) := ⟨_, rfl⟩
  have hBr : ∀ W', Calls Tryd.prog 20 #[.string t] W' fun e w' => e = .returned (.string y) ∧ Below W'.heap.size W' w' := fun W' => by
    rw [hy]; exact bare_any t W' (by unfold maxLen; omega)
  have HPK := Lib.hid hP; have HBR := Lib.hid hBr
  clear hP hBr
  have P0 := Lib.hid p0; have P1 := Lib.hid p1
  have hbc : Below W.heap.size W W.drew := (Below.refl _ _).drew
  unfold progV
  have HW := Lib.hid hW
  cases hf : fitsB (titB t) os with
  | false =>
    have HF := Lib.hid (printL_no (printB_no1 hf))
    rw [hf] at HPK
    have p0d : W.drew.cell? ⟨w.heap.size, 0, none⟩ = some (.string t) := p0
    have p1d : W.drew.cell? ⟨w.heap.size, 1, none⟩ = some (.slice A os.length cap) := p1
    have hnil := nil_eq
    clear hf hy
    go_enter Tryd.func15, Tryd.ntmps15
    go_wp2_with fail
    rw [← hW]
    clear hW
    go_upto_region 1 with fail
    go_cut [18] (fun s18 wx => s18 = .bool true ∧ Below W.heap.size W wx)
    case first =>
      first
        | go_region_with (first
            | (go_at_call 26; refine (HPK.out _ hbc).mono ?_; rintro e w5 ⟨b5, he5⟩; have he6 : e = .returned (.slice none 0 0) := he5; subst he6; replace hbc := hbc.trans (b5.mono hbc.size); replace p0 := (hbc.cell (p := ⟨w.heap.size, 0, none⟩) hsW).trans P0.out))
        | fail
      all_goals
        go_wp2_with fail
        go_meet
        exact ⟨rfl, hbc⟩
    case rest =>
      obtain ⟨rfl, hbx⟩ := hcut
      have hbz := b0.trans (hbx.mono b0.size)
      go_wp2
      go_ret
      exact ⟨ret_str HF.out.symm, hbz⟩
  | true =>
    rw [hf] at HPK
    have hfs := (fitsB_iff _ _).1 hf
    have ho64 := hfs.2.2.1
    have hyy : lst y = bareL (lst t) := by rw [hy, lst_str]
    by_cases he : bareL (lst t) = lst t
    · have hq : (y.toList == t.toList) = true := by
        rw [Lib.toList_data, Lib.toList_data, beq_iff_eq]
        exact hyy.trans he
      have hqn : (y.toList != t.toList) = false := by simp only [bne, hq]; rfl
      have HEQ := Lib.hid he
      clear hy hyy he
      go_enter Tryd.func15, Tryd.ntmps15
      go_wp2_with fail
      rw [← hW]
      clear hW
      go_upto_region 1 with fail
      go_cut [18] (fun s18 wx => s18 = .bool false ∧ Below W.heap.size W wx)
      case first =>
        go_region_held3 (fun w' => w'.cell? ⟨w.heap.size, 0, none⟩ = some (.string t) ∧ w'.cell? ⟨w.heap.size, 1, none⟩ = some (.slice A os.length cap)) (first | exact ⟨by assumption, by assumption⟩ | go_keep)
          (first
            | (go_at_call 26; refine (HPK.out _ hbc).mono ?_; rintro e w5 ⟨b5, g, n, c, rfl⟩; have hnl := nil_ne g n c; replace hbc := hbc.trans (b5.mono hbc.size); replace p0 := (hbc.cell (p := ⟨w.heap.size, 0, none⟩) hsW).trans P0.out; replace p1 := (hbc.cell (p := ⟨w.heap.size, 1, none⟩) hsW).trans P1.out)
            | (go_at_call 20; refine (HBR.out _).mono ?_; rintro e w6 ⟨rfl, b6⟩; replace hbc := hbc.trans (b6.mono hbc.size); replace p0 := (hbc.cell (p := ⟨w.heap.size, 0, none⟩) hsW).trans P0.out; replace p1 := (hbc.cell (p := ⟨w.heap.size, 1, none⟩) hsW).trans P1.out))
        all_goals
          go_wp2_with fail
          go_meet
          exact ⟨rfl, hbc⟩
      case rest =>
        obtain ⟨rfl, hbx⟩ := hcut
        have hbz := b0.trans (hbx.mono b0.size)
        have HX0 := Lib.hid (H0.out.below (hbx.mono (Nat.le_trans hB b0.size)))
        replace p0 := (hbx.cell (p := ⟨w.heap.size, 0, none⟩) hsW).trans P0.out
        replace p1 := (hbx.cell (p := ⟨w.heap.size, 1, none⟩) hsW).trans P1.out
        clear hq hqn hbc HPK HBR hbx
        have hsmo := Lib.hid hfs.2.2.2
        clear hfs
        go_wp2_with fail
        go_loopw [3, 26] (fun sv iv wr => ∃ (k : Nat) (z : ByteArray), iv = .int .i64 k ∧ sv = .string z ∧ k ≤ os.length ∧ z.size ≤ t.size + 7 + 41 * k ∧ Hid (lst z = textOf [] (lst t) (os.take k)) ∧ Hid (∀ o ∈ os.take k, okOp o = true) ∧ Hid (RO wr B A os) ∧ Below w.heap.size w wr) (fun _ iv _ => os.length - (intOf iv).toNat)
        case atStart =>
          refine ⟨0, _, rfl, rfl, by omega, ?_, ?_, by simp [Hid], HX0, hbz⟩
          · simp only [ByteArray.size_append]
            have e1 : (⟨#[116, 105, 116, 108, 101, 32]⟩ : ByteArray).size = 6 := rfl
            have e2 : (⟨#[10]⟩ : ByteArray).size = 1 := rfl
            omega
          · unfold Hid
            rw [List.take_zero, textOf_nil, lst_append, lst_append]
            have e1 : lst (⟨#[116, 105, 116, 108, 101, 32]⟩ : ByteArray) = titleP ++ [32] := rfl
            have e2 : lst (⟨#[10]⟩ : ByteArray) = [10] := rfl
            rw [e1, e2]; simp
        case round =>
          obtain ⟨k, z, rfl, rfl, hk, hz, HZ, HOK, HRO, hb⟩ := hrel
          clear HX0 hbz
          by_cases hlt : k < os.length
          · obtain ⟨b, off, rfl, hbB, hcell⟩ := HRO.out (by omega)
            obtain ⟨q1, q2, q3, q4⟩ := hcell k hlt
            clear hcell
            have hkc : (k : Int) < (os.length : Int) := by omega
            have hk64 : k < 64 := by omega
            obtain ⟨o, ho⟩ : ∃ o, os[k] = o := ⟨_, rfl⟩
            have hsm : smlO o := by rw [← ho]; exact hsmo.out _ (List.getElem_mem hlt)
            rw [ho] at q1 q2 q3 q4
            have bv : Below wr.heap.size wr (wr.alloc (.cells #[.int .i64 o.k, .int .i64 o.a, .int .i64 o.b, .int .i64 o.c] 39)) := (Below.refl _ _).alloc (Nat.le_refl _) _
            have HPO := Lib.hid (printop_any o (wr.alloc (.cells #[.int .i64 o.k, .int .i64 o.a, .int .i64 o.b, .int .i64 o.c] 39)) (HTT.out.next (hb.trans (bv.mono hb.size))) hsm)
            have hll := opLine_len o hsm
            have hbv := hb.trans (bv.mono hb.size)
            have HRV := Lib.hid (HRO.out.below (bv.mono (Nat.le_trans hB hb.size)))
            unfold opV at HPO
            cases hok : okOp o with
            | false =>
              have HF := Lib.hid (printL_no (printB_no3 (t := t) hlt (by rw [ho]; exact hok)))
              rw [printed_no o hok] at HPO
              clear hok ho hsm
              go_wp2_with fail
              refine HPO.out.mono ?_
              rintro e w3 ⟨rfl, hb3⟩
              have hb4 := hbv.trans (hb3.mono hbv.size)
              go_wp2
              go_ret
              exact ⟨ret_str HF.out.symm, hb4⟩
            | true =>
              rw [printed_yes o hok] at HPO
              have HOK2 : Hid (∀ p ∈ os.take (k + 1), okOp p = true) := fun p hp => by
                rw [List.take_succ_eq_append_getElem hlt, List.mem_append, List.mem_singleton, ho] at hp
                rcases hp with hp | rfl
                · exact HOK.out p hp
                · exact hok
              have HTX := Lib.hid (show textOf [] (lst t) (os.take (k + 1)) = textOf [] (lst t) (os.take k) ++ (opLine o ++ [10]) by
                rw [List.take_succ_eq_append_getElem hlt, ho, textOf_snoc])
              have hls : (str (opLine o)).size ≤ 40 := by rw [str_size]; exact hll
              clear hok ho hsm
              go_wp2_with fail
              refine HPO.out.mono ?_
              rintro e w3 ⟨rfl, hb3⟩
              have hb4 := hbv.trans (hb3.mono hbv.size)
              have HRZ := Lib.hid (HRV.out.below (hb3.mono (Nat.le_trans hB hbv.size)))
              go_wp2
              go_roundw
              case rel =>
                refine ⟨k + 1, _, by go_num, rfl, by omega, ?_, ?_, HOK2, HRZ, hb4⟩
                · simp only [ByteArray.size_append]
                  have e2 : (⟨#[10]⟩ : ByteArray).size = 1 := rfl
                  omega
                · unfold Hid
                  rw [lst_append, lst_append, HZ.out, lst_str, HTX.out]; rfl
              case measure => simp [intOf]; omega
          · obtain rfl : k = os.length := by omega
            have HF := Lib.hid (show str (printL t os) = z from printL_yes ((printB_iff t os).2 ⟨hf, HEQ.out, by have := HOK.out; rwa [List.take_length] at this⟩) (by have := HZ.out; rwa [List.take_length] at this))
            go_wp2
            go_ret
            exact ⟨ret_str HF.out.symm, hb⟩
    · have hq : (y.toList == t.toList) = false := by
        rw [Lib.toList_data, Lib.toList_data, beq_eq_false_iff_ne]
        exact fun e => he (hyy.symm.trans e)
      have hqn : (y.toList != t.toList) = true := by simp only [bne, hq]; rfl
      have HF := Lib.hid (printL_no (os := os) (printB_no2 he))
      clear hy hyy he
      go_enter Tryd.func15, Tryd.ntmps15
      go_wp2_with fail
      rw [← hW]
      clear hW
      go_upto_region 1 with fail
      go_cut [18] (fun s18 wx => s18 = .bool true ∧ Below W.heap.size W wx)
      case first =>
        go_region_held3 (fun w' => w'.cell? ⟨w.heap.size, 0, none⟩ = some (.string t) ∧ w'.cell? ⟨w.heap.size, 1, none⟩ = some (.slice A os.length cap)) (first | exact ⟨by assumption, by assumption⟩ | go_keep)
          (first
            | (go_at_call 26; refine (HPK.out _ hbc).mono ?_; rintro e w5 ⟨b5, g, n, c, rfl⟩; have hnl := nil_ne g n c; replace hbc := hbc.trans (b5.mono hbc.size); replace p0 := (hbc.cell (p := ⟨w.heap.size, 0, none⟩) hsW).trans P0.out; replace p1 := (hbc.cell (p := ⟨w.heap.size, 1, none⟩) hsW).trans P1.out)
            | (go_at_call 20; refine (HBR.out _).mono ?_; rintro e w6 ⟨rfl, b6⟩; replace hbc := hbc.trans (b6.mono hbc.size); replace p0 := (hbc.cell (p := ⟨w.heap.size, 0, none⟩) hsW).trans P0.out; replace p1 := (hbc.cell (p := ⟨w.heap.size, 1, none⟩) hsW).trans P1.out))
        all_goals
          go_wp2_with fail
          go_meet
          exact ⟨rfl, hbc⟩
      case rest =>
        obtain ⟨rfl, hbx⟩ := hcut
        have hbz := b0.trans (hbx.mono b0.size)
        go_wp2
        go_ret
        exact ⟨ret_str HF.out.symm, hbz⟩
end Go.Proofs.YthidkkjhpdcenaaDoor
