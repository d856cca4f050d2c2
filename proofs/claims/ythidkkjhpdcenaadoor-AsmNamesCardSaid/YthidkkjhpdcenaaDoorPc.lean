/- WALK of quintainref1.Print. -/
import Derived.Test.YthidkkjhpdcenaaDoorPb
import Derived.Test.YthidkkjhpdcenaaDoorOg
import Derived.Test.YthidkkjhpdcenaaDoorTb
import Derived.Test.YthidkkjhpdcenaaDoorRj
namespace Go.Proofs.YthidkkjhpdcenaaDoor
set_option maxRecDepth 100000
open Go.RowKit
set_option linter.unusedVariables false
attribute [local go_sem ↓] Go.wp_at_zero Go.wp_at_succ

theorem tl_first {t : ByteArray} (h0 : 0 < t.size) (h : (t[0]'h0).toNat = 32) : bareL (lst t) ≠ lst t := fun e => by
  have e4 := lst_drop t 0 h0
  rw [List.drop_zero] at e4
  have := trimL_head (bareL_clean _ e).2.1 e4
  rw [(blk_iff _).2 (.inl h)] at this
  cases this
theorem tl_last {t : ByteArray} {m : Nat} (hm : t.size = m + 1) (h : (t[m]'(by omega)).toNat = 32) : bareL (lst t) ≠ lst t := fun e => by
  have e2 : lst t = lst (t.extract 0 m) ++ [t[m]'(by omega)] := by
    have e := lst_snoc_of t (by omega)
    have hm1 : t.size - 1 = m := by omega
    simp only [hm1] at e
    exact e
  have := trimR_last (bareL_clean _ e).2.2 e2
  rw [(blk_iff _).2 (.inl h)] at this
  cases this
theorem tl_hash {t : ByteArray} {k : Nat} (hk : k < t.size) (h : (t[k]'hk).toNat = 35) : bareL (lst t) ≠ lst t := fun e => by
  have e4 := lst_drop t k hk
  refine (bareL_clean _ e).1 (t[k]'hk) ?_ (UInt8.toNat_inj.1 h)
  have : t[k]'hk ∈ (lst t).drop k := by rw [e4]; simp
  exact List.mem_of_mem_drop this
theorem tl_yes {t : ByteArray} {m : Nat} (hm : t.size = m + 1) (hb : ∀ c ∈ lst t, 32 ≤ c.toNat) (h1 : ¬ (t[0]'(by omega)).toNat = 32) (h2 : ¬ (t[m]'(by omega)).toNat = 32) (h3 : ∀ c ∈ (lst t).take t.size, c ≠ 35) : bareL (lst t) = lst t := by
  have hnb : ∀ c : UInt8, 32 ≤ c.toNat → ¬ c.toNat = 32 → blk c = false := fun c g1 g2 => by
    rw [Bool.eq_false_iff]
    intro e
    have := (blk_iff c).1 e
    omega
  have h0 : 0 < t.size := by omega
  have e4 := lst_drop t 0 h0
  rw [List.drop_zero] at e4
  have e2 : lst t = lst (t.extract 0 m) ++ [t[m]'(by omega)] := by
    have e := lst_snoc_of t (by omega)
    have hm1 : t.size - 1 = m := by omega
    simp only [hm1] at e
    exact e
  refine (clean.ends ?_ ?_ ?_).bare
  · rwa [List.take_of_length_le (by rw [lst_len]; exact Nat.le_refl _)] at h3
  · intro c r e
    rw [e4] at e
    obtain ⟨rfl, -⟩ := List.cons.inj e
    exact hnb _ (hb _ (by rw [e4]; simp)) h1
  · intro q d e
    rw [e2] at e
    obtain ⟨-, e5⟩ := List.append_inj' e rfl
    obtain ⟨rfl, -⟩ := List.cons.inj e5
    exact hnb _ (hb _ (by rw [e2]; simp)) h2
def argF (o : O4) (i : Nat) : Value := .int .i64 ((opArgs o).getD i 0)
theorem argF_at (o : O4) (j : Nat) (hj : j < 3) : argF o j = .int .i64 ((opArgs o)[j]'hj) := by
  unfold argF
  rw [List.getD, List.getElem?_eq_getElem (show j < (opArgs o).length from hj)]; rfl

set_option maxHeartbeats 4000000 in
theorem refprint_any (t : ByteArray) (A : Option Addr) (os : List O4) (cap B : Nat) (w : World) (hr : RO w B A os) (hB : B ≤ w.heap.size) (hc : os.length ≤ cap) (hm : cap ≤ maxLen) (ht : t.size ≤ 1000) :
    Calls Tryd.prog 16 #[progV t A os.length cap] w fun e w' => e = .returned (.string (str (printL t os))) ∧ Below w.heap.size w w' := by
  have hm0 := hm
  unfold maxLen at hm
  obtain ⟨W, hW⟩ : ∃ W, W = w.alloc (.cells #[.string t, .slice A os.length cap] 26) := ⟨_, rfl⟩
  have b0 : Below w.heap.size w W := by rw [hW]; exact (Below.refl _ _).alloc (Nat.le_refl _) _
  have p0 : W.cell? ⟨w.heap.size, 0, none⟩ = some (.string t) := by rw [hW]; simp
  have p1 : W.cell? ⟨w.heap.size, 1, none⟩ = some (.slice A os.length cap) := by rw [hW]; simp
  have hsW : w.heap.size < W.heap.size := by rw [hW]; simp
  have H0 := Lib.hid (hr.below (b0.mono hB)); clear hr
  have HFM := Lib.hid (form_any t A os cap B W H0.out (Nat.le_trans hB b0.size) hc hm0 (by omega))
  have P0 := Lib.hid p0; have P1 := Lib.hid p1
  unfold progV at HFM ⊢
  cases hf : fitsB (titB t) os with
  | false =>
    have HF := Lib.hid (printL_no (printB_no1 hf))
    rw [hf] at HFM
    clear hf
    go_enter Tryd.func16, Tryd.ntmps16
    go_wp2_with fail
    rw [← hW]
    refine HFM.out.mono ?_
    rintro e w1 ⟨rfl, hb1⟩
    have hbz := b0.trans (hb1.mono b0.size)
    clear hW
    go_wp2
    go_ret
    exact ⟨ret_str HF.out.symm, hbz⟩
  | true =>
    rw [hf] at HFM
    have hfs := (fitsB_iff _ _).1 hf
    have ho64 := hfs.2.2.1
    obtain ⟨htp, htb⟩ := tit_bytes hfs.1
    obtain ⟨m, hm1⟩ : ∃ m, t.size = m + 1 := ⟨t.size - 1, by omega⟩
    have hlt : m < t.size := by omega
    have hlt2 : (m : Int) < (t.size : Int) := by omega
    have hms : ((t.size : Int) - 1) = (m : Int) := by omega
    have hpos : (0 : Int) < (t.size : Int) := by omega
    have hsmo := Lib.hid hfs.2.2.2
    have HTB := Lib.hid htb; have HFF := Lib.hid hf
    clear hfs htb hf
    by_cases hfst : (t[0]'htp).toNat = 32
    · have hq : (((t[0]'htp).toNat : Int) == 32) = true := by rw [hfst]; rfl
      have HF := Lib.hid (printL_no (os := os) (printB_no2 (tl_first htp hfst)))
      clear hfst hm1
      go_enter Tryd.func16, Tryd.ntmps16
      go_wp2_with fail
      rw [← hW]
      refine HFM.out.mono ?_
      rintro e w1 ⟨rfl, hb1⟩
      have hbz := b0.trans (hb1.mono b0.size)
      replace p0 := (hb1.cell (p := ⟨w.heap.size, 0, none⟩) hsW).trans P0.out
      clear hW
      go_wp2
      go_ret
      exact ⟨ret_str HF.out.symm, hbz⟩
    have hq : (((t[0]'htp).toNat : Int) == 32) = false := by rw [beq_eq_false_iff_ne]; omega
    by_cases hlst : (t[m]'hlt).toNat = 32
    · have hq2 : (((t[m]'hlt).toNat : Int) == 32) = true := by rw [hlst]; rfl
      have HF := Lib.hid (printL_no (os := os) (printB_no2 (tl_last hm1 hlst)))
      clear hfst hlst hm1
      go_enter Tryd.func16, Tryd.ntmps16
      go_wp2_with fail
      rw [← hW]
      refine HFM.out.mono ?_
      rintro e w1 ⟨rfl, hb1⟩
      have hbz := b0.trans (hb1.mono b0.size)
      replace p0 := (hb1.cell (p := ⟨w.heap.size, 0, none⟩) hsW).trans P0.out
      clear hW
      go_wp2
      go_ret
      exact ⟨ret_str HF.out.symm, hbz⟩
    have hq2 : (((t[m]'hlt).toNat : Int) == 32) = false := by rw [beq_eq_false_iff_ne]; omega
    have HYES := Lib.hid (fun h3 => tl_yes hm1 HTB.out hfst hlst h3)
    have HM1 := Lib.hid hm1
    clear hfst hlst hm1
    go_enter Tryd.func16, Tryd.ntmps16
    go_wp2_with fail
    rw [← hW]
    refine HFM.out.mono ?_
    rintro e w1 ⟨rfl, hb1⟩
    have hbz := b0.trans (hb1.mono b0.size)
    replace p0 := (hb1.cell (p := ⟨w.heap.size, 0, none⟩) hsW).trans P0.out
    replace p1 := (hb1.cell (p := ⟨w.heap.size, 1, none⟩) hsW).trans P1.out
    have HX0 := Lib.hid (H0.out.below (hb1.mono (Nat.le_trans hB b0.size)))
    have hs1 : w.heap.size < w1.heap.size := Nat.lt_of_lt_of_le hsW hb1.size
    clear hW hb1 b0 HFM H0 P0 P1
    go_wp2_with fail
    clear hq hq2 hms
    go_loop [3] (fun iv => ∃ k : Nat, iv = .int .i64 k ∧ k ≤ t.size ∧ Hid (∀ c ∈ (lst t).take k, c ≠ 35)) (fun iv => t.size - (intOf iv).toNat)
    case atStart => exact ⟨0, rfl, by omega, by unfold Hid; simp⟩
    case round =>
      obtain ⟨k, rfl, hk, HN⟩ := hrel
      by_cases hkt : k < t.size
      · have hkt' : (k : Int) < (t.size : Int) := by omega
        by_cases hc35 : (t[k]'hkt).toNat = 35
        · have hq : (((t[k]'hkt).toNat : Int) == 35) = true := by rw [hc35]; rfl
          have HF := Lib.hid (printL_no (os := os) (printB_no2 (tl_hash hkt hc35)))
          clear hc35
          go_wp2
          go_ret
          exact ⟨ret_str HF.out.symm, hbz⟩
        · have hq : (((t[k]'hkt).toNat : Int) == 35) = false := by rw [beq_eq_false_iff_ne]; omega
          have HN2 := Lib.hid (show ∀ c ∈ (lst t).take (k + 1), c ≠ 35 from mem_take_more t k 1 35 (by omega) HN.out (fun j hj => by
            obtain rfl : j = 0 := by omega
            rw [Nat.add_zero, get!_at t k hkt]; exact hc35))
          clear hc35
          go_wp2
          go_round
          case rel => exact ⟨k + 1, by go_num, by omega, HN2⟩
          case measure => simp [intOf]; omega
      · obtain rfl : k = t.size := by omega
        have HEQ := Lib.hid (HYES.out HN.out)
        have P0 := Lib.hid p0; have P1 := Lib.hid p1
        clear HYES HN
        go_wp2_with fail
        go_loopw [4, 5] (fun sv iv wr => ∃ (k : Nat) (z : ByteArray), iv = .int .i64 k ∧ sv = .string z ∧ k ≤ os.length ∧ z.size ≤ t.size + 7 + 41 * k ∧ Hid (lst z = textOf [] (lst t) (os.take k)) ∧ Hid (∀ o ∈ os.take k, okOp o = true) ∧ Below w.heap.size w wr ∧ Below w1.heap.size w1 wr) (fun _ iv _ => os.length - (intOf iv).toNat)
        case atStart =>
          refine ⟨0, _, rfl, rfl, by omega, ?_, ?_, by simp [Hid], hbz, Below.refl _ _⟩
          · simp only [ByteArray.size_append]
            have e1 : (⟨#[116, 105, 116, 108, 101, 32]⟩ : ByteArray).size = 6 := rfl
            have e2 : (⟨#[10]⟩ : ByteArray).size = 1 := rfl
            omega
          · unfold Hid
            rw [List.take_zero, textOf_nil, lst_append, lst_append]
            have e1 : lst (⟨#[116, 105, 116, 108, 101, 32]⟩ : ByteArray) = titleP ++ [32] := rfl
            have e2 : lst (⟨#[10]⟩ : ByteArray) = [10] := rfl
            rw [e1, e2]; simp
        case round =>
          obtain ⟨k, z, rfl, rfl, hk, hz, HZ, HOK, hb, hbr⟩ := hrel
          clear hbz
          have hs2 : w.heap.size < wr.heap.size := Nat.lt_of_lt_of_le hs1 hbr.size
          replace p0 := (hbr.cell (p := ⟨w.heap.size, 0, none⟩) hs1).trans P0.out
          replace p1 := (hbr.cell (p := ⟨w.heap.size, 1, none⟩) hs1).trans P1.out
          by_cases hlt : k < os.length
          · obtain ⟨b, off, rfl, hbB, hcell⟩ := (HX0.out.below (hbr.mono (by omega))) (by omega)
            obtain ⟨q1, q2, q3, q4⟩ := hcell k hlt
            clear hcell
            have hkc : (k : Int) < (os.length : Int) := by omega
            obtain ⟨o, ho⟩ : ∃ o, os[k] = o := ⟨_, rfl⟩
            have hsm : smlO o := by rw [← ho]; exact hsmo.out _ (List.getElem_mem hlt)
            rw [ho] at q1 q2 q3 q4
            by_cases h0 : o.k < 0
            · have HF := Lib.hid (printL_no (printB_no3 (t := t) hlt (by rw [ho]; exact okOp_code o (.inl h0))))
              have bv := hb.alloc hb.size (.cells #[.int .i64 o.k, .int .i64 o.a, .int .i64 o.b, .int .i64 o.c] 39)
              clear ho hsm
              go_wp2
              go_ret
              exact ⟨ret_str HF.out.symm, bv⟩
            by_cases h1 : 15 < o.k
            · have HF := Lib.hid (printL_no (printB_no3 (t := t) hlt (by rw [ho]; exact okOp_code o (.inr (by omega)))))
              have bv := hb.alloc hb.size (.cells #[.int .i64 o.k, .int .i64 o.a, .int .i64 o.b, .int .i64 o.c] 39)
              have h2 : o.k > 15 := h1
              clear ho hsm
              go_wp2
              go_ret
              exact ⟨ret_str HF.out.symm, bv⟩
            obtain ⟨n, hkn⟩ : ∃ n : Nat, o.k = (n : Int) := ⟨o.k.toNat, by omega⟩
            have hn : o.k.toNat = n := by omega
            have hn16 : n < 16 := by omega
            have g0 : ¬ (n : Int) < 0 := by omega
            have g1 : ¬ (n : Int) > 15 := by omega
            rw [hkn] at q1
            obtain ⟨tk, htk⟩ : ∃ tk, takesL n = tk := ⟨_, rfl⟩
            have ht3 : tk ≤ 3 := by rw [← htk]; exact takesL_le n
            obtain ⟨nm, hnm⟩ : ∃ nm, nameL n = nm := ⟨_, rfl⟩
            have HL0 := Lib.hid (lineAt_zero o)
            rw [hn, hnm] at HL0
            have hnl : (str nm).size ≤ 4 := by rw [str_size, ← hnm]; exact name_len n
            have HLM := Lib.hid (lineAt_more o)
            have HLS := Lib.hid (lineAt_same o)
            have HBD := Lib.hid (okOp_bad o)
            have HGD := Lib.hid (okOp_good o (by omega) (by omega))
            rw [hn, htk] at HLM HLS HBD
            have HGD2 : Hid ((∀ j (hj : j < 3), tk ≤ j → (opArgs o)[j]'hj = 0) → okOp o = true) := by
              have := HGD.out
              rw [hn, htk] at this
              exact this
            have HSM := Lib.hid (args_sml o hsm)
            have HTK := Lib.hid (fun W => takes_any n hn16 W)
            have HNA := Lib.hid (fun W => name_any n hn16 W)
            rw [htk] at HTK
            rw [hnm] at HNA
            have HTX := Lib.hid (show textOf [] (lst t) (os.take (k + 1)) = textOf [] (lst t) (os.take k) ++ (opLine o ++ [10]) by
              rw [List.take_succ_eq_append_getElem hlt, ho, textOf_snoc])
            have HNO := Lib.hid (fun h : okOp o = false => printL_no (printB_no3 (t := t) hlt (by rw [ho]; exact h)))
            have HOK2 : Hid (okOp o = true → ∀ p ∈ os.take (k + 1), okOp p = true) := fun hok p hp => by
              rw [List.take_succ_eq_append_getElem hlt, List.mem_append, List.mem_singleton, ho] at hp
              rcases hp with hp | rfl
              · exact HOK.out p hp
              · exact hok
            obtain ⟨V, hV⟩ : ∃ V, V = wr.alloc (.cells #[.int .i64 (n : Int), .int .i64 o.a, .int .i64 o.b, .int .i64 o.c] 39) := ⟨_, rfl⟩
            have bv : Below wr.heap.size wr V := by rw [hV]; exact (Below.refl _ _).alloc (Nat.le_refl _) _
            have hro : V.rowIs wr.heap.size 39 4 (opF ⟨n, o.a, o.b, o.c⟩) := by
              rw [hV]
              refine World.rowIs_alloc wr _ 39 (opF ⟨n, o.a, o.b, o.c⟩) (fun i hi => ?_)
              have hi : i < 4 := hi
              obtain rfl | rfl | rfl | rfl : i = 0 ∨ i = 1 ∨ i = 2 ∨ i = 3 := by omega
              all_goals rfl
            have hzv : wr.heap.size < V.heap.size := by rw [hV]; simp
            have HRow := Lib.hid hro
            have v0 : V.cell? ⟨wr.heap.size, 0, none⟩ = some (.int .i64 (n : Int)) := hro.cell (show 0 < 4 by omega)
            clear hro ho hsm hkn hn htk hnm h0 h1 HGD HOK
            go_upto_region 13 with fail
            rw [← hV]
            have HV := Lib.hid hV; clear hV q1 q2 q3 q4
            go_wp2_with fail
            refine (HNA.out _).mono ?_
            rintro e w3 ⟨rfl, hb3⟩
            have hro3 := rowIs_below HRow.out hb3 hzv
            have u0 : w3.cell? ⟨wr.heap.size, 0, none⟩ = some (.int .i64 (n : Int)) := hro3.cell (show 0 < 4 by omega)
            have u1 : w3.cell? ⟨wr.heap.size, 1, none⟩ = some (.int .i64 o.a) := hro3.cell (show 1 < 4 by omega)
            have u2 : w3.cell? ⟨wr.heap.size, 2, none⟩ = some (.int .i64 o.b) := hro3.cell (show 2 < 4 by omega)
            have u3 : w3.cell? ⟨wr.heap.size, 3, none⟩ = some (.int .i64 o.c) := hro3.cell (show 3 < 4 by omega)
            have hz3 : wr.heap.size < w3.heap.size := Nat.lt_of_lt_of_le hzv hb3.size
            obtain ⟨V2, hV2⟩ : ∃ V2, V2 = w3.alloc (.cells #[.int .i64 o.a, .int .i64 o.b, .int .i64 o.c] 3) := ⟨_, rfl⟩
            have b3 := bv.trans (hb3.mono bv.size)
            have b4 := b3.alloc b3.size (.cells #[.int .i64 o.a, .int .i64 o.b, .int .i64 o.c] 3)
            rw [← hV2] at b4
            have hra : V2.rowIs w3.heap.size 3 3 (argF o) := by
              rw [hV2]
              refine World.rowIs_alloc w3 _ 3 (argF o) (fun i hi => ?_)
              have hi : i < 3 := hi
              obtain rfl | rfl | rfl : i = 0 ∨ i = 1 ∨ i = 2 := by omega
              all_goals rfl
            have y0 : V2.cell? ⟨wr.heap.size, 0, none⟩ = some (.int .i64 (n : Int)) := by
              have hx : Below w3.heap.size w3 V2 := by rw [hV2]; exact (Below.refl _ _).alloc (Nat.le_refl _) _
              exact (hx.cell (p := ⟨wr.heap.size, 0, none⟩) hz3).trans u0
            have hz4 : w3.heap.size < V2.heap.size := by rw [hV2]; simp
            have HZW := Lib.hid (show (⟨wr.heap.size, 0, none⟩ : Addr).block < V2.heap.size from by show wr.heap.size < _; omega)
            have Y0 := Lib.hid y0; have HRA := Lib.hid hra
            have hb5 := hb.trans (b4.mono hb.size)
            have hb6 := hbr.trans (b4.mono hbr.size)
            clear y0 hra hro3 b3 b4 bv hb3 v0
            go_wp2_with fail
            rw [← hV2]
            have HV2 := Lib.hid hV2; clear hV2 u0 u1 u2 u3 p0 p1
            go_loopw [4, 8] (fun sv iv wq => ∃ (j : Nat) (z2 : ByteArray), iv = .int .i64 j ∧ sv = .string z2 ∧ j ≤ 3 ∧ z2.size ≤ z.size + 4 + 12 * j ∧ Hid (lst z2 = lst z ++ lineAt o j) ∧ Hid (∀ i (hi : i < 3), i < j → tk ≤ i → (opArgs o)[i]'hi = 0) ∧ Below w.heap.size w wq ∧ Below w1.heap.size w1 wq ∧ Below V2.heap.size V2 wq) (fun _ iv _ => 3 - (intOf iv).toNat)
            case atStart => exact ⟨0, _, rfl, rfl, by omega, by rw [ByteArray.size_append]; omega, by unfold Hid; rw [lst_append, lst_str, HL0.out], (fun i hi h => by omega), hb5, hb6, Below.refl _ _⟩
            case round =>
              obtain ⟨j, z2, rfl, rfl, hj, hz2, HZ2, HA, hbq, hbq1, hbq2⟩ := hrel
              clear hb5 hb6
              have x0 := (hbq2.cell HZW.out).trans Y0.out
              have hrq := rowIs_below HRA.out hbq2 hz4
              by_cases hj3 : j < 3
              · have hjc : (j : Int) < 3 := by omega
                have hj0 : (0 : Int) ≤ (j : Int) := by omega
                obtain ⟨x, hx⟩ : ∃ x, (opArgs o)[j]'hj3 = x := ⟨_, rfl⟩
                have hcj : wr.cell? ⟨w3.heap.size, j, none⟩ = some (.int .i64 x) := by
                  have := hrq.cell hj3
                  rw [argF_at o j hj3, hx] at this
                  exact this
                have HCJ := Lib.hid hcj
                have hzq : w3.heap.size < wr.heap.size := Nat.lt_of_lt_of_le hz4 hbq2.size
                clear hcj hrq
                by_cases hjt : j < tk
                · have hjtc : (j : Int) < (tk : Int) := by omega
                  have hns : sml x := by rw [← hx]; exact HSM.out j hj3
                  have HI := Lib.hid (fun W => decimal_any x W (by unfold sml at hns; omega) (by unfold sml at hns; omega))
                  obtain ⟨dz, hdz⟩ : ∃ dz, str (Lib.itoa x) = dz := ⟨_, rfl⟩
                  have hdz2 : (⟨(Lib.itoa x).toArray⟩ : ByteArray) = dz := hdz
                  rw [hdz2] at HI
                  have hil : dz.size ≤ 11 := by rw [← hdz, str_size]; exact itoa_len x hns
                  have HM := Lib.hid (show lineAt o (j + 1) = lineAt o j ++ 32 :: lst dz by rw [HLM.out j hjt hj3, hx, ← hdz, lst_str])
                  clear hx hns hdz hdz2
                  go_wp2_with fail
                  refine (HTK.out _).mono ?_
                  rintro e w5 ⟨rfl, hb5⟩
                  have cj := (hb5.cell (p := ⟨w3.heap.size, j, none⟩) hzq).trans HCJ.out
                  go_wp2_with fail
                  refine (HI.out _).mono ?_
                  rintro e w6 ⟨rfl, hb6⟩
                  have hb56 := hb5.trans (hb6.mono hb5.size)
                  have n1 := hbq.trans (hb56.mono hbq.size)
                  have n2 := hbq1.trans (hb56.mono hbq1.size)
                  have n3 := hbq2.trans (hb56.mono hbq2.size)
                  clear cj hb5 hb6 hb56
                  go_wp2
                  go_roundw
                  case rel =>
                    refine ⟨j + 1, _, by go_num, rfl, by omega, ?_, ?_, ?_, n1, n2, n3⟩
                    · simp only [ByteArray.size_append]
                      have : (⟨#[32]⟩ : ByteArray).size = 1 := rfl
                      omega
                    · unfold Hid
                      rw [lst_append, lst_append, HZ2.out, HM.out, List.append_assoc]; rfl
                    · intro i hi h1 h2
                      omega
                  case measure => simp [intOf]; omega
                · have hjtc : ¬ (j : Int) < (tk : Int) := by omega
                  by_cases hn0 : x = 0
                  · have hq : (x != 0) = false := by simp [hn0]
                    have HM := Lib.hid (show lst z2 = lst z ++ lineAt o (j + 1) by rw [HZ2.out, HLS.out j (by omega)])
                    have HA2 : Hid (∀ i (hi : i < 3), i < j + 1 → tk ≤ i → (opArgs o)[i]'hi = 0) := fun i hi h1 h2 => by
                      by_cases e : i < j
                      · exact HA.out i hi e h2
                      · obtain rfl : i = j := by omega
                        rw [hx]; exact hn0
                    clear hx hn0
                    go_wp2_with fail
                    refine (HTK.out _).mono ?_
                    rintro e w5 ⟨rfl, hb5⟩
                    have cj := (hb5.cell (p := ⟨w3.heap.size, j, none⟩) hzq).trans HCJ.out
                    have n1 := hbq.trans (hb5.mono hbq.size)
                    have n2 := hbq1.trans (hb5.mono hbq1.size)
                    have n3 := hbq2.trans (hb5.mono hbq2.size)
                    clear hb5
                    go_wp2
                    go_roundw
                    case rel => exact ⟨j + 1, z2, by go_num, rfl, by omega, by omega, HM, HA2, n1, n2, n3⟩
                    case measure => simp [intOf]; omega
                  · have hq : (x != 0) = true := by simp [hn0]
                    have HF := Lib.hid (HNO.out (HBD.out j hj3 (by omega) (by rw [hx]; exact hn0)))
                    clear hx hn0
                    go_wp2_with fail
                    refine (HTK.out _).mono ?_
                    rintro e w5 ⟨rfl, hb5⟩
                    have cj := (hb5.cell (p := ⟨w3.heap.size, j, none⟩) hzq).trans HCJ.out
                    have n1 := hbq.trans (hb5.mono hbq.size)
                    clear hb5
                    go_wp2
                    go_ret
                    exact ⟨ret_str HF.out.symm, n1⟩
              · obtain rfl : j = 3 := by omega
                have HOK3 := Lib.hid (HOK2.out (HGD2.out (fun i hi h => HA.out i hi hi h)))
                have HZ3 := HZ2.out
                rw [lineAt_three] at HZ3
                have HZ4 := Lib.hid HZ3; clear HZ3 hrq x0
                have hjc : ¬ ((3 : Nat) : Int) < 3 := by omega
                go_wp2
                go_roundw
                case rel =>
                  refine ⟨k + 1, _, by go_num, rfl, by omega, ?_, ?_, HOK3, hbq, hbq1⟩
                  · simp only [ByteArray.size_append]
                    have e2 : (⟨#[10]⟩ : ByteArray).size = 1 := rfl
                    omega
                  · unfold Hid
                    rw [lst_append, HZ4.out, HZ.out, HTX.out, List.append_assoc]; rfl
                case measure => simp [intOf]; omega
          · obtain rfl : k = os.length := by omega
            have HF := Lib.hid (show str (printL t os) = z from printL_yes ((printB_iff t os).2 ⟨HFF.out, HEQ.out, by have := HOK.out; rwa [List.take_length] at this⟩) (by have := HZ.out; rwa [List.take_length] at this))
            have hkc : ¬ (os.length : Int) < (os.length : Int) := by omega
            clear p0
            go_wp2
            go_ret
            exact ⟨ret_str HF.out.symm, hb⟩
end Go.Proofs.YthidkkjhpdcenaaDoor
