/- WALKS over package asm: printOp. -/
import Derived.Test.YthidkkjhpdcenaaDoorSd
namespace Go.Proofs.YthidkkjhpdcenaaDoor
set_option maxRecDepth 100000
open Go.RowKit
set_option linter.unusedVariables false

/-! ### plain: an operation's line as it grows -/
/-- the line behind the first j numbers -/
def lineAt (o : O4) (j : Nat) : List UInt8 := joinW (nameL o.k.toNat) (((opArgs o).take (min j (takesL o.k.toNat))).map Lib.itoa)
theorem lineAt_zero (o : O4) : lineAt o 0 = nameL o.k.toNat := by
  unfold lineAt joinW; simp
theorem opArgs_len (o : O4) : (opArgs o).length = 3 := rfl
theorem lineAt_three (o : O4) : lineAt o 3 = opLine o := by
  unfold lineAt opLine
  have := takesL_le o.k.toNat
  rw [Nat.min_eq_right this]
theorem joinW_snoc (w : List UInt8) (l : List (List UInt8)) (x : List UInt8) : joinW w (l ++ [x]) = joinW w l ++ (32 :: x) := by
  unfold joinW; simp
theorem lineAt_more (o : O4) (j : Nat) (h : j < takesL o.k.toNat) (h3 : j < 3) : lineAt o (j + 1) = lineAt o j ++ (32 :: Lib.itoa ((opArgs o)[j]'h3)) := by
  unfold lineAt
  rw [Nat.min_eq_left (by omega), Nat.min_eq_left (by omega), List.take_succ_eq_append_getElem (by exact h3), List.map_append, List.map_cons, List.map_nil, joinW_snoc]
theorem lineAt_same (o : O4) (j : Nat) (h : takesL o.k.toNat ≤ j) : lineAt o (j + 1) = lineAt o j := by
  unfold lineAt
  rw [Nat.min_eq_right (by omega), Nat.min_eq_right (by omega)]
theorem name_len (k : Nat) : (nameL k).length ≤ 4 := by
  by_cases h : k < 16
  · have : ∀ j : Fin 16, (nameL j.1).length ≤ 4 := by decide
    exact this ⟨k, h⟩
  · unfold nameL
    rw [List.getD, List.getElem?_eq_none (by show 16 ≤ k; omega)]
    exact Nat.zero_le _
theorem itoa_len (n : Int) (h : sml n) : (Lib.itoa n).length ≤ 11 := itoa_size n h.1 h.2
theorem args_sml (o : O4) (h : smlO o) (j : Nat) (hj : j < 3) : sml ((opArgs o)[j]'hj) := by
  obtain rfl | rfl | rfl : j = 0 ∨ j = 1 ∨ j = 2 := by omega
  · exact h.2.1
  · exact h.2.2.1
  · exact h.2.2.2
theorem lineAt_len (o : O4) (h : smlO o) : ∀ j, j ≤ 3 → (lineAt o j).length ≤ 4 + 12 * j
  | 0, _ => by rw [lineAt_zero]; exact name_len _
  | j + 1, hj => by
    have ih := lineAt_len o h j (by omega)
    by_cases ht : j < takesL o.k.toNat
    · rw [lineAt_more o j ht (by omega), List.length_append, List.length_cons]
      have := itoa_len _ (args_sml o h j (by omega))
      omega
    · rw [lineAt_same o j (by omega)]; omega
theorem opLine_len (o : O4) (h : smlO o) : (opLine o).length ≤ 40 := by rw [← lineAt_three]; exact lineAt_len o h 3 (by omega)
theorem okOp_code (o : O4) (h : o.k < 0 ∨ 16 ≤ o.k) : okOp o = false := by
  rw [Bool.eq_false_iff]
  intro e
  have := (okOp_iff o).1 e
  omega
theorem okOp_bad (o : O4) (j : Nat) (hj : j < 3) (ht : takesL o.k.toNat ≤ j) (h : (opArgs o)[j]'hj ≠ 0) : okOp o = false := by
  rw [Bool.eq_false_iff]
  intro e
  refine h (((okOp_iff o).1 e).2.2 _ ?_)
  rw [List.mem_drop_iff_getElem]
  exact ⟨j - takesL o.k.toNat, by rw [opArgs_len]; omega, by congr 1; omega⟩
theorem okOp_good (o : O4) (h1 : 0 ≤ o.k) (h2 : o.k < 16) (h : ∀ j (hj : j < 3), takesL o.k.toNat ≤ j → (opArgs o)[j]'hj = 0) : okOp o = true := by
  rw [okOp_iff]
  refine ⟨h1, h2, fun x hx => ?_⟩
  rw [List.mem_drop_iff_getElem] at hx
  obtain ⟨i, hi, rfl⟩ := hx
  exact h _ (by rw [opArgs_len] at hi; omega) (by omega)
def argsV (o : O4) : Value := .agg #[.int .i64 o.a, .int .i64 o.b, .int .i64 o.c]
theorem index_args (o : O4) (j : Nat) (hj : j < 3) (w : World) : (Instr.index 62 (.agg #[.int .i64 o.a, .int .i64 o.b, .int .i64 o.c]) (.int .i64 (j : Int))).run Tryd.prog w = .ok (.int .i64 ((opArgs o)[j]'hj)) w := by
  obtain rfl | rfl | rfl : j = 0 ∨ j = 1 ∨ j = 2 := by omega
  all_goals (show _ = _; kernel_rfl)

/-- what printOp answers -/
def printedV (o : O4) : Value := .tuple #[.string (str (if okOp o = true then opLine o else [])), .bool (okOp o)]
theorem printed_no (o : O4) (h : okOp o = false) : printedV o = .tuple #[.string ⟨#[]⟩, .bool false] := by unfold printedV; rw [h]; rfl
theorem printed_yes (o : O4) (h : okOp o = true) : printedV o = .tuple #[.string (str (opLine o)), .bool true] := by unfold printedV; rw [h]; rfl
set_option maxHeartbeats 2000000 in
theorem printop_any (o : O4) (w : World) (hT : Tabs w) (hs : smlO o) :
    Calls Tryd.prog 27 #[opV o] w fun e w' => e = .returned (printedV o) ∧ Below w.heap.size w w' := by
  have HTT := Lib.hid hT; clear hT
  have HS := Lib.hid hs; clear hs
  have b1 : Below w.heap.size w (w.alloc (.cells #[.int .i64 o.k, .int .i64 o.a, .int .i64 o.b, .int .i64 o.c] 39)) := (Below.refl _ _).alloc (Nat.le_refl _) _
  unfold opV
  by_cases h0 : o.k < 0
  · have HF := Lib.hid (printed_no o (okOp_code o (.inl h0)))
    go_enter Tryd.func27, Tryd.ntmps27
    go_wp2
    go_ret2
    exact ⟨by rw [HF.out]; rfl, b1⟩
  by_cases h1 : 16 ≤ o.k
  · have HF := Lib.hid (printed_no o (okOp_code o (.inr h1)))
    have h2 : o.k ≥ 16 := h1
    go_enter Tryd.func27, Tryd.ntmps27
    go_wp2
    go_ret2
    exact ⟨by rw [HF.out]; rfl, b1⟩
  obtain ⟨k, hk⟩ : ∃ k : Nat, o.k = (k : Int) := ⟨o.k.toNat, by omega⟩
  have hkn : o.k.toNat = k := by omega
  have hk16 : k < 16 := by omega
  have q0 : ¬ (k : Int) < 0 := by omega
  have q1 : ¬ (k : Int) ≥ 16 := by omega
  have q2 : (k : Int) < 16 := by omega
  obtain ⟨t, ht⟩ : ∃ t, takesL k = t := ⟨_, rfl⟩
  have ht3 : t ≤ 3 := by rw [← ht]; exact takesL_le k
  have hcell := (HTT.out.next b1).1 k hk16
  rw [hk] at b1 hcell
  rw [ht] at hcell
  obtain ⟨c1, c2⟩ := hcell
  obtain ⟨nm, hnm⟩ : ∃ nm, nameL k = nm := ⟨_, rfl⟩
  have HL0 := Lib.hid (lineAt_zero o)
  rw [hkn, hnm] at HL0
  rw [hnm] at c1
  rw [Nat.mul_comm 2 k] at c1 c2
  have hnl : (str nm).size ≤ 4 := by rw [str_size, ← hnm]; exact name_len k
  have HLM := Lib.hid (lineAt_more o)
  have HLS := Lib.hid (lineAt_same o)
  have HBD := Lib.hid (okOp_bad o)
  have HGD := Lib.hid (okOp_good o (by omega) (by omega))
  rw [hkn, ht] at HLM HLS HBD
  have HGD2 : Hid ((∀ j (hj : j < 3), t ≤ j → (opArgs o)[j]'hj = 0) → okOp o = true) := by
    have := HGD.out
    rw [hkn, ht] at this
    exact this
  have HIX := Lib.hid (index_args o)
  have HLL := Lib.hid (lineAt_len o HS.out)
  have HSM := Lib.hid (args_sml o HS.out)
  rw [hk]
  have HK := Lib.hid hk; have HKN := Lib.hid hkn; have HTK := Lib.hid ht; have HNM := Lib.hid hnm
  clear hk hkn ht hnm h0 h1 HGD
  go_enter Tryd.func27, Tryd.ntmps27
  go_wp2_with fail
  obtain ⟨W2, hW2⟩ : ∃ W2, W2 = (w.alloc (.cells #[.int .i64 (k : Int), .int .i64 o.a, .int .i64 o.b, .int .i64 o.c] 39)).alloc (.cells #[.string (str nm), .int .i64 (t : Int)] 71) := ⟨_, rfl⟩
  rw [← hW2]
  have b2 : Below w.heap.size w W2 := by rw [hW2]; exact b1.alloc (by simp) _
  have hz2 : w.heap.size + 2 ≤ W2.heap.size := by rw [hW2]; simp
  have p1 : W2.cell? ⟨w.heap.size + 1, 1, none⟩ = some (.int .i64 (t : Int)) := by rw [hW2]; simp
  have P1 := Lib.hid p1; have HW2 := Lib.hid hW2
  clear p1 hW2 b1 c1 c2 q0 q1
  go_loopw [5, 29] (fun sv iv wr => ∃ (j : Nat) (z : ByteArray), iv = .int .i64 j ∧ sv = .string z ∧ j ≤ 3 ∧ z.size ≤ 4 + 12 * j ∧ Hid (lst z = lineAt o j) ∧ Hid (∀ i (hi : i < 3), i < j → t ≤ i → (opArgs o)[i]'hi = 0) ∧ Below w.heap.size w wr ∧ Below W2.heap.size W2 wr) (fun _ iv _ => 3 - (intOf iv).toNat)
  case atStart => exact ⟨0, str nm, rfl, rfl, by omega, by omega, by unfold Hid; rw [lst_str, HL0.out], (fun i hi h => by omega), b2, Below.refl _ _⟩
  case round =>
    obtain ⟨j, z, rfl, rfl, hj, hz, HZ, HA, hb, hbW⟩ := hrel
    have hcl := (hbW.cell (p := ⟨w.heap.size + 1, 1, none⟩) (show w.heap.size + 1 < _ by omega)).trans P1.out
    by_cases hj3 : j < 3
    · have hjc : (j : Int) < 3 := by omega
      have hix := HIX.out j hj3 wr
      obtain ⟨n, hn⟩ : ∃ n, (opArgs o)[j]'hj3 = n := ⟨_, rfl⟩
      rw [hn] at hix
      by_cases hjt : j < t
      · have hjtc : (j : Int) < (t : Int) := by omega
        have hns : sml n := by rw [← hn]; exact HSM.out j hj3
        have HI := Lib.hid (itoa_any n wr (HTT.out.next hb).2.1 (by unfold sml at hns; omega) (by unfold sml at hns; omega))
        have hil : (str (Lib.itoa n)).size ≤ 11 := by rw [str_size]; exact itoa_len n hns
        have HM := Lib.hid (show lineAt o (j + 1) = lineAt o j ++ 32 :: Lib.itoa n by rw [HLM.out j hjt hj3, hn])
        clear hn hns
        go_wp2_with fail
        refine HI.out.mono ?_
        rintro e w3 ⟨rfl, hb3⟩
        have hbz := hb.trans (hb3.mono hb.size)
        have hbZ := hbW.trans (hb3.mono hbW.size)
        go_wp2
        go_roundw
        case rel =>
          refine ⟨j + 1, _, by go_num, rfl, by omega, ?_, ?_, ?_, hbz, hbZ⟩
          · simp only [ByteArray.size_append]
            have : (⟨#[32]⟩ : ByteArray).size = 1 := rfl
            omega
          · unfold Hid
            rw [lst_append, lst_append, HZ.out, lst_str, HM.out]; rfl
          · intro i hi h1 h2
            omega
        case measure => simp [intOf]; omega
      · have hjtc : ¬ (j : Int) < (t : Int) := by omega
        by_cases hn0 : n = 0
        · have hq : (n != 0) = false := by simp [hn0]
          have HM := Lib.hid (show lst z = lineAt o (j + 1) by rw [HZ.out, HLS.out j (by omega)])
          have HA2 : Hid (∀ i (hi : i < 3), i < j + 1 → t ≤ i → (opArgs o)[i]'hi = 0) := fun i hi h1 h2 => by
            by_cases e : i < j
            · exact HA.out i hi e h2
            · obtain rfl : i = j := by omega
              rw [hn]; exact hn0
          clear hn hn0
          go_wp2
          go_roundw
          case rel => exact ⟨j + 1, z, by go_num, rfl, by omega, by omega, HM, HA2, hb, hbW⟩
          case measure => simp [intOf]; omega
        · have hq : (n != 0) = true := by simp [hn0]
          have HF := Lib.hid (printed_no o (HBD.out j hj3 (by omega) (by rw [hn]; exact hn0)))
          clear hn hn0
          go_wp2
          go_ret2
          exact ⟨by rw [HF.out]; rfl, hb⟩
    · obtain rfl : j = 3 := by omega
      have HF := Lib.hid (printed_yes o (HGD2.out (fun i hi h => HA.out i hi hi h)))
      have HS3 := Lib.hid (show str (opLine o) = z by rw [← lineAt_three, ← HZ.out, str_lst])
      go_wp2
      go_ret2
      exact ⟨by rw [HF.out, HS3.out]; rfl, hb⟩
end Go.Proofs.YthidkkjhpdcenaaDoor
