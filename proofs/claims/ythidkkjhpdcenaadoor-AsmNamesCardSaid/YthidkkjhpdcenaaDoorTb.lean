/- WALK of quintainref1.op. -/
import Derived.Test.YthidkkjhpdcenaaDoorTa
namespace Go.Proofs.YthidkkjhpdcenaaDoor
set_option maxRecDepth 100000
open Go.RowKit
set_option linter.unusedVariables false

theorem idx_back (w : List UInt8) (h : idx w < 16) : nameL (idx w) = w := by
  unfold nameL
  rw [List.getD, List.getElem?_eq_getElem (by show idx w < 16; exact h)]
  exact List.getElem_idxOf (by show idx w < 16; exact h)
theorem readW_none (w0 : List UInt8) (rest : List (List UInt8)) (h : ∀ j, j < 16 → nameL j ≠ w0 ∨ rest.length ≠ takesL j) : readW (w0 :: rest) = none := by
  rw [readW]
  by_cases hk : idx w0 < 16 ∧ rest.length = takesL (idx w0)
  · rcases h _ hk.1 with h1 | h1
    · exact absurd (idx_back w0 hk.1) h1
    · exact absurd hk.2 h1
  · rw [if_neg hk]
/-- Number of the document's side, by the code's words -/
theorem refnum_any (s : ByteArray) (w : World) (hs : s.size ≤ maxLen) :
    Calls Tryd.prog 34 #[.string s] w fun e w' => ∃ x b, e = .returned (.tuple #[.int .i64 x, .bool b]) ∧ w = w' ∧ Hid (b = true → numT s = some x) ∧ Hid (b = false → numT s = none) := by
  refine (refnumber_any s w hs).mono ?_
  rintro e w' ⟨rfl, rfl⟩
  refine ⟨_, _, rfl, rfl, fun hb => ?_, fun hb => ?_⟩
  · rw [num_same, if_pos hb]
  · rw [num_same, if_neg (by rw [hb]; decide)]
/-- what op answers -/
def RefOp (l : List (List UInt8)) (w : World) (e : Ending) (w' : World) : Prop :=
  ∃ (o : O4) (b : Bool), e = .returned (.tuple #[opV o, .bool b]) ∧ Below w.heap.size w w' ∧ (b = true → readW l = some o) ∧ (b = false → readW l = none)
theorem refOp_yes (w w' : World) (k : Nat) (w0 : List UInt8) (rest : List (List UInt8)) (x : Nat → Int) (ms : List Int) (hk : k < 16) (hn : nameL k = w0) (hb : Below w.heap.size w w')
    (h1 : rest.length = takesL k) (h2 : numsL rest = some ms) (h3 : holdsN x ms) : RefOp (w0 :: rest) w (.returned (.tuple #[.agg #[.int .i64 (k : Int), .int .i64 (x 0), .int .i64 (x 1), .int .i64 (x 2)], .bool true])) w' := by
  refine ⟨⟨k, x 0, x 1, x 2⟩, true, rfl, hb, fun _ => ?_, (fun h => by cases h)⟩
  rw [← hn, readW_name k hk, if_pos h1, h2, Option.map_some]
  unfold opOf
  rw [h3 0, h3 1, h3 2]
theorem refOp_no (w w' : World) (l : List (List UInt8)) (hb : Below w.heap.size w w') (h : readW l = none) : RefOp l w (.returned (.tuple #[.agg #[.int .i64 0, .int .i64 0, .int .i64 0, .int .i64 0], .bool false])) w' :=
  ⟨zeroO, false, rfl, hb, (fun h => by cases h), fun _ => h⟩
theorem readW_bad (k : Nat) (w0 : List UInt8) (rest : List (List UInt8)) (hk : k < 16) (hn : nameL k = w0) (h : numsL rest = none) : readW (w0 :: rest) = none := by
  rw [← hn, readW_name k hk, h]
  split <;> rfl

theorem str_bne_of (a b : List UInt8) (h : a ≠ b) : ((str a).toList != (str b).toList) = true := by
  rw [str_toList, str_toList, bne_iff_ne]; exact h
theorem str_bne_same (a b : List UInt8) (h : a = b) : ((str a).toList != (str b).toList) = false := by
  rw [str_toList, str_toList, h]; simp

set_option maxHeartbeats 4000000 in
theorem refop_any (A : Option Addr) (w0 : List UInt8) (rest : List (List UInt8)) (m cap B : Nat) (w : World) (hm : rest.length = m) (hr : RS w B A (w0 :: rest)) (hB : B ≤ w.heap.size) (hc : m + 1 ≤ cap) (hcm : cap ≤ maxLen) (hz : ∀ j (h : j < rest.length), (str rest[j]).size ≤ maxLen) :
    Calls Tryd.prog 24 #[.slice A (m + 1) cap] w (RefOp (w0 :: rest) w) := by
  obtain ⟨b, off, rfl, hbB, hcell0⟩ := hr (by simp)
  have HR := Lib.hid hr; clear hr hcell0
  have HM := Lib.hid hm; clear hm
  have HZ := Lib.hid hz; clear hz
  unfold maxLen at hcm
  have b0 : Below w.heap.size w (w.alloc (.cells #[.int .i64 0, .int .i64 0, .int .i64 0, .int .i64 0] 39)) := (Below.refl _ _).alloc (Nat.le_refl _) _
  have Z1 := Lib.hid (zeros4 w 39)
  go_enter Tryd.func24, Tryd.ntmps24
  go_wp2_with fail
  go_loopw [4] (fun i wr => ∃ k : Nat, i = .int .i64 k ∧ k ≤ 16 ∧ Below w.heap.size w wr ∧ Hid (wr.rowIs w.heap.size 39 4 (intF fun _ => 0)) ∧ w.heap.size < wr.heap.size ∧ Hid (∀ j, j < k → nameL j ≠ w0 ∨ rest.length ≠ takesL j)) (fun i _ => 16 - (intOf i).toNat)
  case atStart => exact ⟨0, rfl, by omega, b0, Z1, by simp, fun j hj => by omega⟩
  case round =>
    obtain ⟨k, rfl, hk, hb, R1, hsz, hno⟩ := hrel
    clear b0 Z1
    by_cases hlt : k < 16
    · have hkc : (k : Int) < 16 := by omega
      have hcell := (HR.out.below (hb.mono hB)) (by simp)
      obtain ⟨b', off', he, hbB', hcell⟩ := hcell
      have he0 := Option.some.inj he
      injection he0 with he1 he2
      subst he1 he2
      have q0 := hcell 0 (by simp)
      rw [Nat.add_zero, List.getElem_cons_zero] at q0
      obtain ⟨t, ht⟩ : ∃ t, takesL k = t := ⟨_, rfl⟩
      have ht3 : t ≤ 3 := by rw [← ht]; exact takesL_le k
      obtain ⟨nm, hnm⟩ : ∃ nm, nameL k = nm := ⟨_, rfl⟩
      have HN := Lib.hid (fun W => name_any k hlt W)
      have HK := Lib.hid (fun W => takes_any k hlt W)
      rw [hnm] at HN
      rw [ht] at HK
      have Q0 := Lib.hid q0
      have hbc : Below wr.heap.size wr wr.drew := (Below.refl _ _).drew
      have hbw : b < wr.heap.size := by have := hb.size; omega
      clear hcell he hbB'
      by_cases hname : nm = w0
      · have hq := str_ne_same w0 nm hname.symm
        have hqn := str_bne_same w0 nm hname.symm
        by_cases hlen : m = t
        · have hq2 : (((m : Int) + 1) != 1 + (t : Int)) = false := by rw [bne_eq_false_iff_eq]; omega
          have hwr : IntKind.i64.wrap (1 + (t : Int)) = 1 + (t : Int) := by rw [IntKind.wrap_i64]; omega
          have HNM := Lib.hid (show nameL k = w0 by rw [hnm]; exact hname)
          have HLN := Lib.hid (show rest.length = takesL k by rw [ht, HM.out]; exact hlen)
          have q0d : wr.drew.cell? ⟨b, off, none⟩ = some (.string (str w0)) := q0
          have HMT := Lib.hid hlen
          clear hname hnm ht hno hlen
          go_upto_region 4 with fail
          go_cut [27] (fun s27 wx => s27 = .bool false ∧ Below wr.heap.size wr wx)
          case first =>
            go_region_held3 (fun w' => w'.cell? ⟨b, off, none⟩ = some (.string (str w0))) (first | assumption | go_keep)
              (first
                | (go_at_call 17; refine (HN.out _).mono ?_; rintro e w5 ⟨rfl, b5⟩; replace hbc := hbc.trans (b5.mono hbc.size); replace q0 := (hbc.cell (p := ⟨b, off, none⟩) hbw).trans Q0.out)
                | (go_at_call 29; refine (HK.out _).mono ?_; rintro e w6 ⟨rfl, b6⟩; replace hbc := hbc.trans (b6.mono hbc.size); replace q0 := (hbc.cell (p := ⟨b, off, none⟩) hbw).trans Q0.out))
            all_goals
              go_wp2_with fail
              go_meet
              exact ⟨rfl, hbc⟩
          case rest =>
            obtain ⟨rfl, hbx⟩ := hcut
            have R2 := Lib.hid (rowIs_below R1.out hbx hsz)
            have hbz := hb.trans (hbx.mono hb.size)
            have hsz2 := Nat.lt_of_lt_of_le hsz hbx.size
            clear hbx hbc R1 hb q0 q0d hsz hbw hq hqn hq2 hwr HN
            go_wp2_with fail
            obtain ⟨W2, hW2⟩ : ∃ W2, W2 = (wc.alloc (.cells #[.int .i64 (k : Int), .int .i64 0, .int .i64 0, .int .i64 0] 39)).alloc (.cells #[.int .i64 0, .int .i64 0, .int .i64 0] 62) := ⟨_, rfl⟩
            rw [← hW2]
            have ro : W2.rowIs wc.heap.size 39 4 (opF ⟨k, 0, 0, 0⟩) := by
              rw [hW2]
              refine World.rowIs.alloc (World.rowIs_alloc wc _ 39 (opF ⟨k, 0, 0, 0⟩) (fun i hi => ?_)) _
              have hi : i < 4 := hi
              obtain rfl | rfl | rfl | rfl : i = 0 ∨ i = 1 ∨ i = 2 ∨ i = 3 := by omega
              all_goals rfl
            have rn : W2.rowIs (wc.heap.size + 1) 62 3 (intF fun _ => 0) := by
              have := zeros3 (wc.alloc (.cells #[.int .i64 (k : Int), .int .i64 0, .int .i64 0, .int .i64 0] 39)) 62
              rw [World.size_alloc] at this
              rw [hW2]; exact this
            have b2 : Below wc.heap.size wc W2 := by rw [hW2]; exact ((Below.refl _ _).alloc (Nat.le_refl _) _).alloc (by simp) _
            have RR := Lib.hid (rowIs_below R2.out b2 hsz2)
            have RO2 := Lib.hid ro; have RN2 := Lib.hid rn
            have hb5 := hbz.trans (b2.mono hbz.size)
            have HWW := Lib.hid hW2
            clear hW2 ro rn b2 hbz
            go_loopw [7] (fun i wr => ∃ (j : Nat) (x : Nat → Int) (ms : List Int), i = .int .i64 j ∧ j ≤ t ∧ Below w.heap.size w wr ∧ Hid (wr.rowIs w.heap.size 39 4 (intF fun _ => 0)) ∧ Hid (wr.rowIs wc.heap.size 39 4 (opF ⟨k, 0, 0, 0⟩)) ∧ Hid (wr.rowIs (wc.heap.size + 1) 62 3 (intF x)) ∧ Hid (numsL (rest.take j) = some ms) ∧ Hid (holdsN x ms)) (fun i _ => t - (intOf i).toNat)
            case atStart => exact ⟨0, fun _ => 0, [], rfl, by omega, hb5, RR, RO2, RN2, rfl, fun i => by simp⟩
            case round =>
              obtain ⟨j, x, ms, rfl, hj, hby, Y1, Y2, Y3, hp, hx⟩ := hrel
              clear RR RO2 RN2 hb5
              have hyz : wc.heap.size + 1 < wr.heap.size := Y3.out.lt
              by_cases hjt : j < t
              · have hjr : j < rest.length := by rw [HM.out, HMT.out]; exact hjt
                have HKK := Lib.hid (show ms.length = j by rw [numsL_len hp.out, List.length_take]; omega)
                have hjc : (j : Int) < (t : Int) := by omega
                have hj3 : (j : Int) < 3 := by omega
                have hjm : (j : Int) + 1 < (m : Int) + 1 := by have := HMT.out; omega
                have hj0 : (0 : Int) ≤ (j : Int) + 1 := by omega
                have HNM2 := Lib.hid (fun W => refnum_any (str rest[j]) W (HZ.out j hjr))
                obtain ⟨z, hz⟩ : ∃ z, str rest[j] = z := ⟨_, rfl⟩
                have HZZ := Lib.hid hz
                rw [hz] at HNM2
                clear hz
                go_wp2_with fail
                refine (HK.out _).mono ?_
                rintro e w7 ⟨rfl, hb7⟩
                have hby7 := hby.trans (hb7.mono hby.size)
                obtain ⟨b7, off7, he7, _, hcell7⟩ := (HR.out.below (hby7.mono hB)) (by simp)
                have he8 := Option.some.inj he7
                injection he8 with he9 he10
                subst he9 he10
                have q7 : w7.cell? ⟨b, off + (j + 1), none⟩ = some (.string z) := by
                  have := hcell7 (j + 1) (by simp; omega)
                  rw [List.getElem_cons_succ, HZZ.out] at this
                  exact this
                have G1 := Lib.hid (rowIs_below Y1.out hb7 (by omega)); have G2 := Lib.hid (rowIs_below Y2.out hb7 (by omega)); have G3 := Lib.hid (rowIs_below Y3.out hb7 hyz)
                have hz7 : wc.heap.size + 1 < w7.heap.size := Nat.lt_of_lt_of_le hyz hb7.size
                clear hcell7 he7 hb7 Y1 Y2 Y3 hby
                go_wp2_with fail
                refine (HNM2.out _).mono ?_
                rintro e w8 ⟨v, bb, rfl, rfl, n1, n2⟩
                cases bb with
                | false =>
                  have HF := Lib.hid (show readW (w0 :: rest) = none from readW_bad k w0 rest hlt HNM.out (numsL_stop hjr (by rw [HZZ.out]; exact n2.out rfl)))
                  have c0 := G1.out.cell (show 0 < 4 by omega); have c1 := G1.out.cell (show 1 < 4 by omega); have c2 := G1.out.cell (show 2 < 4 by omega); have c3 := G1.out.cell (show 3 < 4 by omega)
                  have f0 := G1.out.frozen 0; have f1 := G1.out.frozen 1; have f2 := G1.out.frozen 2; have f3 := G1.out.frozen 3
                  unfold intF at c0 c1 c2 c3
                  clear q7
                  go_wp2
                  refine bodyPost_ret (v := .tuple #[.agg #[.int .i64 0, .int .i64 0, .int .i64 0, .int .i64 0], .bool false]) (by simp [results, Tryd.results24, go_sem, c0, c1, c2, c3]) rfl ?_
                  refine refOp_no w _ _ ?_ HF.out
                  first | exact hby7 | ((repeat (refine Below.setCell ?_ (by simp) _)); exact hby7)
                | true =>
                  have HP := Lib.hid (numsL_step hjr hp.out (by rw [HZZ.out]; exact n1.out rfl))
                  have HX := Lib.hid (hx.out.step v j HKK.out)
                  have cc := G3.out.cell (show j < 3 by omega); have ff := G3.out.frozen j
                  clear q7
                  go_wp2
                  go_roundw
                  case rel =>
                    refine ⟨j + 1, upd x j v, ms ++ [v], by go_num, by omega, hby7.setCell (by simp; omega) _, G1.out.setOther (by simp; omega) _, G2.out.setOther (by simp) _, (G3.out.set j _).congr (fun i _ => ?_), HP, HX⟩
                    unfold intF upd
                    by_cases e : i = j
                    · simp [e]
                    · simp [e]
                  case measure => simp [intOf]; omega
              · obtain rfl : j = t := by omega
                have HF := Lib.hid (show numsL rest = some ms by have := hp.out; rwa [List.take_of_length_le (by rw [HM.out, HMT.out]; exact Nat.le_refl _)] at this)
                go_wp2_with fail
                refine (HK.out _).mono ?_
                rintro e w7 ⟨rfl, hb7⟩
                have hby7 := hby.trans (hb7.mono hby.size)
                have G1 := rowIs_below Y1.out hb7 (by omega)
                have G2 := rowIs_below Y2.out hb7 (by omega)
                have G3 := rowIs_below Y3.out hb7 hyz
                have c0 := G1.cell (show 0 < 4 by omega); have c1 := G1.cell (show 1 < 4 by omega); have c2 := G1.cell (show 2 < 4 by omega); have c3 := G1.cell (show 3 < 4 by omega)
                have f0 := G1.frozen 0; have f1 := G1.frozen 1; have f2 := G1.frozen 2; have f3 := G1.frozen 3
                have d0 : w7.cell? ⟨wc.heap.size, 0, none⟩ = some (.int .i64 (k : Int)) := G2.cell (show 0 < 4 by omega)
                have d1 : w7.cell? ⟨wc.heap.size, 1, none⟩ = some (.int .i64 0) := G2.cell (show 1 < 4 by omega)
                have d2 : w7.cell? ⟨wc.heap.size, 2, none⟩ = some (.int .i64 0) := G2.cell (show 2 < 4 by omega)
                have d3 : w7.cell? ⟨wc.heap.size, 3, none⟩ = some (.int .i64 0) := G2.cell (show 3 < 4 by omega)
                have k0 := G2.frozen 0; have k1 := G2.frozen 1; have k2 := G2.frozen 2; have k3 := G2.frozen 3
                have e0 : w7.cell? ⟨wc.heap.size + 1, 0, none⟩ = some (.int .i64 (x 0)) := G3.cell (show 0 < 3 by omega)
                have e1 : w7.cell? ⟨wc.heap.size + 1, 1, none⟩ = some (.int .i64 (x 1)) := G3.cell (show 1 < 3 by omega)
                have e2 : w7.cell? ⟨wc.heap.size + 1, 2, none⟩ = some (.int .i64 (x 2)) := G3.cell (show 2 < 3 by omega)
                unfold intF at c0 c1 c2 c3
                have hzc : w.heap.size < wc.heap.size := hsz2
                clear G1 G2 G3 Y1 Y2 Y3 hb7 hby
                go_wp2_with fail
                go_region_held3 (fun w' => w'.cell? ⟨wc.heap.size + 1, 0, none⟩ = some (.int .i64 (x 0)) ∧ w'.cell? ⟨wc.heap.size + 1, 1, none⟩ = some (.int .i64 (x 1)) ∧ w'.cell? ⟨wc.heap.size + 1, 2, none⟩ = some (.int .i64 (x 2))) (first | exact ⟨by assumption, by assumption, by assumption⟩ | go_keep) (fail)
                have HB := Lib.hid hby7; clear hby7
                go_wp2
                refine bodyPost_ret (v := .tuple #[.agg #[.int .i64 (k : Int), .int .i64 (x 0), .int .i64 (x 1), .int .i64 (x 2)], .bool true]) (by simp [results, Tryd.results24, go_sem, c0, c1, c2, c3]) rfl ?_
                refine refOp_yes w _ k w0 rest x ms hlt HNM.out ?_ HLN.out HF.out hx.out
                have hb9 := HB.out
                have hq9 : w.heap.size ≤ wc.heap.size := Nat.le_of_lt hzc
                exact (((((((hb9.setCell (p := ⟨wc.heap.size, 1, none⟩) hq9 _).setCell (p := ⟨wc.heap.size, 2, none⟩) hq9 _).setCell (p := ⟨wc.heap.size, 3, none⟩) hq9 _).setCell (p := ⟨w.heap.size, 0, none⟩) (Nat.le_refl _) _).setCell (p := ⟨w.heap.size, 1, none⟩) (Nat.le_refl _) _).setCell (p := ⟨w.heap.size, 2, none⟩) (Nat.le_refl _) _).setCell (p := ⟨w.heap.size, 3, none⟩) (Nat.le_refl _) _).drew
        · have hq2 : (((m : Int) + 1) != 1 + (t : Int)) = true := by rw [bne_iff_ne]; omega
          have hwr : IntKind.i64.wrap (1 + (t : Int)) = 1 + (t : Int) := by rw [IntKind.wrap_i64]; omega
          have HNO := Lib.hid (show ∀ j, j < k + 1 → nameL j ≠ w0 ∨ rest.length ≠ takesL j from fun j hj => by
            by_cases e : j < k
            · exact hno.out j e
            · obtain rfl : j = k := by omega
              rw [ht, HM.out]; exact .inr hlen)
          clear hname hnm ht hno
          go_wp2_with fail
          go_region_held3 (fun w' => w'.cell? ⟨b, off, none⟩ = some (.string (str w0))) (first | assumption | go_keep)
            (first
              | (go_at_call 17; refine (HN.out _).mono ?_; rintro e w5 ⟨rfl, b5⟩; replace hbc := hbc.trans (b5.mono hbc.size); replace q0 := (hbc.cell (p := ⟨b, off, none⟩) hbw).trans Q0.out)
              | (go_at_call 29; refine (HK.out _).mono ?_; rintro e w6 ⟨rfl, b6⟩; replace hbc := hbc.trans (b6.mono hbc.size); replace q0 := (hbc.cell (p := ⟨b, off, none⟩) hbw).trans Q0.out))
          all_goals
            have R2 := Lib.hid (rowIs_below R1.out hbc hsz)
            have hbz := hb.trans (hbc.mono hb.size)
            have hsz2 := Nat.lt_of_lt_of_le hsz hbc.size
            go_wp2_with fail
            go_roundw
            case rel => exact ⟨k + 1, by go_num, by omega, hbz, R2, hsz2, HNO⟩
            case measure => simp [intOf]; omega
      · have hq := str_ne_of w0 nm (fun e => hname e.symm)
        have hqn := str_bne_of w0 nm (fun e => hname e.symm)
        have HNO := Lib.hid (show ∀ j, j < k + 1 → nameL j ≠ w0 ∨ rest.length ≠ takesL j from fun j hj => by
          by_cases e : j < k
          · exact hno.out j e
          · obtain rfl : j = k := by omega
            rw [hnm]; exact .inl hname)
        clear hname hnm ht hno
        go_wp2_with fail
        have q0d : wr.drew.cell? ⟨b, off, none⟩ = some (.string (str w0)) := q0
        go_upto_region 4 with fail
        go_cut [27] (fun s27 wx => s27 = .bool true ∧ Below wr.heap.size wr wx)
        case first =>
          first
            | go_region_with (first
                | (go_at_call 17; refine (HN.out _).mono ?_; rintro e w5 ⟨rfl, b5⟩; replace hbc := hbc.trans (b5.mono hbc.size); replace q0 := (hbc.cell (p := ⟨b, off, none⟩) hbw).trans Q0.out))
            | fail
          all_goals
            go_wp2_with fail
            go_meet
            exact ⟨rfl, hbc⟩
        case rest =>
          obtain ⟨rfl, hbx⟩ := hcut
          have R2 := Lib.hid (rowIs_below R1.out hbx hsz)
          have hbz := hb.trans (hbx.mono hb.size)
          have hsz2 := Nat.lt_of_lt_of_le hsz hbx.size
          go_wp2_with fail
          go_roundw
          case rel => exact ⟨k + 1, by go_num, by omega, hbz, R2, hsz2, HNO⟩
          case measure => simp [intOf]; omega
    · obtain rfl : k = 16 := by omega
      have HF := Lib.hid (readW_none w0 rest hno.out)
      have c0 := R1.out.cell (show 0 < 4 by omega); have c1 := R1.out.cell (show 1 < 4 by omega); have c2 := R1.out.cell (show 2 < 4 by omega); have c3 := R1.out.cell (show 3 < 4 by omega)
      have f0 := R1.out.frozen 0; have f1 := R1.out.frozen 1; have f2 := R1.out.frozen 2; have f3 := R1.out.frozen 3
      unfold intF at c0 c1 c2 c3
      go_wp2
      refine bodyPost_ret (v := .tuple #[.agg #[.int .i64 0, .int .i64 0, .int .i64 0, .int .i64 0], .bool false]) (by simp [results, Tryd.results24, go_sem, c0, c1, c2, c3]) rfl ?_
      refine refOp_no w _ _ ?_ HF.out
      first | exact hb | ((repeat (refine Below.setCell ?_ (by simp) _)); exact hb)
end Go.Proofs.YthidkkjhpdcenaaDoor
