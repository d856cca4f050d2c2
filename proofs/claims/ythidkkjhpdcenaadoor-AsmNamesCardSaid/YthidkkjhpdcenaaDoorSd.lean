/- WALKS over package asm: parseOp. -/
import Derived.Test.YthidkkjhpdcenaaDoorSc
import Derived.Outline
import Derived.Deep.MidRow
import Derived.Deep.RegionHeld3
import Derived.Deep.DrawnRows
import Derived.Deep.DeepCutAuto
import Derived.RegionTactic
namespace Go.Proofs.YthidkkjhpdcenaaDoor
set_option maxRecDepth 100000
open Go.RowKit
set_option linter.unusedVariables false

/-! ### the table as a value -/
def kindsL : List Value := (List.range 16).flatMap fun k => [.string (str (nameL k)), .int .i64 (takesL k : Int)]
def kindV (k : Nat) : Value := .agg #[.string (str (nameL k)), .int .i64 (takesL k : Int)]
theorem kinds_range (w : World) (h : TabK w) : w.rangeAt 0 0 kindsL := by
  intro j v hj
  have hlt : j < 32 := by
    rcases Nat.lt_or_ge j 32 with h | h
    · exact h
    · rw [List.getElem?_eq_none (by show kindsL.length ≤ j; have : kindsL.length = 32 := by decide +kernel
                                    omega)] at hj
      cases hj
  rw [Nat.zero_add]
  obtain ⟨c1, c2⟩ := h (j / 2) (by omega)
  have key : ∀ i : Fin 16, kindsL[2 * i.1]? = some (.string (str (nameL i.1))) ∧ kindsL[2 * i.1 + 1]? = some (.int .i64 (takesL i.1 : Int)) := by
    intro i
    obtain ⟨i, hi⟩ := i
    have e : i = 0 ∨ i = 1 ∨ i = 2 ∨ i = 3 ∨ i = 4 ∨ i = 5 ∨ i = 6 ∨ i = 7 ∨ i = 8 ∨ i = 9 ∨ i = 10 ∨ i = 11 ∨ i = 12 ∨ i = 13 ∨ i = 14 ∨ i = 15 := by omega
    rcases e with rfl | rfl | rfl | rfl | rfl | rfl | rfl | rfl | rfl | rfl | rfl | rfl | rfl | rfl | rfl | rfl
    all_goals exact ⟨rfl, rfl⟩
  obtain ⟨k1, k2⟩ := key ⟨j / 2, by omega⟩
  simp only at k1 k2
  by_cases hp : j % 2 = 0
  · have e : j = 2 * (j / 2) := by omega
    rw [e] at hj ⊢
    rw [k1] at hj
    rw [c1, hj]
  · have e : j = 2 * (j / 2) + 1 := by omega
    rw [e] at hj ⊢
    rw [k2] at hj
    rw [c2, hj]
theorem load_kinds (w : World) (h : TabK w) : (Instr.loadAt 72 (.pointer (some ⟨0, 0, none⟩))).run Tryd.prog w = .ok (.agg kindsL.toArray) w :=
  run_loadAt_mid w _ 0 _ kindsL _ (kinds_range w h) Tryd.underlying72 rfl (by kernel_rfl)
theorem index_kinds (k : Nat) (hk : k < 16) (w : World) : (Instr.index 72 (.agg kindsL.toArray) (.int .i64 (k : Int))).run Tryd.prog w = .ok (.agg #[.string (str (nameL k)), .int .i64 (takesL k : Int)]) w := by
  have e : k = 0 ∨ k = 1 ∨ k = 2 ∨ k = 3 ∨ k = 4 ∨ k = 5 ∨ k = 6 ∨ k = 7 ∨ k = 8 ∨ k = 9 ∨ k = 10 ∨ k = 11 ∨ k = 12 ∨ k = 13 ∨ k = 14 ∨ k = 15 := by omega
  rcases e with rfl | rfl | rfl | rfl | rfl | rfl | rfl | rfl | rfl | rfl | rfl | rfl | rfl | rfl | rfl | rfl
  all_goals (show _ = _; kernel_rfl)

/-- what parseOp answers -/
def OpOut (s : ByteArray) (w : World) (e : Ending) (w' : World) : Prop :=
  ∃ (o : O4) (b : Bool), e = .returned (.tuple #[opV o, .bool b]) ∧ Below w.heap.size w w' ∧ (b = true → readW (wrds s) = some o) ∧ (b = false → readW (wrds s) = none)
theorem str_ne_of (a b : List UInt8) (h : a ≠ b) : ((str a).toList == (str b).toList) = false := by
  rw [str_toList, str_toList, beq_eq_false_iff_ne]; exact h
theorem str_ne_same (a b : List UInt8) (h : a = b) : ((str a).toList == (str b).toList) = true := by
  rw [str_toList, str_toList, h]; simp
theorem opOut_of (s : ByteArray) (w w' : World) (k : Nat) (w0 : List UInt8) (rest : List (List UInt8)) (x : Nat → Int) (b : Bool) (hw : wrds s = w0 :: rest) (hk : k < 16) (hn : nameL k = w0) (hb : Below w.heap.size w w')
    (h1 : b = true → rest.length = takesL k ∧ ∃ ms, numsL rest = some ms ∧ holdsN x ms) (h2 : b = false → ¬ rest.length = takesL k ∨ numsL rest = none) :
    OpOut s w (.returned (.tuple #[.agg #[.int .i64 (k : Int), .int .i64 (x 0), .int .i64 (x 1), .int .i64 (x 2)], .bool b])) w' := by
  refine ⟨⟨k, x 0, x 1, x 2⟩, b, rfl, hb, fun hb1 => ?_, fun hb1 => ?_⟩
  · obtain ⟨g1, ms, g2, g3⟩ := h1 hb1
    rw [hw, ← hn, readW_name k hk, if_pos g1, g2, Option.map_some]
    unfold opOf
    rw [g3 0, g3 1, g3 2]
  · rw [hw, ← hn, readW_name k hk]
    rcases h2 hb1 with h | h
    · rw [if_neg h]
    · rw [h]; split <;> rfl
theorem parsenumbers_named (A : Option Addr) (l : List (List UInt8)) (n cap B many : Nat) (w : World) (hn : l.length = n) (hr : RS w B A l) (hB : B ≤ w.heap.size) (hc : n ≤ cap) (hm : cap ≤ maxLen) (h3 : many ≤ 3) (hz : ∀ j (h : j < l.length), (str l[j]).size ≤ maxLen) :
    Calls Tryd.prog 45 #[.slice A n cap, .int .i64 (many : Int)] w (NumsOut l many w) := by
  subst hn; exact parsenumbers_any A l cap B many w hr hB hc hm h3 hz
theorem RS.tail {w : World} {B b off : Nat} {x : List UInt8} {l : List (List UInt8)} (h : RS w B (some ⟨b, off, none⟩) (x :: l)) : RS w B (some ⟨b, off + 1, none⟩) l := fun h0 => by
  obtain ⟨b', off', e, hlt, hc⟩ := h (by simp)
  have e2 := Option.some.inj e
  injection e2 with e3 e4
  subst e3 e4
  refine ⟨_, _, rfl, hlt, fun j hj => ?_⟩
  have := hc (j + 1) (by simp; omega)
  rw [Nat.add_assoc, Nat.add_comm 1 j]
  exact this
theorem own_cap {w : World} {base : Nat} {e : TypeId} {A : Option Addr} {n cap : Nat} {xs : List Value} (h : w.ownsRow base e 1 (.slice A n cap) n xs) : n ≤ cap ∧ cap ≤ maxLen := by
  rcases h.2 with ⟨hv, hn⟩ | ⟨g, cap', cur, hv, _, _, h1, h2, _⟩
  · injection hv with _ _ hc
    subst hc hn
    exact ⟨Nat.le_refl _, by unfold maxLen; omega⟩
  · injection hv with _ _ hc
    subst hc
    exact ⟨h1, h2⟩

set_option maxHeartbeats 800000 in
theorem parseop_any (s : ByteArray) (w : World) (hT : Tabs w) (hs : s.size ≤ 1000000) (w0 : List UInt8) (rest : List (List UInt8)) (hw : wrds s = w0 :: rest) (hz : ∀ j (h : j < rest.length), (str rest[j]).size ≤ maxLen) :
    Calls Tryd.prog 31 #[.string s] w (OpOut s w) := by
  have HW := Lib.hid (words_sl s (rest.length + 1) (by rw [hw]; rfl) (w.alloc (.cells #[.int .i64 0, .int .i64 0, .int .i64 0, .int .i64 0] 39)) (by omega))
  obtain ⟨ka, hka⟩ : ∃ ka, ka = kindsL.toArray := ⟨_, rfl⟩
  have HI := Lib.hid index_kinds
  rw [← hka] at HI
  have HE := Lib.hid hw; clear hw
  have HZ := Lib.hid hz; clear hz
  obtain ⟨m, hm⟩ : ∃ m, rest.length = m := ⟨_, rfl⟩
  rw [hm] at HW
  have HM := Lib.hid hm; clear hm
  go_enter Tryd.func31, Tryd.ntmps31
  go_wp2_with fail
  refine HW.out.mono ?_
  rintro e w1 ⟨A, c, rfl, hown, hb1⟩
  have HR := Lib.hid (kinds_range w1 (hT.next (((Below.refl _ _).alloc (Nat.le_refl _) _).trans (hb1.mono (by simp)))).1)
  have HK := Lib.hid hka
  clear hka
  go_wp2_with (with_reducible refine wpList_load_mid rfl 72 (.global 0) rfl 0 0 (by with_unfolding_all rfl) kindsL _ HR.out Tryd.underlying72 rfl (by kernel_rfl) ?_)
  rw [← HK.out]
  obtain ⟨g1, g2⟩ := own_cap hown
  rw [HE.out] at hown
  have HO := Lib.hid (RS.own (l := w0 :: rest) hown (by rw [List.length_cons, HM.out]))
  have b1 : Below w.heap.size w w1 := ((Below.refl _ _).alloc (Nat.le_refl _) _).trans (hb1.mono (by simp))
  have z1 : w1.rowIs w.heap.size 39 4 (intF fun _ => 0) := rowIs_below (zeros4 w 39) hb1 (by simp)
  have hs1 : w.heap.size + 1 ≤ w1.heap.size := by have := hb1.size; simp at this; omega
  have Z1 := Lib.hid z1
  unfold maxLen at g2
  clear hown hb1 HR HW z1
  go_loopw [12] (fun i wr => ∃ k : Nat, i = .int .i64 k ∧ k ≤ 16 ∧ Below w1.heap.size w1 wr ∧ Hid (∀ j, j < k → nameL j ≠ w0)) (fun i _ => 16 - (intOf i).toNat)
  case atStart => exact ⟨0, rfl, by omega, Below.refl _ _, fun j hj => by omega⟩
  case round =>
    obtain ⟨k, rfl, hk, hb, hno⟩ := hrel
    by_cases hlt : k < 16
    · have hkc : (k : Int) < 16 := by omega
      have hix := HI.out k hlt wr
      obtain ⟨t, ht⟩ : ∃ t, takesL k = t := ⟨_, rfl⟩
      have ht3 : t ≤ 3 := by rw [← ht]; exact takesL_le k
      rw [ht] at hix
      have HTK := Lib.hid ht; clear ht
      obtain ⟨nm, hnm⟩ : ∃ nm, nameL k = nm := ⟨_, rfl⟩
      rw [hnm] at hix
      have hbk : Below w1.heap.size w1 (wr.alloc (.cells #[.string (str nm), .int .i64 (t : Int)] 71)) := hb.alloc hb.size _
      obtain ⟨b, off, rfl, hbB, hcell⟩ := (HO.out.below hbk) (by simp)
      have q0 := hcell 0 (by simp)
      rw [Nat.add_zero, List.getElem_cons_zero] at q0
      have hsw := hb.size
      clear hcell
      by_cases hname : nm = w0
      · have hq := str_ne_same nm w0 hname
        have HN := Lib.hid (show nameL k = w0 by rw [hnm]; exact hname)
        clear hname hnm
        go_wp2_with fail
        go_quiet (fail)
        obtain ⟨W, hW⟩ : ∃ W : World, W = (wr.alloc (.cells #[.string (str nm), .int .i64 (t : Int)] 71)).drewN nq := ⟨_, rfl⟩
        have hbW : Below w1.heap.size w1 W := by rw [hW]; exact below_drewN hbk nq
        have p1 : W.cell? ⟨wr.heap.size, 1, none⟩ = some (.int .i64 (t : Int)) := by rw [hW]; simp
        have hsW : wr.heap.size < W.heap.size := by rw [hW]; simp
        rw [← hW]
        have hRS := (HO.out.below hbW).tail
        have hN : ∀ W', Below W.heap.size W W' → Calls Tryd.prog 45 #[.slice (some ⟨b, off + 1, none⟩) m (c - 1), .int .i64 (t : Int)] W' (NumsOut rest t W') := fun W' hW' =>
          parsenumbers_named _ rest m (c - 1) w1.heap.size t W' HM.out (hRS.below (hW'.mono hbW.size)) (Nat.le_trans hbW.size hW'.size) (by omega) (by unfold maxLen; omega) ht3 HZ.out
        have hN0 : c = 1 → ∀ W', Below W.heap.size W W' → Calls Tryd.prog 45 #[.slice (some ⟨b, off, none⟩) m 0, .int .i64 (t : Int)] W' (NumsOut rest t W') := fun hc W' hW' =>
          parsenumbers_named _ rest m 0 0 t W' HM.out (fun h0 => absurd h0 (by have := HM.out; omega)) (Nat.zero_le _) (by omega) (by unfold maxLen; omega) ht3 HZ.out
        have HNN := Lib.hid hN
        have HN0 := Lib.hid hN0
        have HWW := Lib.hid hW
        have P1 := Lib.hid p1
        clear hN hN0 hRS hW q0 hno
        go_upto_region 6 with fail
        go_cut [4, 7, 8, 10] (fun s4 s7 s8 s10 wx => ∃ (x : Nat → Int) (bb : Bool) (g : Nat), s7 = .pointer (some ⟨g, 0, none⟩) ∧ s8 = .bool bb ∧ W.heap.size ≤ g ∧ g < wx.heap.size ∧ wx.cell? ⟨g, 0, none⟩ = some (.int .i64 (x 0)) ∧ wx.cell? ⟨g, 1, none⟩ = some (.int .i64 (x 1)) ∧ wx.cell? ⟨g, 2, none⟩ = some (.int .i64 (x 2)) ∧
            Below W.heap.size W wx ∧ Hid (bb = true → rest.length = t ∧ ∃ ms, numsL rest = some ms ∧ holdsN x ms) ∧ Hid (bb = false → ¬ rest.length = t ∨ numsL rest = none))
        case first =>
          by_cases hc1 : c = 1
          · have g3 : (1 : Int) ≤ ((m + 1 : Nat) : Int) := by omega
            have g4 : (1 : Int) ≤ (m : Int) + 1 := by omega
            have hbc : Below W.heap.size W W.drew := (Below.refl _ _).drew
            have hbA : Below W.heap.size W (W.alloc (.cells #[.int .i64 0, .int .i64 0, .int .i64 0] 62)).drew := ((Below.refl _ _).alloc (Nat.le_refl _) _).drew
            have hzd : (W.alloc (.cells #[.int .i64 0, .int .i64 0, .int .i64 0] 62)).drew.rowIs W.heap.size 62 3 (intF fun _ => 0) := zeros3 W 62
            have HZD := Lib.hid hzd; clear hzd
            have hnn := World.new_ne W ⟨wr.heap.size, 1, none⟩ P1.out
            go_region_held3 (fun w' => w'.cell? ⟨wr.heap.size, 1, none⟩ = some (.int .i64 (t : Int))) (first | assumption | go_keep)
              (first
                | (go_at_call 45; (with_reducible refine (HN0.out hc1 _ hbc).mono ?_); rintro e w5 ⟨x, bb, rfl, b5, n1, n2⟩; have hbx := hbc.trans (b5.mono hbc.size); replace p1 := (hbx.cell (p := ⟨wr.heap.size, 1, none⟩) (show wr.heap.size < _ by omega)).trans P1.out)
                | (go_at_call 45; (with_reducible refine (HN0.out hc1 _ hbA).mono ?_); rintro e w5 ⟨x, bb, rfl, b5, n1, n2⟩; have hbx := hbA.trans (b5.mono hbA.size); replace p1 := (hbx.cell (p := ⟨wr.heap.size, 1, none⟩) (show wr.heap.size < _ by omega)).trans P1.out; have hz0 := rowIs_below HZD.out b5 (by simp); have hg5 : W.heap.size < w5.heap.size := (by have := b5.size; simp at this; omega); have e0 := hz0.cell (show 0 < 3 by omega); have e1 := hz0.cell (show 1 < 3 by omega); have e2 := hz0.cell (show 2 < 3 by omega); have f0 := hz0.frozen 0; have f1 := hz0.frozen 1; have f2 := hz0.frozen 2))
            all_goals
              go_wp2_with fail
              go_meet
              refine ⟨x, bb, _, rfl, rfl, ?_, ?_, ?_, ?_, ?_, ?_, n1, n2⟩
              · first | exact Nat.le_refl _ | exact hbx.size
              · first | (simp; done) | (simp; omega)
              · go_simp
              · go_simp
              · go_simp
              · repeat (first | exact hbx | refine Below.setCell ?_ (by first | exact Nat.le_refl _ | (simp; done) | (simp; omega)) _ | refine Below.alloc ?_ (by first | exact hbx.size | (simp; omega)) _)
          · have g3 : (1 : Int) ≤ ((m + 1 : Nat) : Int) := by omega
            have g4 : (1 : Int) ≤ (m : Int) + 1 := by omega
            have hbc : Below W.heap.size W W.drew := (Below.refl _ _).drew
            have hbA : Below W.heap.size W (W.alloc (.cells #[.int .i64 0, .int .i64 0, .int .i64 0] 62)).drew := ((Below.refl _ _).alloc (Nat.le_refl _) _).drew
            have hzd : (W.alloc (.cells #[.int .i64 0, .int .i64 0, .int .i64 0] 62)).drew.rowIs W.heap.size 62 3 (intF fun _ => 0) := zeros3 W 62
            have HZD := Lib.hid hzd; clear hzd
            have hnn := World.new_ne W ⟨wr.heap.size, 1, none⟩ P1.out
            go_region_held3 (fun w' => w'.cell? ⟨wr.heap.size, 1, none⟩ = some (.int .i64 (t : Int))) (first | assumption | go_keep)
              (first
                | (go_at_call 45; (with_reducible refine (HNN.out _ hbc).mono ?_); rintro e w5 ⟨x, bb, rfl, b5, n1, n2⟩; have hbx := hbc.trans (b5.mono hbc.size); replace p1 := (hbx.cell (p := ⟨wr.heap.size, 1, none⟩) (show wr.heap.size < _ by omega)).trans P1.out)
                | (go_at_call 45; (with_reducible refine (HNN.out _ hbA).mono ?_); rintro e w5 ⟨x, bb, rfl, b5, n1, n2⟩; have hbx := hbA.trans (b5.mono hbA.size); replace p1 := (hbx.cell (p := ⟨wr.heap.size, 1, none⟩) (show wr.heap.size < _ by omega)).trans P1.out; have hz0 := rowIs_below HZD.out b5 (by simp); have hg5 : W.heap.size < w5.heap.size := (by have := b5.size; simp at this; omega); have e0 := hz0.cell (show 0 < 3 by omega); have e1 := hz0.cell (show 1 < 3 by omega); have e2 := hz0.cell (show 2 < 3 by omega); have f0 := hz0.frozen 0; have f1 := hz0.frozen 1; have f2 := hz0.frozen 2))
            all_goals
              go_wp2_with fail
              go_meet
              refine ⟨x, bb, _, rfl, rfl, ?_, ?_, ?_, ?_, ?_, ?_, n1, n2⟩
              · first | exact Nat.le_refl _ | exact hbx.size
              · first | (simp; done) | (simp; omega)
              · go_simp
              · go_simp
              · go_simp
              · repeat (first | exact hbx | refine Below.setCell ?_ (by first | exact Nat.le_refl _ | (simp; done) | (simp; omega)) _ | refine Below.alloc ?_ (by first | exact hbx.size | (simp; omega)) _)
        case rest =>
          obtain ⟨x, bb, g, rfl, rfl, hg1, hg2, e0, e1, e2, hbx, n1, n2⟩ := hcut
          have hb3 : Below w1.heap.size w1 wc := hbW.trans (hbx.mono hbW.size)
          have c1 := rowIs_below Z1.out hb3 (by omega)
          have c10 := c1.cell (show 0 < 4 by omega); have c11 := c1.cell (show 1 < 4 by omega); have c12 := c1.cell (show 2 < 4 by omega); have c13 := c1.cell (show 3 < 4 by omega)
          have f0 := c1.frozen 0; have f1 := c1.frozen 1; have f2 := c1.frozen 2; have f3 := c1.frozen 3
          unfold intF at c10 c11 c12 c13
          have hb4 := b1.trans (hb3.mono (by omega))
          have HB4 := Lib.hid hb4
          clear c1 hb3 hb4 hbx hbk hbW hb
          go_wp2
          refine bodyPost_ret (v := .tuple #[.agg #[.int .i64 (k : Int), .int .i64 (x 0), .int .i64 (x 1), .int .i64 (x 2)], .bool bb]) (by simp [results, Tryd.results31, go_sem, c10, c11, c12, c13]) rfl ?_
          refine opOut_of s w _ k w0 rest x bb HE.out hlt HN.out ?_ (by rw [HTK.out]; exact n1.out) (by rw [HTK.out]; exact n2.out)
          have hb2 := HB4.out
          first | exact hb2 | ((repeat (refine Below.setCell ?_ (by simp) _)); exact hb2)
      · have hq := str_ne_of nm w0 hname
        have HN := Lib.hid (show ∀ j, j < k + 1 → nameL j ≠ w0 from fun j hj => by
          by_cases e : j < k
          · exact hno.out j e
          · obtain rfl : j = k := by omega
            rw [hnm]; exact hname)
        clear hname hnm hno
        go_wp2_with fail
        go_quiet (fail)
        go_wp2_with fail
        go_roundw
        case rel => exact ⟨k + 1, by go_num, by omega, below_drewN hbk _, HN⟩
        case measure => simp [intOf]; omega
    · obtain rfl : k = 16 := by omega
      have HF := Lib.hid (show readW (wrds s) = none by
        rw [HE.out, readW, idx_none w0 hno.out, if_neg (by omega)])
      have c1 := rowIs_below Z1.out hb (by omega)
      have c10 := c1.cell (show 0 < 4 by omega); have c11 := c1.cell (show 1 < 4 by omega); have c12 := c1.cell (show 2 < 4 by omega); have c13 := c1.cell (show 3 < 4 by omega)
      have f0 := c1.frozen 0; have f1 := c1.frozen 1; have f2 := c1.frozen 2; have f3 := c1.frozen 3
      unfold intF at c10 c11 c12 c13
      clear c1
      go_wp2
      refine bodyPost_ret (v := .tuple #[opV zeroO, .bool false]) (by simp [results, Tryd.results31, go_sem, c10, c11, c12, c13, opV, zeroO]) rfl ?_
      refine ⟨zeroO, false, rfl, ?_, (fun h => by cases h), fun _ => HF.out⟩
      have hb2 := b1.trans (hb.mono (by omega))
      first | exact hb2 | ((repeat (refine Below.setCell ?_ (by simp) _)); exact hb2)
end Go.Proofs.YthidkkjhpdcenaaDoor
