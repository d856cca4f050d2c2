/- WALK of the law CodeOwn. -/
import Derived.Test.YtjjhdbcekkmjfaaOs
import Derived.Outline
namespace Go.Proofs.Ytjjhdbcekkmjfaa
open Go.RowKit
set_option linter.unusedVariables false
attribute [local go_sem ↓] Go.wp_at_zero Go.wp_at_succ

theorem only_setCell {a w : World} {g : Nat} (h : a.grownBy w (some g)) (k : Nat) (u : Value) : a.grownBy (w.setCell ⟨g, k, none⟩ u) (some g) :=
  ⟨h.os, h.tape, h.output, by simpa [World.setCell] using h.size, fun i hi hne => (Below.heap_setCell w ⟨g, k, none⟩ u i (by
    rintro rfl
    exact hne rfl)).trans (h.block i hi hne)⟩
theorem opsF_set (o : O4) (r : List O4) (v : Int) (i : Nat) : (if i = 1 then Value.int .i64 v else opsF (o :: r) i) = opsF (⟨o.k, v, o.b, o.c⟩ :: r) i := by
  unfold opsF
  by_cases h : i / 4 = 0
  · rw [h]
    have h4 : i = 0 ∨ i = 1 ∨ i = 2 ∨ i = 3 := by omega
    rcases h4 with rfl | rfl | rfl | rfl <;> rfl
  · obtain ⟨j, hj⟩ : ∃ j, i / 4 = j + 1 := ⟨i / 4 - 1, by omega⟩
    rw [hj, if_neg (by omega)]
    rfl
theorem set_head {y : List O4} {o : O4} (h : 0 < y.length) (ho : y[0] = o) (o' : O4) : ∃ r, y = o :: r ∧ y.set 0 o' = o' :: r := by
  match y, h with
  | p :: r, _ => exact ⟨r, by rw [← ho]; rfl, rfl⟩
theorem u8_next (b : UInt8) : IntKind.u8.wrap ((b.toNat : Int) + 1) = ((b + 1).toNat : Int) := by
  rw [IntKind.wrap_u8, UInt8.toNat_add]
  have := b.toNat_lt
  show _ = (((b.toNat + 1) % 256 : Nat) : Int)
  omega
set_option maxHeartbeats 4000000 in
theorem own_law (t : ByteArray) (A : Option Addr) (x : List O4) (c : Nat) (w : World) (h1 : RO w w.heap.size A x) (k1 : x.length ≤ c) (m1 : c ≤ maxLen) :
    Calls Try.prog 8 #[progV t A x.length c] w fun e w' => e = .returned (.bool true) ∧ Below w.heap.size w w' := by
  have H1 := Lib.hid h1; clear h1
  unfold progV
  have b0 : Below w.heap.size w (w.alloc (.cells #[.string t, .slice A x.length c] 24)) := (Below.refl _ _).alloc (Nat.le_refl _) _
  have h30 : Hid ((30 : Int) = ((30 : Nat) : Int)) := by unfold Hid; omega
  have C1 := fun W => lcut_named t A x c 30 30 h30 W (by omega) (by omega) k1 m1
  have HC1 := Lib.hid C1; clear C1
  go_enter Try.func8, Try.ntmps8
  go_wp2_with fail
  refine (begun_any _).mono ?_
  rintro e w1 ⟨rfl, hb1⟩
  obtain ⟨hc0, hc1, hf0, hf1⟩ := two_cells hb1 (by simp)
  have hb2 := b0.trans (hb1.mono (by simp))
  have hs1 := hb1.size
  rw [World.size_alloc] at hs1
  clear hb1 b0
  go_wp2_with fail
  refine (HC1.out _).mono ?_
  rintro e w2 ⟨u, y, hu, hy, rfl, hb3⟩
  have d0 := (hb3.cell (p := ⟨w.heap.size, 0, none⟩) (show w.heap.size < _ by omega)).trans hc0
  have d1 := (hb3.cell (p := ⟨w.heap.size, 1, none⟩) (show w.heap.size < _ by omega)).trans hc1
  have e0 := (hb3.frozen (p := ⟨w.heap.size, 0, none⟩) (show w.heap.size < _ by omega)).trans hf0
  have e1 := (hb3.frozen (p := ⟨w.heap.size, 1, none⟩) (show w.heap.size < _ by omega)).trans hf1
  have hb4 := hb2.trans (hb3.mono hb2.size)
  have hs2 := Nat.le_trans hs1 hb3.size
  clear hc0 hc1 hf0 hf1 hb2 hb3
  obtain ⟨s0, s1, sb, sz⟩ := stored2 (u := .string u) (v := .slice A y.length c) d0 d1 w.heap.size (Nat.le_refl _)
  have hbW := hb4.trans sb
  have hyl : y.length ≤ c := by rw [hy.out, List.length_take]; omega
  have hut : u.size ≤ 40 := by rw [hu.out]; exact cutT_size _
  have R0 := Lib.hid (show RO ((w2.setCell ⟨w.heap.size, 0, none⟩ (.string u)).setCell ⟨w.heap.size, 1, none⟩ (.slice A y.length c)) w.heap.size A y by have r0 := (H1.out.below hbW).take 30; rw [← hy.out] at r0; exact r0)
  have HE := Lib.hid (refencode_any u A y c w.heap.size ((w2.setCell ⟨w.heap.size, 0, none⟩ (.string u)).setCell ⟨w.heap.size, 1, none⟩ (.slice A y.length c)) R0.out (by rw [sz]; omega) hyl m1 (by omega))
  have SZ := Lib.hid sz; have S0 := Lib.hid s0; have S1 := Lib.hid s1
  clear s0 s1 sz sb HC1 hb4 H1
  unfold progV at HE
  go_wp2_with fail
  (with_reducible refine HE.out.mono ?_)
  rintro e w4 ⟨v, rfl, ho, hb5⟩
  obtain ⟨l, hl⟩ : ∃ l, encB u y = l := ⟨_, rfl⟩
  rw [hl] at ho
  obtain ⟨A4, c4, rfl, hc4, hm4, hr4⟩ := ho.form _ rfl
  have p0 := (hb5.cell (p := ⟨w.heap.size, 0, none⟩) (show w.heap.size < _ by have := SZ.out; omega)).trans S0.out
  have p1 := (hb5.cell (p := ⟨w.heap.size, 1, none⟩) (show w.heap.size < _ by have := SZ.out; omega)).trans S1.out
  have hs4 : w.heap.size + 1 ≤ w4.heap.size := by have := SZ.out; have := hb5.size; omega
  have R4 := Lib.hid (R0.out.below (hb5.mono (by have := SZ.out; omega)))
  have hb6 := hbW.trans (hb5.mono (by have := SZ.out; omega))
  have hsm := encB_small (u := u) (y := y) hut
  rw [hl] at hsm
  have HS := Lib.hid hsm
  have HO := Lib.hid ho; have HL := Lib.hid hl
  have HR4 := Lib.hid hr4
  clear ho hl hr4 hb5 R0 hbW SZ HE d0 d1 e0 e1 hsm
  by_cases z1 : l = []
  · subst z1
    go_wp2_with fail
    go_ret
    exact ⟨rfl, hb6⟩
  have q1 : ((l.length : Int) == 0) = false := by simp; exact z1
  have hpos : 0 < l.length := List.length_pos_iff.2 z1
  have hfit := encB_fits (t := u) (os := y) (by rw [HL.out]; exact z1)
  have hf2 := (fitsB_iff _ _).1 hfit
  have hy1 := hf2.2.1
  have HFit := Lib.hid hf2.2.2.2
  have HY := Lib.hid hf2.2.2.1
  have Z1 := Lib.hid z1; clear z1 hfit hf2
  have hl0 : ([] : List UInt8).length + l.length ≤ 140737488355328 := by have := HS.out; simp; omega
  have L0 := Lib.hid hl0; clear hl0
  have rb4 := HR4.out
  go_wp2_with (at_builtin; refine wpList_append_bytes rfl (.const (.slice none 0 0)) (.tmp 21) rfl w4.heap.size (.slice none 0 0) [] l rfl (OB.nil _ _) w4.heap.size A4 c4 rfl rb4 L0.out (Nat.le_refl _) ?_; intro v5 w5 o5 g5 e5; rw [List.nil_append] at o5; obtain ⟨gc, cc, rfl, hgc, hcc, hmc⟩ := o5.some_ hpos; have hb7 : Below w4.heap.size w4 w5 := (Below.refl _ _).grown g5 (Nat.le_refl _) (by simp [Value.ownBlock]); have hgl := (World.ownsRow.lt o5 gc rfl).2; have HO5 := Lib.hid o5; clear o5 g5 e5)
  have HD := Lib.hid (unpack_own HL.out Z1.out hut (some ⟨gc, 0, none⟩) cc w5.heap.size w5 HO5.out.cells (Nat.le_refl _) hcc hmc)
  (with_reducible refine HD.out.mono ?_)
  rintro e w6 ⟨g, rfl, hg, hrow, hb8⟩
  have hgg : g < w6.heap.size := World.rowIs.lt hrow
  have hs5 := hb7.size
  have hs6 := hb8.size
  have bq : Below w6.heap.size w6 (w6.alloc (.cells #[.string u, .slice (some ⟨g, 0, none⟩) y.length y.length] 24)) := (Below.refl _ _).alloc (Nat.le_refl _) _
  have hrow6 : OpRow (w6.alloc (.cells #[.string u, .slice (some ⟨g, 0, none⟩) y.length y.length] 24)) g y.length y := rowIs_below hrow bq hgg
  have hb9 : Below w4.heap.size w4 (w6.alloc (.cells #[.string u, .slice (some ⟨g, 0, none⟩) y.length y.length] 24)) := hb7.trans ((hb8.trans (bq.mono hs6)).mono hs5)
  have ho6 : OB (w6.alloc (.cells #[.string u, .slice (some ⟨g, 0, none⟩) y.length y.length] 24)) w4.heap.size (.slice (some ⟨gc, 0, none⟩) l.length cc) l := HO5.out.below (hb8.trans (bq.mono hs6)) (Nat.le_refl _)
  have x0 : (w6.alloc (.cells #[.string u, .slice (some ⟨g, 0, none⟩) y.length y.length] 24)).cell? ⟨w6.heap.size, 0, none⟩ = some (.string u) := by simp
  have x1 : (w6.alloc (.cells #[.string u, .slice (some ⟨g, 0, none⟩) y.length y.length] 24)).cell? ⟨w6.heap.size, 1, none⟩ = some (.slice (some ⟨g, 0, none⟩) y.length y.length) := by simp
  have hsq : (w6.alloc (.cells #[.string u, .slice (some ⟨g, 0, none⟩) y.length y.length] 24)).heap.size = w6.heap.size + 1 := by simp
  have X0 := Lib.hid x0; have X1 := Lib.hid x1; have HSQ := Lib.hid hsq; have HB9 := Lib.hid hb9; have HR6 := Lib.hid hrow6; have HO6 := Lib.hid ho6
  have HO6' := Lib.hid (ho6.less (b' := w4.heap.size) (Nat.le_refl _))
  clear x0 x1 hsq hb9 hrow6 ho6 bq hb8 hrow HD rb4 hb7
  have hmc2 := hmc
  unfold maxLen at hmc2
  go_wp2_with fail
  go_loopw [8] (fun i wr => ∃ (k : Nat) (l' : List UInt8), i = .int .i64 k ∧ k ≤ l.length ∧ Hid (l'.length = l.length) ∧ Hid (OB wr w4.heap.size (.slice (some ⟨gc, 0, none⟩) l.length cc) l') ∧ (w6.alloc (.cells #[.string u, .slice (some ⟨g, 0, none⟩) y.length y.length] 24)).grownBy wr (some gc)) (fun i _ => l.length - (intOf i).toNat)
  case atStart => exact ⟨0, l, rfl, by omega, rfl, HO6.out, World.grownBy.refl _ _⟩
  case round =>
    obtain ⟨k, l', rfl, hk, hl', ho, hgr⟩ := hrel
    by_cases hlt : k < l.length
    · have u1 := ho.out.cell_at hl'.out k (by rw [hl'.out]; exact hlt)
      have u2 := ho.out.frozen_at hl'.out k
      obtain ⟨b, hb⟩ : ∃ b, l'[k]'(by rw [hl'.out]; exact hlt) = b := ⟨_, rfl⟩
      rw [hb] at u1
      unfold vb at u1
      have hn := u8_next b
      have hk0 : (0 : Int) ≤ (k : Int) := by omega
      have hk1 : (k : Int) < (l.length : Int) := by omega
      have HB := Lib.hid hb; clear hb
      go_wp2_with fail
      go_roundw
      case rel =>
        exact ⟨k + 1, l'.set k (b + 1), by go_num, by omega, by have := hl'.out; unfold Hid; rw [List.length_set]; exact this, OB.set ho.out hl'.out k (b + 1), only_setCell hgr k _⟩
      case measure => simp [intOf]; omega
    · obtain rfl : k = l.length := by omega
      have hs10 := hgr.size
      rw [HSQ.out] at hs10
      have hbr : Below w4.heap.size w4 wr := HB9.out.grown hgr HB9.out.size (fun j hj => by injection hj with hj; omega)
      have q0 : wr.cell? ⟨w6.heap.size, 0, none⟩ = some (.string u) := hgr.cell X0.out (fun e => by injection e with e; simp at e; omega)
      have q1' : wr.cell? ⟨w6.heap.size, 1, none⟩ = some (.slice (some ⟨g, 0, none⟩) y.length y.length) := hgr.cell X1.out (fun e => by injection e with e; simp at e; omega)
      have hrowq : OpRow wr g y.length y := World.rowIs.of_block HR6.out (hgr.block g (by rw [HSQ.out]; omega) (fun e => by injection e with e; omega))
      have HD2 := Lib.hid (unpack_own HL.out Z1.out hut A4 c4 w4.heap.size wr (HR4.out.below hbr) hbr.size hc4 hm4)
      clear HO6 HO6' ho hgr X0 X1 HR6 HO5
      go_wp2_with fail
      (with_reducible refine HD2.out.mono ?_)
      rintro e w11 ⟨gr, rfl, hgr2, hrowr, hb11⟩
      have hgrl : gr < w11.heap.size := World.rowIs.lt hrowr
      have hs11 := hb11.size
      have br : Below w11.heap.size w11 (w11.alloc (.cells #[.string u, .slice (some ⟨gr, 0, none⟩) y.length y.length] 24)) := (Below.refl _ _).alloc (Nat.le_refl _) _
      have bR : Below wr.heap.size wr (w11.alloc (.cells #[.string u, .slice (some ⟨gr, 0, none⟩) y.length y.length] 24)) := hb11.trans (br.mono hs11)
      have hsR : (w11.alloc (.cells #[.string u, .slice (some ⟨gr, 0, none⟩) y.length y.length] 24)).heap.size = w11.heap.size + 1 := by simp
      have HSR := Lib.hid hsR
      have hb4R : Below w4.heap.size w4 (w11.alloc (.cells #[.string u, .slice (some ⟨gr, 0, none⟩) y.length y.length] 24)) := hbr.trans (bR.mono hbr.size)
      have rowq : OpRow (w11.alloc (.cells #[.string u, .slice (some ⟨gr, 0, none⟩) y.length y.length] 24)) g y.length y := rowIs_below hrowq bR (by omega)
      have rowr : OpRow (w11.alloc (.cells #[.string u, .slice (some ⟨gr, 0, none⟩) y.length y.length] 24)) gr y.length y := rowIs_below hrowr br hgrl
      have pp0 := (hb4R.cell (p := ⟨w.heap.size, 0, none⟩) (show w.heap.size < _ by omega)).trans p0
      have pp1 := (hb4R.cell (p := ⟨w.heap.size, 1, none⟩) (show w.heap.size < _ by omega)).trans p1
      have qq0 := (bR.cell (p := ⟨w6.heap.size, 0, none⟩) (show w6.heap.size < _ by omega)).trans q0
      have qq1 := (bR.cell (p := ⟨w6.heap.size, 1, none⟩) (show w6.heap.size < _ by omega)).trans q1'
      have RP := Lib.hid (R4.out.below (hb4R.mono (by omega)))
      have ROWQ := Lib.hid rowq; have ROWR := Lib.hid rowr
      have hyc : y.length ≤ maxLen := by have := HY.out; unfold maxLen; omega
      have HE1 := Lib.hid (eqprog_any u u (some ⟨g, 0, none⟩) A y y y.length c w11.heap.size (w11.alloc (.cells #[.string u, .slice (some ⟨gr, 0, none⟩) y.length y.length] 24)) (OpRow.reads rowq (Nat.le_refl _) _ (by omega)) (RP.out.more (by omega)) (by rw [hsR]; omega) (Nat.le_refl _) hyl hyc m1 true (by simp))
      unfold progV at HE1
      have HB4R := Lib.hid hb4R
      clear hb11 br bR hsR hb4R rowq rowr hrowq hrowr q0 q1' HD2
      go_wp2_with fail
      (with_reducible refine HE1.out.mono ?_)
      rintro e w12 ⟨rfl, hb12⟩
      have hs12 := hb12.size
      rw [HSR.out] at hs12
      have rq12 : OpRow w12 g y.length y := rowIs_below ROWQ.out hb12 (by rw [HSR.out]; omega)
      have rr12 : OpRow w12 gr y.length y := rowIs_below ROWR.out hb12 (by rw [HSR.out]; omega)
      have qz1 := (hb12.cell (p := ⟨w6.heap.size, 1, none⟩) (by rw [HSR.out]; show w6.heap.size < _; omega)).trans qq1
      have qz0 := (hb12.cell (p := ⟨w6.heap.size, 0, none⟩) (by rw [HSR.out]; show w6.heap.size < _; omega)).trans qq0
      have pz0 := (hb12.cell (p := ⟨w.heap.size, 0, none⟩) (by rw [HSR.out]; show w.heap.size < _; omega)).trans pp0
      have pz1 := (hb12.cell (p := ⟨w.heap.size, 1, none⟩) (by rw [HSR.out]; show w.heap.size < _; omega)).trans pp1
      obtain ⟨o, hoo⟩ : ∃ o, y[0]'(by omega) = o := ⟨_, rfl⟩
      have hga : w12.cell? ⟨g, 1, none⟩ = some (.int .i64 o.a) := by
        have := World.rowIs.cell rq12 (show 1 < y.length * 4 by omega)
        have e := opsF_at y 0 1 (by omega) (by omega)
        rw [hoo] at e
        simp only [Nat.zero_mul, Nat.zero_add] at e
        rw [e] at this
        exact this
      have hgf := World.rowIs.frozen rq12 1
      have hsmo : smlO o := by rw [← hoo]; exact HFit.out _ (List.getElem_mem _)
      obtain ⟨hs1', hs2'⟩ := hsmo.2.1
      have hi0 : (0 : Int) < (y.length : Int) := by omega
      have hi1 : 0 < y.length := by omega
      have HOO := Lib.hid hoo; have RQ12 := Lib.hid rq12; have RR12 := Lib.hid rr12
      have hb13 : Below w4.heap.size w4 w12 := HB4R.out.trans (hb12.mono HB4R.out.size)
      have rz0 := (hb12.cell (p := ⟨w11.heap.size, 0, none⟩) (by rw [HSR.out]; show w11.heap.size < _; omega)).trans (show (w11.alloc (.cells #[.string u, .slice (some ⟨gr, 0, none⟩) y.length y.length] 24)).cell? ⟨w11.heap.size, 0, none⟩ = some (.string u) by simp)
      have rz1 := (hb12.cell (p := ⟨w11.heap.size, 1, none⟩) (by rw [HSR.out]; show w11.heap.size < _; omega)).trans (show (w11.alloc (.cells #[.string u, .slice (some ⟨gr, 0, none⟩) y.length y.length] 24)).cell? ⟨w11.heap.size, 1, none⟩ = some (.slice (some ⟨gr, 0, none⟩) y.length y.length) by simp)
      clear hoo hsmo rq12 rr12 pp0 pp1 qq0 qq1 hb12
      have a0 : (w12.setCell ⟨g, 1, none⟩ (.int .i64 (o.a + 1))).cell? ⟨w.heap.size, 0, none⟩ = some (.string u) := (World.cell?_setCell_other w12 ⟨g, 1, none⟩ ⟨w.heap.size, 0, none⟩ _ (fun e => by injection e with e; omega)).trans pz0
      have a1 : (w12.setCell ⟨g, 1, none⟩ (.int .i64 (o.a + 1))).cell? ⟨w.heap.size, 1, none⟩ = some (.slice A y.length c) := (World.cell?_setCell_other w12 ⟨g, 1, none⟩ ⟨w.heap.size, 1, none⟩ _ (fun e => by injection e with e; omega)).trans pz1
      have b0 : (w12.setCell ⟨g, 1, none⟩ (.int .i64 (o.a + 1))).cell? ⟨w6.heap.size, 0, none⟩ = some (.string u) := (World.cell?_setCell_other w12 ⟨g, 1, none⟩ ⟨w6.heap.size, 0, none⟩ _ (fun e => by injection e with e; omega)).trans qz0
      have b1 : (w12.setCell ⟨g, 1, none⟩ (.int .i64 (o.a + 1))).cell? ⟨w6.heap.size, 1, none⟩ = some (.slice (some ⟨g, 0, none⟩) y.length y.length) := (World.cell?_setCell_other w12 ⟨g, 1, none⟩ ⟨w6.heap.size, 1, none⟩ _ (fun e => by injection e with e; omega)).trans qz1
      have c0 : (w12.setCell ⟨g, 1, none⟩ (.int .i64 (o.a + 1))).cell? ⟨w11.heap.size, 0, none⟩ = some (.string u) := (World.cell?_setCell_other w12 ⟨g, 1, none⟩ ⟨w11.heap.size, 0, none⟩ _ (fun e => by injection e with e; omega)).trans rz0
      have c1 : (w12.setCell ⟨g, 1, none⟩ (.int .i64 (o.a + 1))).cell? ⟨w11.heap.size, 1, none⟩ = some (.slice (some ⟨gr, 0, none⟩) y.length y.length) := (World.cell?_setCell_other w12 ⟨g, 1, none⟩ ⟨w11.heap.size, 1, none⟩ _ (fun e => by injection e with e; omega)).trans rz1
      have bW : Below w4.heap.size w12 (w12.setCell ⟨g, 1, none⟩ (.int .i64 (o.a + 1))) := (Below.refl _ _).setCell (show w4.heap.size ≤ g by omega) _
      have hb14 : Below w4.heap.size w4 (w12.setCell ⟨g, 1, none⟩ (.int .i64 (o.a + 1))) := hb13.trans bW
      have hszW : (w12.setCell ⟨g, 1, none⟩ (.int .i64 (o.a + 1))).heap.size = w12.heap.size := by simp
      have HSW := Lib.hid hszW
      have row' : OpRow (w12.setCell ⟨g, 1, none⟩ (.int .i64 (o.a + 1))) g y.length (y.set 0 ⟨o.k, o.a + 1, o.b, o.c⟩) := (World.rowIs.set RQ12.out 1 _).congr (fun i hi => by
        obtain ⟨r, e1, e2⟩ := set_head hi1 HOO.out ⟨o.k, o.a + 1, o.b, o.c⟩
        rw [e2, ← opsF_set o r (o.a + 1) i, ← e1])
      have ROW' := Lib.hid row'
      have RRW := Lib.hid (World.rowIs.setOther RR12.out (show gr ≠ g by omega) (.int .i64 (o.a + 1)) (a := ⟨g, 1, none⟩))
      have HE2 := Lib.hid (eqprog_any u u (some ⟨gr, 0, none⟩) A y y y.length c w12.heap.size (w12.setCell ⟨g, 1, none⟩ (.int .i64 (o.a + 1))) (OpRow.reads RRW.out (Nat.le_refl _) _ (by omega)) ((R4.out.below (hb14.mono (by omega))).more (by omega)) (by rw [hszW]; omega) (Nat.le_refl _) hyl hyc m1 true (by simp))
      have hne : y.set 0 ⟨o.k, o.a + 1, o.b, o.c⟩ ≠ y := fun h => by
        have h3 := congrArg (fun z => z[0]?) h
        simp only [List.getElem?_set, if_true, hi1, HOO.out, List.getElem?_eq_getElem hi1, Option.some.injEq] at h3
        have h4 := congrArg O4.a h3
        simp only at h4
        omega
      have hEq : ∀ W, Below (w12.setCell ⟨g, 1, none⟩ (.int .i64 (o.a + 1))).heap.size (w12.setCell ⟨g, 1, none⟩ (.int .i64 (o.a + 1))) W → Calls Try.prog 15 #[progV u (some ⟨g, 0, none⟩) (y.set 0 ⟨o.k, o.a + 1, o.b, o.c⟩).length y.length, progV u A y.length c] W fun e w' => e = .returned (.bool false) ∧ Below W.heap.size W w' := fun W hW =>
        ceq_any u u (some ⟨g, 0, none⟩) A (y.set 0 ⟨o.k, o.a + 1, o.b, o.c⟩) y y.length c w12.heap.size W (OpRow.reads (rowIs_below ROW'.out hW (by rw [HSW.out]; omega)) (by rw [List.length_set]; omega) _ (by omega)) ((R4.out.below ((hb14.trans (hW.mono hb14.size)).mono (by omega))).more (by omega)) (by have := hW.size; rw [HSW.out] at this; exact this) (by rw [List.length_set]; omega) hyl hyc m1 false (by simp only [Bool.false_eq_true, true_and, false_iff]; exact hne)
      rw [List.length_set] at hEq
      unfold progV at hEq HE2
      have HEq := Lib.hid hEq
      have A0 := Lib.hid a0; have A1' := Lib.hid a1; have B0 := Lib.hid b0; have B1 := Lib.hid b1
      have HB14 := Lib.hid hb14
      clear hEq hne row' hszW bW hb13 hb14
      go_wp2_with (first
        | (go_at_call 14; ((with_reducible refine HE2.out.mono ?_); rintro e w14 ⟨rfl, hb15⟩; have f0 := (hb15.cell (p := ⟨w.heap.size, 0, none⟩) (by rw [HSW.out]; show w.heap.size < _; omega)).trans A0.out; have f1 := (hb15.cell (p := ⟨w.heap.size, 1, none⟩) (by rw [HSW.out]; show w.heap.size < _; omega)).trans A1'.out; have f2 := (hb15.cell (p := ⟨w6.heap.size, 0, none⟩) (by rw [HSW.out]; show w6.heap.size < _; omega)).trans B0.out; have f3 := (hb15.cell (p := ⟨w6.heap.size, 1, none⟩) (by rw [HSW.out]; show w6.heap.size < _; omega)).trans B1.out))
        | (go_at_call 15; refine (HEq.out _ hb15).mono ?_; rintro e w15 ⟨rfl, hb16⟩; have hz : Below w.heap.size w w15 := hb6.trans ((HB14.out.trans ((hb15.trans (hb16.mono hb15.size)).mono HB14.out.size)).mono hb6.size)))
      go_ret
      exact ⟨rfl, hz⟩
end Go.Proofs.Ytjjhdbcekkmjfaa
