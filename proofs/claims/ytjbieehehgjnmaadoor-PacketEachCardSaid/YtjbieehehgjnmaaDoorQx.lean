/- WALK of the law PacketEach. -/
import Derived.Test.YtjbieehehgjnmaaDoorQr
import Derived.Test.YtjbieehehgjnmaaDoorQs
import Derived.Test.YtjbieehehgjnmaaDoorKb
namespace Go.Proofs.YtjbieehehgjnmaaDoor
set_option maxRecDepth 100000
open Go.RowKit
set_option linter.unusedVariables false
set_option linter.unusedSimpArgs false

set_option maxHeartbeats 8000000 in
theorem each_law (k f t id fi : Int) (A : Option Addr) (l : List UInt8) (n c : Nat) (ac fr su a : Int) (w : World) (hT : TabW w) (h4 : 0 ≤ su) (h5 : su ≤ 4294967295) (hr : RB w w.heap.size A l) (hn : l.length = n) (hc : n ≤ c) (hm : c ≤ maxLen) (wa : (Lit.int .u8 a).wf = true) :
    Calls Tryd.prog 7 #[pkV k f t id fi A n c ac fr su, .int .u8 a] w fun e w' => e = .returned (.bool true) ∧ Below w.heap.size w w' := by
  obtain ⟨W1, hW1⟩ : ∃ W1, W1 = w.alloc (pkO k f t id fi A n c ac fr su) := ⟨_, rfl⟩
  have B1 : Below w.heap.size w W1 := by rw [hW1]; exact (Below.refl _ _).alloc (Nat.le_refl _) _
  have HB1 := Lib.hid B1; have HT := Lib.hid hT
  have HBG := Lib.hid (begun15_any W1 (hT.below B1 hT.lt))
  have HP1 : Hid (PkM W1 w.heap.size k f t id fi A n c ac fr su) := by show PkM _ _ _ _ _ _ _ _ _ _ _ _ _; rw [hW1]; exact PkM.new w _ _ _ _ _ _ _ _ _ _ _
  have S1 : Hid (w.heap.size < W1.heap.size) := by show _ < _; rw [hW1]; simp
  obtain ⟨x, hx⟩ : ∃ x, l.take 40 = x := ⟨_, rfl⟩
  obtain ⟨X, hX⟩ : ∃ X, x.length = X := ⟨_, rfl⟩
  have hXc : X ≤ c := by rw [← hx, List.length_take] at hX; omega
  have HCU := Lib.hid (fun W => lcut_any k f t id fi A l n c ac fr su W hn hc hm X (by rw [hx, hX]))
  have HRX : Hid (RB w w.heap.size A x) := by show RB _ _ _ _; rw [← hx]; exact hr.take 40
  have HW1 := Lib.hid hW1; have HM := Lib.hid hm; have HX := Lib.hid hX; have HXC := Lib.hid hXc
  have hxb : ((UInt8.ofNat a.toNat).toNat : Int) = a := byte_back wa
  obtain ⟨xb, hxbb⟩ : ∃ xb, UInt8.ofNat a.toNat = xb := ⟨_, rfl⟩
  rw [hxbb] at hxb
  have HXB := Lib.hid hxb
  obtain ⟨b, hb⟩ : ∃ b, encC k f t id fi ac fr su x = b := ⟨_, rfl⟩
  have hbl : b.length ≤ 100 := by rw [← hb]; exact enc_short _ _ _ _ _ _ _ _ _
  have HBL := Lib.hid hbl
  have HIS : Hid (0 < b.length → IsK b ⟨k, f, t, id, fi, ac, fr, su, x⟩) := fun h => by
    by_cases hm : mayC k f t id fi ac fr su x.length
    · rw [← hb]; exact enc_is hm h4 h5
    · rw [← hb, enc_none hm] at h; cases h
  have HENC := Lib.hid hb
  clear hT hr hn hc hm hx hX hXc hW1 B1 hxb hxbb hb hbl
  go_enter Tryd.func7, Tryd.ntmps7
  go_wp2_with fail
  rw [← HW1.out]
  (with_reducible refine HBG.out.mono ?_)
  rintro e w2 ⟨rfl, hb2⟩
  have HP2 := Lib.hid (HP1.out.below hb2 S1.out); have HB2 := Lib.hid (HB1.out.trans (hb2.mono HB1.out.size))
  have S2 : Hid (w.heap.size < w2.heap.size) := Nat.lt_of_lt_of_le S1.out hb2.size
  obtain ⟨r0, r1, r2, r3, r4, r5, r6, r7, r8⟩ := HP2.out.c
  clear hb2
  go_wp2_with fail
  (with_reducible refine (HCU.out _).mono ?_)
  rintro e w3 ⟨rfl, hb3⟩
  have HP3 := Lib.hid (HP2.out.below hb3 S2.out); have HB3 := Lib.hid (HB2.out.trans (hb3.mono HB2.out.size))
  clear r0 r1 r2 r3 r4 r5 r6 r7 r8 hb3
  go_wp2_with (first
    | (refine wpList_store_pk rfl (.tmp 2) (.tmp 15) rfl w.heap.size (by rfl) HP3.out (by rfl) ?_; intro w4 p4 z4 g4; have HB4 := Lib.hid (below_row HB3.out g4 (Nat.le_refl _)); obtain ⟨r0, r1, r2, r3, r4, r5, r6, r7, r8⟩ := p4.c; have HRP := Lib.hid (refpacket_any k f t id fi A x X c ac fr su w4 (HRX.out.next HB4.out) HX.out HXC.out HM.out h4 h5); clear p4 z4 g4))
  (with_reducible refine HRP.out.mono ?_)
  rintro e w5 ⟨v5, rfl, o5, hb5⟩
  rw [HENC.out] at o5
  obtain ⟨A5, c5, rfl, hc5, hm5, hr5⟩ := o5.form b rfl
  have HB5 := Lib.hid (HB4.out.trans (hb5.mono HB4.out.size))
  have HT5 := Lib.hid (HT.out.below HB5.out HT.out.lt)
  have HR5 := Lib.hid hr5; have HM5 := Lib.hid hm5; have HC5 := Lib.hid hc5
  clear r0 r1 r2 r3 r4 r5 r6 r7 r8 o5 hb5 hr5 hm5
  by_cases ha0 : a = 0
  · have hab : (a == 0) = true := by simp [ha0]
    clear ha0
    go_wp2
    go_ret
    exact ⟨rfl, HB5.out⟩
  · have hab : (a == 0) = false := by simp; exact ha0
    have HXN : Hid (xb ≠ 0) := fun h => ha0 (by rw [← HXB.out, h]; rfl)
    clear ha0
    go_wp2_with fail
    go_loopw [7] (fun i wr => ∃ j : Nat, i = .int .i64 (j : Int) ∧ j ≤ b.length ∧ Hid (Below w.heap.size w wr) ∧ Hid (RB wr wr.heap.size A5 b) ∧ Hid (TabW wr)) (fun i _ => b.length - (intOf i).toNat)
    case atStart => exact ⟨0, rfl, by omega, HB5, HR5, HT5⟩
    case round =>
      obtain ⟨j, rfl, hj, hB, hR, hTr⟩ := hrel
      have hbb := HBL.out
      by_cases hlt : j < b.length
      · have hjc : (j : Int) < (b.length : Int) := by omega
        have hj0 : (0 : Int) ≤ (j : Int) := by omega
        have hpos : 0 < b.length := by omega
        have HLen : Hid (([] : List UInt8).length + b.length ≤ 140737488355328) := by show 0 + _ ≤ _; have := HBL.out; omega
        obtain ⟨bj, hbj⟩ : ∃ bj, b[j] = bj := ⟨_, rfl⟩
        have HBJ := Lib.hid hbj
        obtain ⟨bi, hbi⟩ : ∃ bi : Int, (bj.toNat : Int) = bi := ⟨_, rfl⟩
        obtain ⟨z, hz⟩ : ∃ z : Int, ((bj ^^^ xb).toNat : Int) = z := ⟨_, rfl⟩
        have hxo := b8_xor bj xb
        rw [HXB.out, hbi, hz] at hxo
        have HNO : Hid (∀ p, ¬ IsK (b.set j (bj ^^^ xb)) p) := by show ∀ p, _; rw [← hbj]; exact is_changed (HIS.out hpos) j hlt xb HXN.out
        have HBI := Lib.hid hbi; have HZ := Lib.hid hz
        clear hbj hbi hz
        go_wp2_with (first
          | (at_builtin; refine wpList_append_bytes rfl (.const (.slice none 0 0)) (.tmp 26) rfl wr.heap.size (.slice none 0 0) [] b rfl (OB.nil _ _) wr.heap.size A5 c5 rfl hR.out HLen.out (Nat.le_refl _) ?_; intro v9 w9 o9 g9 e9; rw [List.nil_append] at o9; obtain ⟨gc, cc, rfl, hgc, hcc, hmc⟩ := o9.some_ hpos; have u1 := o9.cell_at rfl j hlt; have u2 := o9.frozen_at rfl j; have HO9 := Lib.hid o9; have HB9 : Hid (Below wr.heap.size wr w9) := (Below.refl _ _).grown g9 (Nat.le_refl _) (by simp [Value.ownBlock]); unfold vb at u1; rw [HBJ.out, HBI.out] at u1; have HGC := Lib.hid hgc; have HCC := Lib.hid hcc; have HMC := Lib.hid hmc; clear o9 g9 e9 hgc hmc))
        have ho10 : OB (w9.setCell ⟨gc, j, none⟩ (.int .u8 z)) wr.heap.size (.slice (some ⟨gc, 0, none⟩) b.length cc) (b.set j (bj ^^^ xb)) := by
          rw [← HZ.out]
          exact OB.set HO9.out rfl j (bj ^^^ xb)
        have hbs : Below wr.heap.size wr (w9.setCell ⟨gc, j, none⟩ (.int .u8 z)) := HB9.out.setCell HGC.out _
        have HD := Lib.hid (dec_no (some ⟨gc, 0, none⟩) (b.set j (bj ^^^ xb)) b.length cc (w9.setCell ⟨gc, j, none⟩ (.int .u8 z)) (hTr.out.below hbs hTr.out.lt) ho10.cells (by rw [List.length_set]) HCC.out HMC.out (by have := HBL.out; omega) HNO.out)
        have HBS := Lib.hid hbs
        clear ho10 hbs
        go_wp2_with fail
        (with_reducible refine HD.out.mono ?_)
        rintro e wA ⟨rfl, hbA⟩
        have hbB := (HBS.out.trans (hbA.mono HBS.out.size))
        have hbC : Below wr.heap.size wr (wA.alloc (pkO 0 0 0 0 0 none 0 0 0 0 0)) := hbB.alloc hbB.size _
        have HBC := Lib.hid (hB.out.trans (hbC.mono hB.out.size)); have HRC := Lib.hid (hR.out.next hbC); have HTC := Lib.hid (hTr.out.below hbC hTr.out.lt)
        clear hbA hbB hbC u1 u2 hxo
        go_wp2_with fail
        go_roundw
        case rel => exact ⟨j + 1, by go_num, by omega, HBC, HRC, HTC⟩
        case measure => simp [intOf]; omega
      · obtain rfl : j = b.length := by omega
        go_wp2
        go_ret
        exact ⟨rfl, hB.out⟩
end Go.Proofs.YtjbieehehgjnmaaDoor
