/- WALK of the law PacketTwins. -/
import Derived.Test.YtjbieehehgjnmaaDoorQr
import Derived.Test.YtjbieehehgjnmaaDoorQs
import Derived.Test.YtjbieehehgjnmaaDoorQy
import Derived.Deep.DeepCutAuto
import Derived.Deep.CutBlock
namespace Go.Proofs.YtjbieehehgjnmaaDoor
set_option maxRecDepth 100000
open Go.RowKit
set_option linter.unusedVariables false
set_option linter.unusedSimpArgs false

theorem wp_load_pk {w : World} {o : Oper} {a : Act} {K : Act → World → Prop} {Q : Exit → Act → World → Prop} (x : Operand) (ho : o.op = .load 25 x)
    (b : Nat) (hx : a.eval x = .pointer (some ⟨b, 0, none⟩)) {k f t id fi : Int} {A : Option Addr} {n c : Nat} {ac fr su : Int} (h : PkM w b k f t id fi A n c ac fr su)
    (hk : K (a.put o.dst (pkV k f t id fi A n c ac fr su)) w) : o.wp Tryd.prog a w K Q := by
  have hrun := run_load_pk w b h
  unfold Oper.wp execOp
  simp only [ho, hx, Instr.loadAt, Instr.sureAddr, Sem.run_bind, Sem.run_pure, Result.andThen_ok, hrun]
  exact hk
theorem mod6 (z : Int) : ∃ t : Int, z.tmod 6 % 6 = t ∧ (z.tmod 6 + 6) % 6 = t ∧ (z.tmod 6 + 6).tmod 6 = t ∧ (t = 0 ∨ t = 1 ∨ t = 2 ∨ t = 3 ∨ t = 4 ∨ t = 5) ∧ -6 < z.tmod 6 ∧ z.tmod 6 < 6 := by
  have h1 := Int.tmod_lt_of_pos z (show (0 : Int) < 6 by omega)
  have h2 := Int.lt_tmod_of_pos z (show (0 : Int) < 6 by omega)
  refine ⟨_, rfl, by omega, ?_, by omega, by omega, h1⟩
  rw [Int.tmod_eq_emod_of_nonneg (by omega)]; omega
set_option maxHeartbeats 16000000 in
theorem twins_law (k f t id fi : Int) (A : Option Addr) (l : List UInt8) (n c : Nat) (ac fr su k2 f2 t2 id2 fi2 : Int) (A2 : Option Addr) (l2 : List UInt8) (n2 c2 : Nat) (ac2 fr2 su2 z : Int) (w : World) (hT : TabW w)
    (h4 : 0 ≤ su) (h5 : su ≤ 4294967295) (g4 : 0 ≤ su2) (g5 : su2 ≤ 4294967295) (hr : RB w w.heap.size A l) (hn : l.length = n) (hc : n ≤ c) (hm : c ≤ maxLen) (hr2 : RB w w.heap.size A2 l2) (hn2 : l2.length = n2) (hc2 : n2 ≤ c2) (hm2 : c2 ≤ maxLen) :
    Calls Tryd.prog 8 #[pkV k f t id fi A n c ac fr su, pkV k2 f2 t2 id2 fi2 A2 n2 c2 ac2 fr2 su2, .int .i64 z] w fun e w' => e = .returned (.bool true) ∧ Below w.heap.size w w' := by
  obtain ⟨W1, hW1⟩ : ∃ W1, W1 = (w.alloc (pkO k f t id fi A n c ac fr su)).alloc (pkO k2 f2 t2 id2 fi2 A2 n2 c2 ac2 fr2 su2) := ⟨_, rfl⟩
  have B1 : Below w.heap.size w W1 := by rw [hW1]; exact ((Below.refl _ _).alloc (Nat.le_refl _) _).alloc (by simp) _
  have HB1 := Lib.hid B1; have HT := Lib.hid hT
  have HBG := Lib.hid (begun15_any W1 (hT.below B1 hT.lt))
  have S1 : Hid (w.heap.size + 1 < W1.heap.size) := by show _ < _; rw [hW1]; simp
  have HP1 : Hid (PkM W1 w.heap.size k f t id fi A n c ac fr su) := by show PkM _ _ _ _ _ _ _ _ _ _ _ _ _; rw [hW1]; exact (Below.heap_alloc _ _ _ (by simp)).trans (heap_alloc_new w _)
  have HR1 : Hid (PkM W1 (w.heap.size + 1) k2 f2 t2 id2 fi2 A2 n2 c2 ac2 fr2 su2) := by
    have h := PkM.new (w.alloc (pkO k f t id fi A n c ac fr su)) k2 f2 t2 id2 fi2 A2 n2 c2 ac2 fr2 su2
    rw [World.size_alloc] at h
    show PkM _ _ _ _ _ _ _ _ _ _ _ _ _
    rw [hW1]; exact h
  obtain ⟨x, hx⟩ : ∃ x, l.take 40 = x := ⟨_, rfl⟩
  obtain ⟨X, hX⟩ : ∃ X, x.length = X := ⟨_, rfl⟩
  have hXc : X ≤ c ∧ X ≤ 40 := by rw [← hx, List.length_take] at hX; omega
  obtain ⟨y, hy⟩ : ∃ y, l2.take 40 = y := ⟨_, rfl⟩
  obtain ⟨Y, hY⟩ : ∃ Y, y.length = Y := ⟨_, rfl⟩
  have hYc : Y ≤ c2 := by rw [← hy, List.length_take] at hY; omega
  have HCP := Lib.hid (fun W => lcut_any k f t id fi A l n c ac fr su W hn hc hm X (by rw [hx, hX]))
  have HCQ := Lib.hid (fun W => lcut_any k2 f2 t2 id2 fi2 A2 l2 n2 c2 ac2 fr2 su2 W hn2 hc2 hm2 Y (by rw [hy, hY]))
  have HRX : Hid (RB w w.heap.size A x) := by show RB _ _ _ _; rw [← hx]; exact hr.take 40
  have HRY : Hid (RB w w.heap.size A2 y) := by show RB _ _ _ _; rw [← hy]; exact hr2.take 40
  have HW1 := Lib.hid hW1; have HM := Lib.hid hm; have HM2 := Lib.hid hm2; have HX := Lib.hid hX; have HXC := Lib.hid hXc.1; have HY := Lib.hid hY; have HYC := Lib.hid hYc
  have HX40 := Lib.hid hXc.2
  have HS4 := Lib.hid h4; have HS5 := Lib.hid h5; have HG4 := Lib.hid g4; have HG5 := Lib.hid g5
  clear hT hr hn hc hm hr2 hn2 hc2 hm2 hx hX hXc hy hY hYc hW1 B1 h4 h5 g4 g5
  go_enter Tryd.func8, Tryd.ntmps8
  go_wp2_with fail
  rw [← HW1.out]
  (with_reducible refine HBG.out.mono ?_)
  rintro e w2 ⟨rfl, hb2⟩
  have HP2 := Lib.hid (HP1.out.below hb2 (by have := S1.out; omega)); have HR2 := Lib.hid (HR1.out.below hb2 S1.out); have HB2 := Lib.hid (HB1.out.trans (hb2.mono HB1.out.size))
  have S2 : Hid (w.heap.size + 1 < w2.heap.size) := Nat.lt_of_lt_of_le S1.out hb2.size
  clear hb2
  go_upto_region 4 with fail
  go_cut [7] (fun s7 wx => s7 = .bool true ∧ Hid (PkM wx w.heap.size k f t id fi A X c ac fr su) ∧ Hid (PkM wx (w.heap.size + 1) k2 f2 t2 id2 fi2 A2 Y c2 ac2 fr2 su2) ∧ Hid (Below w.heap.size w wx))
  case first =>
    have hp : PkM w2.drew w.heap.size k f t id fi A n c ac fr su := HP2.out
    have hq : PkM w2.drew (w.heap.size + 1) k2 f2 t2 id2 fi2 A2 n2 c2 ac2 fr2 su2 := HR2.out
    have hb := HB2.out.drew
    have hs : w.heap.size + 1 < w2.drew.heap.size := S2.out
    refine wp_region_held_drew (S := (fun _ => True)) (by kernel_rfl) (trivial) (fun hHeld => ?_)
    refine held_two (i := 0) (j := 2) rfl rfl (by kernel_rfl) (by rfl) (by rfl) (fun K hK => ?_) (fun K hK => ?_)
    · refine wp_load_pk (.tmp 3) (by rfl) w.heap.size (by rfl) hp ?_
      refine hK.out _ _ (trivial) (fun hHeld2 => ?_)
      clear hK K hHeld; have hHeld := hHeld2; clear hHeld2
      try simp only [Act.put, List.setIfInBounds_toArray, List.set_cons_zero, List.set_cons_succ]
      refine held_two (i := 1) (j := 2) rfl rfl (by kernel_rfl) (by rfl) (by rfl) (fun K hK => ?_) (fun K hK => ?_)
      · go_simp
        (with_reducible refine (HCP.out _).mono ?_)
        rintro e wn ⟨rfl, hn⟩
        replace hp := hp.below hn (by omega)
        replace hq := hq.below hn hs
        replace hb := hb.trans (hn.mono hb.size)
        replace hs := Nat.lt_of_lt_of_le hs hn.size
        clear hn
        refine hK.out _ _ (trivial) (fun hHeld2 => ?_)
        clear hK K hHeld; have hHeld := hHeld2; clear hHeld2
        try simp only [Act.put, List.setIfInBounds_toArray, List.set_cons_zero, List.set_cons_succ]
        refine held_one (i := 2) rfl (by kernel_rfl) (by rfl) (fun K hK => ?_)
        refine wp_load_pk (.tmp 4) (by rfl) (w.heap.size + 1) (by rfl) hq ?_
        refine hK.out _ _ (trivial) (fun hHeld2 => ?_)
        clear hK K hHeld; have hHeld := hHeld2; clear hHeld2
        try simp only [Act.put, List.setIfInBounds_toArray, List.set_cons_zero, List.set_cons_succ]
        refine held_one (i := 3) rfl (by kernel_rfl) (by rfl) (fun K hK => ?_)
        go_simp
        (with_reducible refine (HCQ.out _).mono ?_)
        rintro e wn ⟨rfl, hn⟩
        replace hp := hp.below hn (by omega)
        replace hq := hq.below hn hs
        replace hb := hb.trans (hn.mono hb.size)
        replace hs := Nat.lt_of_lt_of_le hs hn.size
        clear hn
        refine hK.out _ _ (trivial) (fun hHeld2 => ?_)
        clear hK K hHeld; have hHeld := hHeld2; clear hHeld2
        try simp only [Act.put, List.setIfInBounds_toArray, List.set_cons_zero, List.set_cons_succ]
        refine held_one (i := 4) rfl (by kernel_rfl) (by rfl) (fun K hK => ?_)
        refine wp_store_pk (.tmp 3) (.tmp 14) (by rfl) w.heap.size (by rfl) hp (by rfl) ?_
        intro wn hp2 zn gn
        replace hq := hq.kept gn (by omega)
        replace hb := below_row hb gn (Nat.le_refl _)
        clear zn gn
        refine hK.out _ _ (trivial) (fun hHeld2 => ?_)
        clear hK K hHeld; have hHeld := hHeld2; clear hHeld2
        try simp only [Act.put, List.setIfInBounds_toArray, List.set_cons_zero, List.set_cons_succ]
        refine held_one (i := 5) rfl (by kernel_rfl) (by rfl) (fun K hK => ?_)
        refine wp_store_pk (.tmp 4) (.tmp 16) (by rfl) (w.heap.size + 1) (by rfl) hq (by rfl) ?_
        intro wn hq2 zn gn
        replace hp2 := hp2.kept gn (by omega)
        replace hb := below_row hb gn (by omega)
        clear zn gn
        refine hK.out _ _ (trivial) (fun hHeld2 => ?_)
        clear hK K hHeld; have hHeld := hHeld2; clear hHeld2
        try simp only [Act.put, List.setIfInBounds_toArray, List.set_cons_zero, List.set_cons_succ]
        refine wpAnyH_done (by kernel_rfl) ?_ _
        skip
        go_wp2_with fail
        go_meet
        exact ⟨rfl, hp2, hq2, hb⟩
      · refine wp_load_pk (.tmp 4) (by rfl) (w.heap.size + 1) (by rfl) hq ?_
        refine hK.out _ _ (trivial) (fun hHeld2 => ?_)
        clear hK K hHeld; have hHeld := hHeld2; clear hHeld2
        try simp only [Act.put, List.setIfInBounds_toArray, List.set_cons_zero, List.set_cons_succ]
        refine held_one (i := 1) rfl (by kernel_rfl) (by rfl) (fun K hK => ?_)
        go_simp
        (with_reducible refine (HCP.out _).mono ?_)
        rintro e wn ⟨rfl, hn⟩
        replace hp := hp.below hn (by omega)
        replace hq := hq.below hn hs
        replace hb := hb.trans (hn.mono hb.size)
        replace hs := Nat.lt_of_lt_of_le hs hn.size
        clear hn
        refine hK.out _ _ (trivial) (fun hHeld2 => ?_)
        clear hK K hHeld; have hHeld := hHeld2; clear hHeld2
        try simp only [Act.put, List.setIfInBounds_toArray, List.set_cons_zero, List.set_cons_succ]
        refine held_one (i := 3) rfl (by kernel_rfl) (by rfl) (fun K hK => ?_)
        go_simp
        (with_reducible refine (HCQ.out _).mono ?_)
        rintro e wn ⟨rfl, hn⟩
        replace hp := hp.below hn (by omega)
        replace hq := hq.below hn hs
        replace hb := hb.trans (hn.mono hb.size)
        replace hs := Nat.lt_of_lt_of_le hs hn.size
        clear hn
        refine hK.out _ _ (trivial) (fun hHeld2 => ?_)
        clear hK K hHeld; have hHeld := hHeld2; clear hHeld2
        try simp only [Act.put, List.setIfInBounds_toArray, List.set_cons_zero, List.set_cons_succ]
        refine held_one (i := 4) rfl (by kernel_rfl) (by rfl) (fun K hK => ?_)
        refine wp_store_pk (.tmp 3) (.tmp 14) (by rfl) w.heap.size (by rfl) hp (by rfl) ?_
        intro wn hp2 zn gn
        replace hq := hq.kept gn (by omega)
        replace hb := below_row hb gn (Nat.le_refl _)
        clear zn gn
        refine hK.out _ _ (trivial) (fun hHeld2 => ?_)
        clear hK K hHeld; have hHeld := hHeld2; clear hHeld2
        try simp only [Act.put, List.setIfInBounds_toArray, List.set_cons_zero, List.set_cons_succ]
        refine held_one (i := 5) rfl (by kernel_rfl) (by rfl) (fun K hK => ?_)
        refine wp_store_pk (.tmp 4) (.tmp 16) (by rfl) (w.heap.size + 1) (by rfl) hq (by rfl) ?_
        intro wn hq2 zn gn
        replace hp2 := hp2.kept gn (by omega)
        replace hb := below_row hb gn (by omega)
        clear zn gn
        refine hK.out _ _ (trivial) (fun hHeld2 => ?_)
        clear hK K hHeld; have hHeld := hHeld2; clear hHeld2
        try simp only [Act.put, List.setIfInBounds_toArray, List.set_cons_zero, List.set_cons_succ]
        refine wpAnyH_done (by kernel_rfl) ?_ _
        skip
        go_wp2_with fail
        go_meet
        exact ⟨rfl, hp2, hq2, hb⟩
    · refine wp_load_pk (.tmp 4) (by rfl) (w.heap.size + 1) (by rfl) hq ?_
      refine hK.out _ _ (trivial) (fun hHeld2 => ?_)
      clear hK K hHeld; have hHeld := hHeld2; clear hHeld2
      try simp only [Act.put, List.setIfInBounds_toArray, List.set_cons_zero, List.set_cons_succ]
      refine held_one (i := 0) rfl (by kernel_rfl) (by rfl) (fun K hK => ?_)
      refine wp_load_pk (.tmp 3) (by rfl) w.heap.size (by rfl) hp ?_
      refine hK.out _ _ (trivial) (fun hHeld2 => ?_)
      clear hK K hHeld; have hHeld := hHeld2; clear hHeld2
      try simp only [Act.put, List.setIfInBounds_toArray, List.set_cons_zero, List.set_cons_succ]
      refine held_one (i := 1) rfl (by kernel_rfl) (by rfl) (fun K hK => ?_)
      go_simp
      (with_reducible refine (HCP.out _).mono ?_)
      rintro e wn ⟨rfl, hn⟩
      replace hp := hp.below hn (by omega)
      replace hq := hq.below hn hs
      replace hb := hb.trans (hn.mono hb.size)
      replace hs := Nat.lt_of_lt_of_le hs hn.size
      clear hn
      refine hK.out _ _ (trivial) (fun hHeld2 => ?_)
      clear hK K hHeld; have hHeld := hHeld2; clear hHeld2
      try simp only [Act.put, List.setIfInBounds_toArray, List.set_cons_zero, List.set_cons_succ]
      refine held_one (i := 3) rfl (by kernel_rfl) (by rfl) (fun K hK => ?_)
      go_simp
      (with_reducible refine (HCQ.out _).mono ?_)
      rintro e wn ⟨rfl, hn⟩
      replace hp := hp.below hn (by omega)
      replace hq := hq.below hn hs
      replace hb := hb.trans (hn.mono hb.size)
      replace hs := Nat.lt_of_lt_of_le hs hn.size
      clear hn
      refine hK.out _ _ (trivial) (fun hHeld2 => ?_)
      clear hK K hHeld; have hHeld := hHeld2; clear hHeld2
      try simp only [Act.put, List.setIfInBounds_toArray, List.set_cons_zero, List.set_cons_succ]
      refine held_one (i := 4) rfl (by kernel_rfl) (by rfl) (fun K hK => ?_)
      refine wp_store_pk (.tmp 3) (.tmp 14) (by rfl) w.heap.size (by rfl) hp (by rfl) ?_
      intro wn hp2 zn gn
      replace hq := hq.kept gn (by omega)
      replace hb := below_row hb gn (Nat.le_refl _)
      clear zn gn
      refine hK.out _ _ (trivial) (fun hHeld2 => ?_)
      clear hK K hHeld; have hHeld := hHeld2; clear hHeld2
      try simp only [Act.put, List.setIfInBounds_toArray, List.set_cons_zero, List.set_cons_succ]
      refine held_one (i := 5) rfl (by kernel_rfl) (by rfl) (fun K hK => ?_)
      refine wp_store_pk (.tmp 4) (.tmp 16) (by rfl) (w.heap.size + 1) (by rfl) hq (by rfl) ?_
      intro wn hq2 zn gn
      replace hp2 := hp2.kept gn (by omega)
      replace hb := below_row hb gn (by omega)
      clear zn gn
      refine hK.out _ _ (trivial) (fun hHeld2 => ?_)
      clear hK K hHeld; have hHeld := hHeld2; clear hHeld2
      try simp only [Act.put, List.setIfInBounds_toArray, List.set_cons_zero, List.set_cons_succ]
      refine wpAnyH_done (by kernel_rfl) ?_ _
      skip
      go_wp2_with fail
      go_meet
      exact ⟨rfl, hp2, hq2, hb⟩
  case rest =>
    obtain ⟨rfl, HP4, HR4, HB4⟩ := hcut
    obtain ⟨wA, hwA⟩ : ∃ wA, wc = wA := ⟨_, rfl⟩
    rw [hwA] at HP4 HR4 HB4
    rw [hwA]
    clear hwA
    obtain ⟨tt, hm1, hm2, hm3, htt, hz1, hz2⟩ := mod6 z
    have HTT := Lib.hid htt
    have S4 : Hid (w.heap.size + 1 < wA.heap.size) := HR4.out.lt
    go_upto_region 5 with fail
    go_cut [20] (fun s20 wx => s20 = .int .i64 tt ∧ wx = wA)
    case first =>
      clear htt
      go_wp2_with fail
      go_meet
      exact ⟨rfl, rfl⟩
    case rest =>
      obtain ⟨rfl, hwc⟩ := hcut
      clear hm1 hm2 hm3 htt hz1 hz2
      rw [hwc]
      clear hwc
      go_upto_block 0 with fail
      go_cut [4] (fun s4 wx => s4 = .pointer (some ⟨w.heap.size + 1, 0, none⟩) ∧ ∃ (k3 f3 t3 id3 fi3 : Int) (A3 : Option Addr) (l3 : List UInt8) (n3 c3 : Nat) (ac3 fr3 su3 : Int), Hid (PkM wx w.heap.size k f t id fi A X c ac fr su) ∧ Hid (PkM wx (w.heap.size + 1) k3 f3 t3 id3 fi3 A3 n3 c3 ac3 fr3 su3) ∧ Hid (Below w.heap.size w wx) ∧ Hid (RB wx wx.heap.size A3 l3) ∧ Hid (l3.length = n3) ∧ Hid (n3 ≤ c3) ∧ Hid (c3 ≤ maxLen) ∧ Hid (0 ≤ su3) ∧ Hid (su3 ≤ 4294967295))
      case first =>
        have hp4 := HP4.out
        have hq4 := HR4.out
        rcases HTT.out with rfl | rfl | rfl | rfl | rfl | rfl
        · go_wp2_with fail
          go_meet
          exact ⟨rfl, k2, f2, t2, id2, fi2, A2, y, Y, c2, ac2, fr2, su2, HP4, HR4, HB4, HRY.out.next HB4.out, HY, HYC, HM2, HG4, HG5⟩
        · obtain ⟨ac1, hac1⟩ : ∃ v, wrap64 (ac + 1) = v := ⟨_, rfl⟩
          go_wp2_with (first
            | (refine wpList_load_pk rfl (.tmp 3) rfl w.heap.size (by rfl) hp4 ?_)
            | (refine wpList_store_pk rfl (.tmp 4) (.tmp 23) rfl (w.heap.size + 1) (by rfl) hq4 (by rfl) ?_; intro w6 p6 z6 g6; have HP6 := Lib.hid (hp4.kept g6 (by omega)); have HB6 := Lib.hid (below_row HB4.out g6 (by omega)); have e4 := p6.c.2.2.2.2.1; have e5 := p6.c.2.2.2.2.2.1; have e6 := p6.c.2.2.2.2.2.2.1; have e8 := p6.c.2.2.2.2.2.2.2.2; have e9 := HP6.out.c.2.2.2.2.2.1; have f4_ := p6.fz 4; have f5_ := p6.fz 5; have f6_ := p6.fz 6; have f8_ := p6.fz 8; have HQ6 := Lib.hid p6; clear z6 g6 p6))
          go_meet
          have gs := gr_set w6 (w.heap.size + 1) 6 (.int .i64 ac1)
          have HB7 := Lib.hid (below_row HB6.out gs (by omega))
          exact ⟨rfl, k, f, t, id, fi, A, x, X, c, ac1, fr, su, HP6.out.kept gs (by omega), HQ6.out.set_ac ac1, HB7, HRX.out.next HB7.out, HX, HXC, HM, HS4, HS5⟩
        · obtain ⟨su1, hsu1⟩ : ∃ v, IntKind.u32.wrap (su + 1) = v := ⟨_, rfl⟩
          have HSU : Hid (0 ≤ su1 ∧ su1 ≤ 4294967295) := by show _ ∧ _; rw [← hsu1, IntKind.wrap_u32]; omega
          go_wp2_with (first
            | (refine wpList_load_pk rfl (.tmp 3) rfl w.heap.size (by rfl) hp4 ?_)
            | (refine wpList_store_pk rfl (.tmp 4) (.tmp 30) rfl (w.heap.size + 1) (by rfl) hq4 (by rfl) ?_; intro w6 p6 z6 g6; have HP6 := Lib.hid (hp4.kept g6 (by omega)); have HB6 := Lib.hid (below_row HB4.out g6 (by omega)); have e4 := p6.c.2.2.2.2.1; have e5 := p6.c.2.2.2.2.2.1; have e6 := p6.c.2.2.2.2.2.2.1; have e8 := p6.c.2.2.2.2.2.2.2.2; have e9 := HP6.out.c.2.2.2.2.2.1; have f4_ := p6.fz 4; have f5_ := p6.fz 5; have f6_ := p6.fz 6; have f8_ := p6.fz 8; have HQ6 := Lib.hid p6; clear z6 g6 p6))
          go_meet
          have gs := gr_set w6 (w.heap.size + 1) 8 (.int .u32 su1)
          have HB7 := Lib.hid (below_row HB6.out gs (by omega))
          exact ⟨rfl, k, f, t, id, fi, A, x, X, c, ac, fr, su1, HP6.out.kept gs (by omega), HQ6.out.set_su su1, HB7, HRX.out.next HB7.out, HX, HXC, HM, HSU.out.1, HSU.out.2⟩
        · obtain ⟨N8, hN8⟩ : ∃ N8, (x ++ [(0 : UInt8)]).length = N8 := ⟨_, rfl⟩
          have HN8 := Lib.hid hN8
          clear hN8
          have HLn : Hid (([] : List UInt8).length + x.length ≤ 140737488355328) := by show 0 + _ ≤ _; rw [HX.out]; have := HX40.out; omega
          have HLn1 : Hid (x.length + [(0 : UInt8)].length ≤ 140737488355328) := by show _ + 1 ≤ _; rw [HX.out]; have := HX40.out; omega
          go_wp2_with (first
            | (refine wpList_load_pk rfl (.tmp 3) rfl w.heap.size (by rfl) hp4 ?_)
            | (refine wpList_store_pk rfl (.tmp 4) (.tmp 37) rfl (w.heap.size + 1) (by rfl) hq4 (by rfl) ?_; intro w6 p6 z6 g6; have HP6 := Lib.hid (hp4.kept g6 (by omega)); have HB6 := Lib.hid (below_row HB4.out g6 (by omega)); have e4 := p6.c.2.2.2.2.1; have e5 := p6.c.2.2.2.2.2.1; have e6 := p6.c.2.2.2.2.2.2.1; have e8 := p6.c.2.2.2.2.2.2.2.2; have e9 := HP6.out.c.2.2.2.2.2.1; have f4_ := p6.fz 4; have f5_ := p6.fz 5; have f6_ := p6.fz 6; have f8_ := p6.fz 8; have HQ6 := Lib.hid p6; clear z6 g6 p6)
            | (at_builtin; refine wpList_append_n rfl (.const (.slice none 0 0)) (.tmp 39) rfl w6.heap.size (.slice none 0 0) [] x rfl (OB.nil _ _) w6.heap.size A X c rfl HX.out (HRX.out.next HB6.out) HLn.out (Nat.le_refl _) ?_; intro v7 w7 o7 g7 q7; rw [List.nil_append] at o7; have HB7 : Hid (Below w6.heap.size w6 w7) := (Below.refl _ _).grown g7 (Nat.le_refl _) (by simp [Value.ownBlock]); have HONE := Lib.hid (one_reads w7 0 0 rfl); have ha7 : Below w7.heap.size w7 (w7.alloc (bOne 0)) := (Below.refl _ _).alloc (Nat.le_refl _) _; have HO7 := Lib.hid (o7.below ha7 (Nat.le_refl _)); have HA7 := Lib.hid ha7; have HS7 : Hid (w6.heap.size ≤ (w7.alloc (bOne 0)).heap.size) := Nat.le_trans HB7.out.size ha7.size; clear o7 g7 q7 ha7)
            | (at_builtin; refine wpList_append_n rfl (.tmp 40) (.tmp 41) rfl w6.heap.size v7 x [0] rfl HO7.out (w7.heap.size + 1) _ 1 1 rfl rfl HONE.out HLn1.out HS7.out ?_; intro v8 w8 o8 g8 q8; have HB8 : Hid (Below w6.heap.size w6 w8) := (HB7.out.trans (HA7.out.mono HB7.out.size)).grown g8 HS7.out HO7.out.ge; obtain ⟨A8, c8, rfl, hc8, hm8, hr8⟩ := o8.form_n N8 HN8.out; have HP8 := Lib.hid (HP6.out.below HB8.out HP6.out.lt); have hQ8 := HQ6.out.below HB8.out HQ6.out.lt; have d5 := hQ8.c.2.2.2.2.2.1; have i5 := hQ8.fz 5; have HQ8 := Lib.hid hQ8; have HO8 := Lib.hid o8; have HC8 := Lib.hid hc8; have HM8 := Lib.hid hm8; clear o8 g8 q8 hr8 hQ8))
          go_meet
          have gs := gr_set w8 (w.heap.size + 1) 5 (.slice A8 N8 c8)
          have hB8 := HB6.out.trans (HB8.out.mono HB6.out.size)
          have HB9 := Lib.hid (below_row hB8 gs (by omega))
          have h6 : w.heap.size + 1 < w6.heap.size := HQ6.out.lt
          have hr9 := (HO8.out.kept_gr gs h6).cells
          exact ⟨rfl, k, f, t, id, fi, A8, x ++ [0], N8, c8, ac, fr, su, HP8.out.kept gs (by omega), HQ8.out.set_pr A8 _ c8, HB9, hr9, HN8, HC8, HM8, HS4, HS5⟩
        · obtain ⟨fi1, hfi1⟩ : ∃ v, wrap64 (fi + 1) = v := ⟨_, rfl⟩
          go_wp2_with (first
            | (refine wpList_load_pk rfl (.tmp 3) rfl w.heap.size (by rfl) hp4 ?_)
            | (refine wpList_store_pk rfl (.tmp 4) (.tmp 46) rfl (w.heap.size + 1) (by rfl) hq4 (by rfl) ?_; intro w6 p6 z6 g6; have HP6 := Lib.hid (hp4.kept g6 (by omega)); have HB6 := Lib.hid (below_row HB4.out g6 (by omega)); have e4 := p6.c.2.2.2.2.1; have e5 := p6.c.2.2.2.2.2.1; have e6 := p6.c.2.2.2.2.2.2.1; have e8 := p6.c.2.2.2.2.2.2.2.2; have e9 := HP6.out.c.2.2.2.2.2.1; have f4_ := p6.fz 4; have f5_ := p6.fz 5; have f6_ := p6.fz 6; have f8_ := p6.fz 8; have HQ6 := Lib.hid p6; clear z6 g6 p6))
          go_meet
          have gs := gr_set w6 (w.heap.size + 1) 4 (.int .i64 fi1)
          have HB7 := Lib.hid (below_row HB6.out gs (by omega))
          exact ⟨rfl, k, f, t, id, fi1, A, x, X, c, ac, fr, su, HP6.out.kept gs (by omega), HQ6.out.set_fi fi1, HB7, HRX.out.next HB7.out, HX, HXC, HM, HS4, HS5⟩
        · go_wp2_with (first
            | (refine wpList_load_pk rfl (.tmp 3) rfl w.heap.size (by rfl) hp4 ?_)
            | (refine wpList_store_pk rfl (.tmp 4) (.tmp 53) rfl (w.heap.size + 1) (by rfl) hq4 (by rfl) ?_; intro w6 p6 z6 g6; have HP6 := Lib.hid (hp4.kept g6 (by omega)); have HB6 := Lib.hid (below_row HB4.out g6 (by omega)); have e4 := p6.c.2.2.2.2.1; have e5 := p6.c.2.2.2.2.2.1; have e6 := p6.c.2.2.2.2.2.2.1; have e8 := p6.c.2.2.2.2.2.2.2.2; have e9 := HP6.out.c.2.2.2.2.2.1; have f4_ := p6.fz 4; have f5_ := p6.fz 5; have f6_ := p6.fz 6; have f8_ := p6.fz 8; have HQ6 := Lib.hid p6; clear z6 g6 p6))
          go_meet
          exact ⟨rfl, k, f, t, id, fi, A, x, X, c, ac, fr, su, HP6, HQ6, HB6, HRX.out.next HB6.out, HX, HXC, HM, HS4, HS5⟩
      case rest =>
        obtain ⟨rfl, k3, f3, t3, id3, fi3, A3, l3, n3, c3, ac3, fr3, su3, HP5, HR5, HB5, HRL, HN3, HC3, HM3, HS3, HT3⟩ := hcut
        have S5 : Hid (w.heap.size + 1 < wc.heap.size) := HR5.out.lt
        obtain ⟨a, ha⟩ : ∃ a, encC k f t id fi ac fr su x = a := ⟨_, rfl⟩
        obtain ⟨b, hb⟩ : ∃ b, encC k3 f3 t3 id3 fi3 ac3 fr3 su3 l3 = b := ⟨_, rfl⟩
        obtain ⟨na, hna⟩ : ∃ na, a.length = na := ⟨_, rfl⟩
        obtain ⟨nb, hnb⟩ : ∃ nb, b.length = nb := ⟨_, rfl⟩
        have HENA := Lib.hid ha; have HENB := Lib.hid hb; have HNA := Lib.hid hna; have HNB := Lib.hid hnb
        have HIA : Hid (0 < na → IsK a ⟨k, f, t, id, fi, ac, fr, su, x⟩) := fun h => by
          by_cases hm : mayC k f t id fi ac fr su x.length
          · rw [← ha]; exact enc_is hm HS4.out HS5.out
          · rw [← hna, ← ha, enc_none hm] at h; cases h
        have HIB : Hid (0 < nb → IsK b ⟨k3, f3, t3, id3, fi3, ac3, fr3, su3, l3⟩) := fun h => by
          by_cases hm : mayC k3 f3 t3 id3 fi3 ac3 fr3 su3 l3.length
          · rw [← hb]; exact enc_is hm HS3.out HT3.out
          · rw [← hnb, ← hb, enc_none hm] at h; cases h
        clear ha hb hna hnb
        have HT5 := Lib.hid (HT.out.below HB5.out HT.out.lt)
        have HEA := Lib.hid (enc_any k f t id fi A x X c ac fr su wc.drew (HT.out.below HB5.out.drew HT.out.lt) (HRX.out.next HB5.out.drew) HX.out HXC.out HM.out HS4.out HS5.out)
        go_upto_region 20 with fail
        refine wp_region_held_drew (S := (fun w' => PkM w' w.heap.size k f t id fi A X c ac fr su ∧ PkM w' (w.heap.size + 1) k3 f3 t3 id3 fi3 A3 n3 c3 ac3 fr3 su3)) (by kernel_rfl) (⟨HP5.out, HR5.out⟩) (fun hHeld => ?_)
        refine held_take (i := 0) (v := (pkV k f t id fi A X c ac fr su)) rfl (by kernel_rfl) (by kernel_rfl) (by kernel_rfl) (fun _ _ _ h => h) (by rfl) hHeld (exec_load_pk (.tmp 3) rfl w.heap.size (by rfl) (fun w h => h.1)) ?_
        try simp only [Act.put, List.setIfInBounds_toArray, List.set_cons_zero, List.set_cons_succ]
        refine held_take (i := 2) (v := (pkV k3 f3 t3 id3 fi3 A3 n3 c3 ac3 fr3 su3)) rfl (by kernel_rfl) (by kernel_rfl) (by kernel_rfl) (fun _ _ _ h => h) (by rfl) hHeld (exec_load_pk (.tmp 4) rfl (w.heap.size + 1) (by rfl) (fun w h => h.2)) ?_
        try simp only [Act.put, List.setIfInBounds_toArray, List.set_cons_zero, List.set_cons_succ]
        refine held_one (i := 1) rfl (by kernel_rfl) (by rfl) (fun K hK => ?_)
        go_simp
        (with_reducible refine HEA.out.mono ?_)
        rintro e w21 ⟨va, rfl, oa, ba⟩
        rw [HENA.out] at oa
        obtain ⟨Aa, ca, rfl, -, -, -⟩ := oa.form_n na HNA.out
        have bw := HB5.out.drew.trans (ba.mono HB5.out.drew.size)
        have HB21 := Lib.hid bw
        have bc : Below wc.heap.size wc w21 := (Below.refl wc.heap.size wc).drew.trans (ba.mono (Nat.le_refl _))
        have HBC1 := Lib.hid bc
        have HEB := Lib.hid (enc_any k3 f3 t3 id3 fi3 A3 l3 n3 c3 ac3 fr3 su3 w21 (HT.out.below bw HT.out.lt) (HRL.out.next bc) HN3.out HC3.out HM3.out HS3.out HT3.out)
        have hp21 := HP5.out.below bc (by have := S5.out; omega)
        have hr21 := HR5.out.below bc S5.out
        have HOA0 := Lib.hid oa
        clear oa ba bw bc
        refine hK.out _ _ (⟨hp21, hr21⟩) (fun hHeld2 => ?_)
        clear hK K hHeld; have hHeld := hHeld2; clear hHeld2
        try simp only [Act.put, List.setIfInBounds_toArray, List.set_cons_zero, List.set_cons_succ]
        refine held_one (i := 3) rfl (by kernel_rfl) (by rfl) (fun K hK => ?_)
        go_simp
        (with_reducible refine HEB.out.mono ?_)
        rintro e w22 ⟨vb_, rfl, ob, bb⟩
        rw [HENB.out] at ob
        obtain ⟨Ab, cb, rfl, -, -, -⟩ := ob.form_n nb HNB.out
        have HB22 := Lib.hid (HB21.out.trans (bb.mono HB21.out.size))
        have HBC := Lib.hid (HBC1.out.trans (bb.mono HBC1.out.size))
        have hp22 := HP5.out.below HBC.out (by have := S5.out; omega)
        have hr22 := HR5.out.below HBC.out S5.out
        have HOA := Lib.hid (HOA0.out.below bb (Nat.le_refl _))
        have HOB := Lib.hid ob
        have HP22 := Lib.hid hp22; have HR22 := Lib.hid hr22
        clear ob bb
        refine hK.out _ _ (⟨hp22, hr22⟩) (fun hHeld2 => ?_)
        clear hK K hHeld; have hHeld := hHeld2; clear hHeld2
        try simp only [Act.put, List.setIfInBounds_toArray, List.set_cons_zero, List.set_cons_succ]
        refine held_take (i := 4) (v := ?_) rfl (by kernel_rfl) (by kernel_rfl) (by kernel_rfl) (fun _ _ _ h => h) (by rfl) hHeld ?_ ?_
        rotate_left 1
        · (intro w hSw; (try dsimp only at hSw); go_simp; try (with_reducible rfl))
        try simp only [Act.put, List.setIfInBounds_toArray, List.set_cons_zero, List.set_cons_succ]
        refine held_take (i := 5) (v := ?_) rfl (by kernel_rfl) (by kernel_rfl) (by kernel_rfl) (fun _ _ _ h => h) (by rfl) hHeld ?_ ?_
        rotate_left 1
        · (intro w hSw; (try dsimp only at hSw); go_simp; try (with_reducible rfl))
        try simp only [Act.put, List.setIfInBounds_toArray, List.set_cons_zero, List.set_cons_succ]
        refine wpAnyH_done (by kernel_rfl) ?_ _
        skip
        clear hp21 hr21 hp22 hr22
        have HR22a := Lib.hid (HOA.out.cells)
        have HR22b := Lib.hid (HOB.out.cells)
        have hb0 : w22.heap.size = w22.heap.size := rfl
        clear hb0
        by_cases hna0 : na = 0
        · have hq1 : ((na : Int) == 0) = true := by simp [hna0]
          clear hna0
          go_upto_region 21 with fail
          refine wp_region_held_drew (S := (fun _ => True)) (by kernel_rfl) (trivial) (fun hHeld => ?_)
          refine held_take (i := 0) (v := ?_) rfl (by kernel_rfl) (by kernel_rfl) (by kernel_rfl) (fun _ _ _ h => h) (by rfl) hHeld ?_ ?_
          rotate_left 1
          · (intro w hSw; (try dsimp only at hSw); go_simp; try (with_reducible rfl))
          try simp only [Act.put, List.setIfInBounds_toArray, List.set_cons_zero, List.set_cons_succ]
          refine held_take (i := 1) (v := ?_) rfl (by kernel_rfl) (by kernel_rfl) (by kernel_rfl) (fun _ _ _ h => h) (by rfl) hHeld ?_ ?_
          rotate_left 1
          · (intro w hSw; (try dsimp only at hSw); go_simp; try (with_reducible rfl))
          try simp only [Act.put, List.setIfInBounds_toArray, List.set_cons_zero, List.set_cons_succ]
          refine held_take (i := 2) (v := ?_) rfl (by kernel_rfl) (by kernel_rfl) (by kernel_rfl) (fun _ _ _ h => h) (by rfl) hHeld ?_ ?_
          rotate_left 1
          · (intro w hSw; (try dsimp only at hSw); go_simp; try (with_reducible rfl))
          try simp only [Act.put, List.setIfInBounds_toArray, List.set_cons_zero, List.set_cons_succ]
          refine held_take (i := 3) (v := ?_) rfl (by kernel_rfl) (by kernel_rfl) (by kernel_rfl) (fun _ _ _ h => h) (by rfl) hHeld ?_ ?_
          rotate_left 1
          · (intro w hSw; (try dsimp only at hSw); go_simp; try (with_reducible rfl))
          try simp only [Act.put, List.setIfInBounds_toArray, List.set_cons_zero, List.set_cons_succ]
          refine held_off (i := 4) rfl (by kernel_rfl) (by kernel_rfl) (by kernel_rfl) (fun _ _ _ h => h) (by rfl) hHeld ?_
          try simp only [Act.put, List.setIfInBounds_toArray, List.set_cons_zero, List.set_cons_succ]
          refine held_off (i := 5) rfl (by kernel_rfl) (by kernel_rfl) (by kernel_rfl) (fun _ _ _ h => h) (by rfl) hHeld ?_
          try simp only [Act.put, List.setIfInBounds_toArray, List.set_cons_zero, List.set_cons_succ]
          refine held_off (i := 6) rfl (by kernel_rfl) (by kernel_rfl) (by kernel_rfl) (fun _ _ _ h => h) (by rfl) hHeld ?_
          try simp only [Act.put, List.setIfInBounds_toArray, List.set_cons_zero, List.set_cons_succ]
          refine held_take (i := 7) (v := ?_) rfl (by kernel_rfl) (by kernel_rfl) (by kernel_rfl) (fun _ _ _ h => h) (by rfl) hHeld ?_ ?_
          rotate_left 1
          · (intro w hSw; (try dsimp only at hSw); go_simp; try (with_reducible rfl))
          try simp only [Act.put, List.setIfInBounds_toArray, List.set_cons_zero, List.set_cons_succ]
          refine held_take (i := 8) (v := ?_) rfl (by kernel_rfl) (by kernel_rfl) (by kernel_rfl) (fun _ _ _ h => h) (by rfl) hHeld ?_ ?_
          rotate_left 1
          · (intro w hSw; (try dsimp only at hSw); go_simp; try (with_reducible rfl))
          try simp only [Act.put, List.setIfInBounds_toArray, List.set_cons_zero, List.set_cons_succ]
          refine held_off (i := 9) rfl (by kernel_rfl) (by kernel_rfl) (by kernel_rfl) (fun _ _ _ h => h) (by rfl) hHeld ?_
          try simp only [Act.put, List.setIfInBounds_toArray, List.set_cons_zero, List.set_cons_succ]
          refine held_off (i := 10) rfl (by kernel_rfl) (by kernel_rfl) (by kernel_rfl) (fun _ _ _ h => h) (by rfl) hHeld ?_
          try simp only [Act.put, List.setIfInBounds_toArray, List.set_cons_zero, List.set_cons_succ]
          refine held_off (i := 11) rfl (by kernel_rfl) (by kernel_rfl) (by kernel_rfl) (fun _ _ _ h => h) (by rfl) hHeld ?_
          try simp only [Act.put, List.setIfInBounds_toArray, List.set_cons_zero, List.set_cons_succ]
          refine held_off (i := 12) rfl (by kernel_rfl) (by kernel_rfl) (by kernel_rfl) (fun _ _ _ h => h) (by rfl) hHeld ?_
          try simp only [Act.put, List.setIfInBounds_toArray, List.set_cons_zero, List.set_cons_succ]
          refine held_off (i := 13) rfl (by kernel_rfl) (by kernel_rfl) (by kernel_rfl) (fun _ _ _ h => h) (by rfl) hHeld ?_
          try simp only [Act.put, List.setIfInBounds_toArray, List.set_cons_zero, List.set_cons_succ]
          refine held_off (i := 14) rfl (by kernel_rfl) (by kernel_rfl) (by kernel_rfl) (fun _ _ _ h => h) (by rfl) hHeld ?_
          try simp only [Act.put, List.setIfInBounds_toArray, List.set_cons_zero, List.set_cons_succ]
          refine held_off (i := 15) rfl (by kernel_rfl) (by kernel_rfl) (by kernel_rfl) (fun _ _ _ h => h) (by rfl) hHeld ?_
          try simp only [Act.put, List.setIfInBounds_toArray, List.set_cons_zero, List.set_cons_succ]
          refine held_off (i := 16) rfl (by kernel_rfl) (by kernel_rfl) (by kernel_rfl) (fun _ _ _ h => h) (by rfl) hHeld ?_
          try simp only [Act.put, List.setIfInBounds_toArray, List.set_cons_zero, List.set_cons_succ]
          refine held_off (i := 17) rfl (by kernel_rfl) (by kernel_rfl) (by kernel_rfl) (fun _ _ _ h => h) (by rfl) hHeld ?_
          try simp only [Act.put, List.setIfInBounds_toArray, List.set_cons_zero, List.set_cons_succ]
          refine held_take (i := 18) (v := ?_) rfl (by kernel_rfl) (by kernel_rfl) (by kernel_rfl) (fun _ _ _ h => h) (by rfl) hHeld ?_ ?_
          rotate_left 1
          · (intro w hSw; (try dsimp only at hSw); go_simp; try (with_reducible rfl))
          try simp only [Act.put, List.setIfInBounds_toArray, List.set_cons_zero, List.set_cons_succ]
          refine held_take (i := 19) (v := ?_) rfl (by kernel_rfl) (by kernel_rfl) (by kernel_rfl) (fun _ _ _ h => h) (by rfl) hHeld ?_ ?_
          rotate_left 1
          · (intro w hSw; (try dsimp only at hSw); go_simp; try (with_reducible rfl))
          try simp only [Act.put, List.setIfInBounds_toArray, List.set_cons_zero, List.set_cons_succ]
          refine wpAnyH_done (by kernel_rfl) ?_ _
          skip
          go_wp2_with fail
          go_ret
          exact ⟨rfl, HB22.out.drew⟩
        by_cases hnb0 : nb = 0
        · have hq1 : ((na : Int) == 0) = false := by simp; exact hna0
          have hq2 : ((nb : Int) == 0) = true := by simp [hnb0]
          clear hna0 hnb0
          go_upto_region 21 with fail
          refine wp_region_held_drew (S := (fun _ => True)) (by kernel_rfl) (trivial) (fun hHeld => ?_)
          refine held_take (i := 0) (v := ?_) rfl (by kernel_rfl) (by kernel_rfl) (by kernel_rfl) (fun _ _ _ h => h) (by rfl) hHeld ?_ ?_
          rotate_left 1
          · (intro w hSw; (try dsimp only at hSw); go_simp; try (with_reducible rfl))
          try simp only [Act.put, List.setIfInBounds_toArray, List.set_cons_zero, List.set_cons_succ]
          refine held_take (i := 1) (v := ?_) rfl (by kernel_rfl) (by kernel_rfl) (by kernel_rfl) (fun _ _ _ h => h) (by rfl) hHeld ?_ ?_
          rotate_left 1
          · (intro w hSw; (try dsimp only at hSw); go_simp; try (with_reducible rfl))
          try simp only [Act.put, List.setIfInBounds_toArray, List.set_cons_zero, List.set_cons_succ]
          refine held_take (i := 2) (v := ?_) rfl (by kernel_rfl) (by kernel_rfl) (by kernel_rfl) (fun _ _ _ h => h) (by rfl) hHeld ?_ ?_
          rotate_left 1
          · (intro w hSw; (try dsimp only at hSw); go_simp; try (with_reducible rfl))
          try simp only [Act.put, List.setIfInBounds_toArray, List.set_cons_zero, List.set_cons_succ]
          refine held_take (i := 3) (v := ?_) rfl (by kernel_rfl) (by kernel_rfl) (by kernel_rfl) (fun _ _ _ h => h) (by rfl) hHeld ?_ ?_
          rotate_left 1
          · (intro w hSw; (try dsimp only at hSw); go_simp; try (with_reducible rfl))
          try simp only [Act.put, List.setIfInBounds_toArray, List.set_cons_zero, List.set_cons_succ]
          refine held_take (i := 4) (v := ?_) rfl (by kernel_rfl) (by kernel_rfl) (by kernel_rfl) (fun _ _ _ h => h) (by rfl) hHeld ?_ ?_
          rotate_left 1
          · (intro w hSw; (try dsimp only at hSw); go_simp; try (with_reducible rfl))
          try simp only [Act.put, List.setIfInBounds_toArray, List.set_cons_zero, List.set_cons_succ]
          refine held_take (i := 5) (v := ?_) rfl (by kernel_rfl) (by kernel_rfl) (by kernel_rfl) (fun _ _ _ h => h) (by rfl) hHeld ?_ ?_
          rotate_left 1
          · (intro w hSw; (try dsimp only at hSw); go_simp; try (with_reducible rfl))
          try simp only [Act.put, List.setIfInBounds_toArray, List.set_cons_zero, List.set_cons_succ]
          refine held_take (i := 6) (v := ?_) rfl (by kernel_rfl) (by kernel_rfl) (by kernel_rfl) (fun _ _ _ h => h) (by rfl) hHeld ?_ ?_
          rotate_left 1
          · (intro w hSw; (try dsimp only at hSw); go_simp; try (with_reducible rfl))
          try simp only [Act.put, List.setIfInBounds_toArray, List.set_cons_zero, List.set_cons_succ]
          refine held_take (i := 7) (v := ?_) rfl (by kernel_rfl) (by kernel_rfl) (by kernel_rfl) (fun _ _ _ h => h) (by rfl) hHeld ?_ ?_
          rotate_left 1
          · (intro w hSw; (try dsimp only at hSw); go_simp; try (with_reducible rfl))
          try simp only [Act.put, List.setIfInBounds_toArray, List.set_cons_zero, List.set_cons_succ]
          refine held_take (i := 8) (v := ?_) rfl (by kernel_rfl) (by kernel_rfl) (by kernel_rfl) (fun _ _ _ h => h) (by rfl) hHeld ?_ ?_
          rotate_left 1
          · (intro w hSw; (try dsimp only at hSw); go_simp; try (with_reducible rfl))
          try simp only [Act.put, List.setIfInBounds_toArray, List.set_cons_zero, List.set_cons_succ]
          refine held_off (i := 9) rfl (by kernel_rfl) (by kernel_rfl) (by kernel_rfl) (fun _ _ _ h => h) (by rfl) hHeld ?_
          try simp only [Act.put, List.setIfInBounds_toArray, List.set_cons_zero, List.set_cons_succ]
          refine held_off (i := 10) rfl (by kernel_rfl) (by kernel_rfl) (by kernel_rfl) (fun _ _ _ h => h) (by rfl) hHeld ?_
          try simp only [Act.put, List.setIfInBounds_toArray, List.set_cons_zero, List.set_cons_succ]
          refine held_off (i := 11) rfl (by kernel_rfl) (by kernel_rfl) (by kernel_rfl) (fun _ _ _ h => h) (by rfl) hHeld ?_
          try simp only [Act.put, List.setIfInBounds_toArray, List.set_cons_zero, List.set_cons_succ]
          refine held_off (i := 12) rfl (by kernel_rfl) (by kernel_rfl) (by kernel_rfl) (fun _ _ _ h => h) (by rfl) hHeld ?_
          try simp only [Act.put, List.setIfInBounds_toArray, List.set_cons_zero, List.set_cons_succ]
          refine held_off (i := 13) rfl (by kernel_rfl) (by kernel_rfl) (by kernel_rfl) (fun _ _ _ h => h) (by rfl) hHeld ?_
          try simp only [Act.put, List.setIfInBounds_toArray, List.set_cons_zero, List.set_cons_succ]
          refine held_off (i := 14) rfl (by kernel_rfl) (by kernel_rfl) (by kernel_rfl) (fun _ _ _ h => h) (by rfl) hHeld ?_
          try simp only [Act.put, List.setIfInBounds_toArray, List.set_cons_zero, List.set_cons_succ]
          refine held_off (i := 15) rfl (by kernel_rfl) (by kernel_rfl) (by kernel_rfl) (fun _ _ _ h => h) (by rfl) hHeld ?_
          try simp only [Act.put, List.setIfInBounds_toArray, List.set_cons_zero, List.set_cons_succ]
          refine held_off (i := 16) rfl (by kernel_rfl) (by kernel_rfl) (by kernel_rfl) (fun _ _ _ h => h) (by rfl) hHeld ?_
          try simp only [Act.put, List.setIfInBounds_toArray, List.set_cons_zero, List.set_cons_succ]
          refine held_off (i := 17) rfl (by kernel_rfl) (by kernel_rfl) (by kernel_rfl) (fun _ _ _ h => h) (by rfl) hHeld ?_
          try simp only [Act.put, List.setIfInBounds_toArray, List.set_cons_zero, List.set_cons_succ]
          refine held_take (i := 18) (v := ?_) rfl (by kernel_rfl) (by kernel_rfl) (by kernel_rfl) (fun _ _ _ h => h) (by rfl) hHeld ?_ ?_
          rotate_left 1
          · (intro w hSw; (try dsimp only at hSw); go_simp; try (with_reducible rfl))
          try simp only [Act.put, List.setIfInBounds_toArray, List.set_cons_zero, List.set_cons_succ]
          refine held_take (i := 19) (v := ?_) rfl (by kernel_rfl) (by kernel_rfl) (by kernel_rfl) (fun _ _ _ h => h) (by rfl) hHeld ?_ ?_
          rotate_left 1
          · (intro w hSw; (try dsimp only at hSw); go_simp; try (with_reducible rfl))
          try simp only [Act.put, List.setIfInBounds_toArray, List.set_cons_zero, List.set_cons_succ]
          refine wpAnyH_done (by kernel_rfl) ?_ _
          skip
          go_wp2_with fail
          go_ret
          exact ⟨rfl, HB22.out.drew⟩
        have hq1 : ((na : Int) == 0) = false := by simp; exact hna0
        have hq2 : ((nb : Int) == 0) = false := by simp; exact hnb0
        have HIA2 := Lib.hid (HIA.out (by omega)); have HIB2 := Lib.hid (HIB.out (by omega))
        clear hna0 hnb0
        by_cases hab : a = b
        · have hpk := is_inj HIA2.out (by rw [hab]; exact HIB2.out)
          obtain ⟨s, hs⟩ : ∃ s, str a = s := ⟨_, rfl⟩
          have HCA : Hid (∀ W, Below w22.heap.size w22 W → (convert 22 9 (.slice Aa na ca)).run Tryd.prog W = .ok (.string s) W) := fun W hb => by rw [← hs]; exact conv_rb (HR22a.out.below hb) na ca HNA.out
          have HCB : Hid (∀ W, Below w22.heap.size w22 W → (convert 22 9 (.slice Ab nb cb)).run Tryd.prog W = .ok (.string s) W) := fun W hb => by rw [← hs, hab]; exact conv_rb (HR22b.out.below hb) nb cb HNB.out
          have HEQ := Lib.hid (eqpacket_any k f t id fi A x X c ac fr su k3 f3 t3 id3 fi3 A3 l3 n3 c3 ac3 fr3 su3 w22.drew (HRX.out.next HB22.out.drew) (HRL.out.next HBC.out.drew) HX.out HN3.out true (by
            have e := hpk
            simp only [Pk.mk.injEq] at e
            obtain ⟨e0, e1, e2, e3, e4, e5, e6, e7, e8⟩ := e
            exact ⟨fun _ => ⟨e0, e1, e2, e3, e4, e8, e5, e6, e7⟩, fun _ => rfl⟩))
          clear hpk hab hs
          go_upto_region 21 with fail
          refine wp_region_held_drew (S := (fun w' => ((convert 22 9 (.slice Aa na ca)).run Tryd.prog w' = .ok (.string s) w' ∧ (convert 22 9 (.slice Ab nb cb)).run Tryd.prog w' = .ok (.string s) w') ∧ PkM w' w.heap.size k f t id fi A X c ac fr su ∧ PkM w' (w.heap.size + 1) k3 f3 t3 id3 fi3 A3 n3 c3 ac3 fr3 su3)) (by kernel_rfl) (⟨⟨HCA.out _ ((Below.refl _ _).drew), HCB.out _ ((Below.refl _ _).drew)⟩, HP22.out, HR22.out⟩) (fun hHeld => ?_)
          refine held_take (i := 0) (v := ?_) rfl (by kernel_rfl) (by kernel_rfl) (by kernel_rfl) (fun _ _ _ h => h) (by rfl) hHeld ?_ ?_
          rotate_left 1
          · (intro w hSw; (try dsimp only at hSw); go_simp; try (with_reducible rfl))
          try simp only [Act.put, List.setIfInBounds_toArray, List.set_cons_zero, List.set_cons_succ]
          refine held_take (i := 1) (v := ?_) rfl (by kernel_rfl) (by kernel_rfl) (by kernel_rfl) (fun _ _ _ h => h) (by rfl) hHeld ?_ ?_
          rotate_left 1
          · (intro w hSw; (try dsimp only at hSw); go_simp; try (with_reducible rfl))
          try simp only [Act.put, List.setIfInBounds_toArray, List.set_cons_zero, List.set_cons_succ]
          refine held_take (i := 2) (v := ?_) rfl (by kernel_rfl) (by kernel_rfl) (by kernel_rfl) (fun _ _ _ h => h) (by rfl) hHeld ?_ ?_
          rotate_left 1
          · (intro w hSw; (try dsimp only at hSw); go_simp; try (with_reducible rfl))
          try simp only [Act.put, List.setIfInBounds_toArray, List.set_cons_zero, List.set_cons_succ]
          refine held_take (i := 3) (v := ?_) rfl (by kernel_rfl) (by kernel_rfl) (by kernel_rfl) (fun _ _ _ h => h) (by rfl) hHeld ?_ ?_
          rotate_left 1
          · (intro w hSw; (try dsimp only at hSw); go_simp; try (with_reducible rfl))
          try simp only [Act.put, List.setIfInBounds_toArray, List.set_cons_zero, List.set_cons_succ]
          refine held_take (i := 4) (v := ?_) rfl (by kernel_rfl) (by kernel_rfl) (by kernel_rfl) (fun _ _ _ h => h) (by rfl) hHeld ?_ ?_
          rotate_left 1
          · (intro w hSw; (try dsimp only at hSw); go_simp; try (with_reducible rfl))
          try simp only [Act.put, List.setIfInBounds_toArray, List.set_cons_zero, List.set_cons_succ]
          refine held_take (i := 5) (v := ?_) rfl (by kernel_rfl) (by kernel_rfl) (by kernel_rfl) (fun _ _ _ h => h) (by rfl) hHeld ?_ ?_
          rotate_left 1
          · (intro w hSw; (try dsimp only at hSw); go_simp; try (with_reducible rfl))
          try simp only [Act.put, List.setIfInBounds_toArray, List.set_cons_zero, List.set_cons_succ]
          refine held_take (i := 6) (v := ?_) rfl (by kernel_rfl) (by kernel_rfl) (by kernel_rfl) (fun _ _ _ h => h) (by rfl) hHeld ?_ ?_
          rotate_left 1
          · (intro w hSw; (try dsimp only at hSw); go_simp; try (with_reducible rfl))
          try simp only [Act.put, List.setIfInBounds_toArray, List.set_cons_zero, List.set_cons_succ]
          refine held_take (i := 7) (v := ?_) rfl (by kernel_rfl) (by kernel_rfl) (by kernel_rfl) (fun _ _ _ h => h) (by rfl) hHeld ?_ ?_
          rotate_left 1
          · (intro w hSw; (try dsimp only at hSw); go_simp; try (with_reducible rfl))
          try simp only [Act.put, List.setIfInBounds_toArray, List.set_cons_zero, List.set_cons_succ]
          refine held_take (i := 8) (v := ?_) rfl (by kernel_rfl) (by kernel_rfl) (by kernel_rfl) (fun _ _ _ h => h) (by rfl) hHeld ?_ ?_
          rotate_left 1
          · (intro w hSw; (try dsimp only at hSw); go_simp; try (with_reducible rfl))
          try simp only [Act.put, List.setIfInBounds_toArray, List.set_cons_zero, List.set_cons_succ]
          refine held_take (i := 9) (v := ?_) rfl (by kernel_rfl) (by kernel_rfl) (by kernel_rfl) (fun _ _ _ h => h) (by rfl) hHeld ?_ ?_
          rotate_left 1
          · (intro w hSw; (try dsimp only at hSw); go_simp; try (with_reducible rfl))
          try simp only [Act.put, List.setIfInBounds_toArray, List.set_cons_zero, List.set_cons_succ]
          refine held_take (i := 10) (v := ?_) rfl (by kernel_rfl) (by kernel_rfl) (by kernel_rfl) (fun _ _ _ h => h) (by rfl) hHeld ?_ ?_
          rotate_left 1
          · (intro w hSw; (try dsimp only at hSw); go_simp; try (with_reducible rfl))
          try simp only [Act.put, List.setIfInBounds_toArray, List.set_cons_zero, List.set_cons_succ]
          refine held_take (i := 11) (v := ?_) rfl (by kernel_rfl) (by kernel_rfl) (by kernel_rfl) (fun _ _ _ h => h) (by rfl) hHeld ?_ ?_
          rotate_left 1
          · (intro w hSw; (try dsimp only at hSw); go_simp; try (with_reducible rfl))
          try simp only [Act.put, List.setIfInBounds_toArray, List.set_cons_zero, List.set_cons_succ]
          refine held_take (i := 12) (v := ?_) rfl (by kernel_rfl) (by kernel_rfl) (by kernel_rfl) (fun _ _ _ h => h) (by rfl) hHeld ?_ ?_
          rotate_left 1
          · (intro w hSw; (try dsimp only at hSw); go_simp; try (with_reducible rfl))
          try simp only [Act.put, List.setIfInBounds_toArray, List.set_cons_zero, List.set_cons_succ]
          refine held_take (i := 13) (v := ?_) rfl (by kernel_rfl) (by kernel_rfl) (by kernel_rfl) (fun _ _ _ h => h) (by rfl) hHeld ?_ ?_
          rotate_left 1
          · (intro w hSw; (try dsimp only at hSw); go_simp; try (with_reducible rfl))
          try simp only [Act.put, List.setIfInBounds_toArray, List.set_cons_zero, List.set_cons_succ]
          refine held_take (i := 14) (v := (pkV k f t id fi A X c ac fr su)) rfl (by kernel_rfl) (by kernel_rfl) (by kernel_rfl) (fun _ _ _ h => h) (by rfl) hHeld (exec_load_pk (.tmp 3) rfl w.heap.size (by rfl) (fun w h => h.2.1)) ?_
          try simp only [Act.put, List.setIfInBounds_toArray, List.set_cons_zero, List.set_cons_succ]
          refine held_take (i := 15) (v := (pkV k3 f3 t3 id3 fi3 A3 n3 c3 ac3 fr3 su3)) rfl (by kernel_rfl) (by kernel_rfl) (by kernel_rfl) (fun _ _ _ h => h) (by rfl) hHeld (exec_load_pk (.tmp 4) rfl (w.heap.size + 1) (by rfl) (fun w h => h.2.2)) ?_
          try simp only [Act.put, List.setIfInBounds_toArray, List.set_cons_zero, List.set_cons_succ]
          refine held_one (i := 16) rfl (by kernel_rfl) (by rfl) (fun K hK => ?_)
          go_simp
          (with_reducible refine HEQ.out.mono ?_)
          rintro e w23 ⟨rfl, hw23⟩
          have b23 : Below w22.heap.size w22 w23 := by rw [← hw23]; exact ((Below.refl w22.heap.size w22).drew.alloc (Nat.le_refl _) _).alloc (by simp) _
          have HB23 := Lib.hid (HB22.out.trans (b23.mono HB22.out.size))
          clear hw23
          refine hK.out _ _ (⟨⟨HCA.out _ b23, HCB.out _ b23⟩, HP22.out.below b23 HP22.out.lt, HR22.out.below b23 HR22.out.lt⟩) (fun hHeld2 => ?_)
          clear hK K hHeld; have hHeld := hHeld2; clear hHeld2
          try simp only [Act.put, List.setIfInBounds_toArray, List.set_cons_zero, List.set_cons_succ]
          refine held_take (i := 17) (v := ?_) rfl (by kernel_rfl) (by kernel_rfl) (by kernel_rfl) (fun _ _ _ h => h) (by rfl) hHeld ?_ ?_
          rotate_left 1
          · (intro w hSw; (try dsimp only at hSw); go_simp; try (with_reducible rfl))
          try simp only [Act.put, List.setIfInBounds_toArray, List.set_cons_zero, List.set_cons_succ]
          refine held_take (i := 18) (v := ?_) rfl (by kernel_rfl) (by kernel_rfl) (by kernel_rfl) (fun _ _ _ h => h) (by rfl) hHeld ?_ ?_
          rotate_left 1
          · (intro w hSw; (try dsimp only at hSw); go_simp; try (with_reducible rfl))
          try simp only [Act.put, List.setIfInBounds_toArray, List.set_cons_zero, List.set_cons_succ]
          refine held_take (i := 19) (v := ?_) rfl (by kernel_rfl) (by kernel_rfl) (by kernel_rfl) (fun _ _ _ h => h) (by rfl) hHeld ?_ ?_
          rotate_left 1
          · (intro w hSw; (try dsimp only at hSw); go_simp; try (with_reducible rfl))
          try simp only [Act.put, List.setIfInBounds_toArray, List.set_cons_zero, List.set_cons_succ]
          refine wpAnyH_done (by kernel_rfl) ?_ _
          skip
          go_wp2_with fail
          go_ret
          exact ⟨rfl, HB23.out⟩
        · obtain ⟨s, hs⟩ : ∃ s, str a = s := ⟨_, rfl⟩
          obtain ⟨s2, hs2⟩ : ∃ s2, str b = s2 := ⟨_, rfl⟩
          have hss : (s.toList == s2.toList) = false := by
            rw [beq_eq_false_iff_ne, ← hs, ← hs2, str_toList, str_toList]
            exact hab
          have HCA : Hid (∀ W, Below w22.heap.size w22 W → (convert 22 9 (.slice Aa na ca)).run Tryd.prog W = .ok (.string s) W) := fun W hb => by rw [← hs]; exact conv_rb (HR22a.out.below hb) na ca HNA.out
          have HCB : Hid (∀ W, Below w22.heap.size w22 W → (convert 22 9 (.slice Ab nb cb)).run Tryd.prog W = .ok (.string s2) W) := fun W hb => by rw [← hs2]; exact conv_rb (HR22b.out.below hb) nb cb HNB.out
          have HEQ := Lib.hid (eqpacket_any k f t id fi A x X c ac fr su k3 f3 t3 id3 fi3 A3 l3 n3 c3 ac3 fr3 su3 w22.drew (HRX.out.next HB22.out.drew) (HRL.out.next HBC.out.drew) HX.out HN3.out false (by
            refine ⟨fun h => (by cases h), fun h => ?_⟩
            obtain ⟨e0, e1, e2, e3, e4, e5, e6, e7, e8⟩ := h
            refine absurd ?_ hab
            rw [← HENA.out, ← HENB.out, e0, e1, e2, e3, e4, e5, e6, e7, e8]))
          clear hab hs hs2
          go_upto_region 21 with fail
          refine wp_region_held_drew (S := (fun w' => ((convert 22 9 (.slice Aa na ca)).run Tryd.prog w' = .ok (.string s) w' ∧ (convert 22 9 (.slice Ab nb cb)).run Tryd.prog w' = .ok (.string s2) w') ∧ PkM w' w.heap.size k f t id fi A X c ac fr su ∧ PkM w' (w.heap.size + 1) k3 f3 t3 id3 fi3 A3 n3 c3 ac3 fr3 su3)) (by kernel_rfl) (⟨⟨HCA.out _ ((Below.refl _ _).drew), HCB.out _ ((Below.refl _ _).drew)⟩, HP22.out, HR22.out⟩) (fun hHeld => ?_)
          refine held_take (i := 0) (v := ?_) rfl (by kernel_rfl) (by kernel_rfl) (by kernel_rfl) (fun _ _ _ h => h) (by rfl) hHeld ?_ ?_
          rotate_left 1
          · (intro w hSw; (try dsimp only at hSw); go_simp; try (with_reducible rfl))
          try simp only [Act.put, List.setIfInBounds_toArray, List.set_cons_zero, List.set_cons_succ]
          refine held_take (i := 1) (v := ?_) rfl (by kernel_rfl) (by kernel_rfl) (by kernel_rfl) (fun _ _ _ h => h) (by rfl) hHeld ?_ ?_
          rotate_left 1
          · (intro w hSw; (try dsimp only at hSw); go_simp; try (with_reducible rfl))
          try simp only [Act.put, List.setIfInBounds_toArray, List.set_cons_zero, List.set_cons_succ]
          refine held_take (i := 2) (v := ?_) rfl (by kernel_rfl) (by kernel_rfl) (by kernel_rfl) (fun _ _ _ h => h) (by rfl) hHeld ?_ ?_
          rotate_left 1
          · (intro w hSw; (try dsimp only at hSw); go_simp; try (with_reducible rfl))
          try simp only [Act.put, List.setIfInBounds_toArray, List.set_cons_zero, List.set_cons_succ]
          refine held_take (i := 3) (v := ?_) rfl (by kernel_rfl) (by kernel_rfl) (by kernel_rfl) (fun _ _ _ h => h) (by rfl) hHeld ?_ ?_
          rotate_left 1
          · (intro w hSw; (try dsimp only at hSw); go_simp; try (with_reducible rfl))
          try simp only [Act.put, List.setIfInBounds_toArray, List.set_cons_zero, List.set_cons_succ]
          refine held_take (i := 4) (v := ?_) rfl (by kernel_rfl) (by kernel_rfl) (by kernel_rfl) (fun _ _ _ h => h) (by rfl) hHeld ?_ ?_
          rotate_left 1
          · (intro w hSw; (try dsimp only at hSw); go_simp; try (with_reducible rfl))
          try simp only [Act.put, List.setIfInBounds_toArray, List.set_cons_zero, List.set_cons_succ]
          refine held_take (i := 5) (v := ?_) rfl (by kernel_rfl) (by kernel_rfl) (by kernel_rfl) (fun _ _ _ h => h) (by rfl) hHeld ?_ ?_
          rotate_left 1
          · (intro w hSw; (try dsimp only at hSw); go_simp; try (with_reducible rfl))
          try simp only [Act.put, List.setIfInBounds_toArray, List.set_cons_zero, List.set_cons_succ]
          refine held_take (i := 6) (v := ?_) rfl (by kernel_rfl) (by kernel_rfl) (by kernel_rfl) (fun _ _ _ h => h) (by rfl) hHeld ?_ ?_
          rotate_left 1
          · (intro w hSw; (try dsimp only at hSw); go_simp; try (with_reducible rfl))
          try simp only [Act.put, List.setIfInBounds_toArray, List.set_cons_zero, List.set_cons_succ]
          refine held_take (i := 7) (v := ?_) rfl (by kernel_rfl) (by kernel_rfl) (by kernel_rfl) (fun _ _ _ h => h) (by rfl) hHeld ?_ ?_
          rotate_left 1
          · (intro w hSw; (try dsimp only at hSw); go_simp; try (with_reducible rfl))
          try simp only [Act.put, List.setIfInBounds_toArray, List.set_cons_zero, List.set_cons_succ]
          refine held_take (i := 8) (v := ?_) rfl (by kernel_rfl) (by kernel_rfl) (by kernel_rfl) (fun _ _ _ h => h) (by rfl) hHeld ?_ ?_
          rotate_left 1
          · (intro w hSw; (try dsimp only at hSw); go_simp; try (with_reducible rfl))
          try simp only [Act.put, List.setIfInBounds_toArray, List.set_cons_zero, List.set_cons_succ]
          refine held_take (i := 9) (v := ?_) rfl (by kernel_rfl) (by kernel_rfl) (by kernel_rfl) (fun _ _ _ h => h) (by rfl) hHeld ?_ ?_
          rotate_left 1
          · (intro w hSw; (try dsimp only at hSw); go_simp; try (with_reducible rfl))
          try simp only [Act.put, List.setIfInBounds_toArray, List.set_cons_zero, List.set_cons_succ]
          refine held_take (i := 10) (v := ?_) rfl (by kernel_rfl) (by kernel_rfl) (by kernel_rfl) (fun _ _ _ h => h) (by rfl) hHeld ?_ ?_
          rotate_left 1
          · (intro w hSw; (try dsimp only at hSw); go_simp; try (with_reducible rfl))
          try simp only [Act.put, List.setIfInBounds_toArray, List.set_cons_zero, List.set_cons_succ]
          refine held_take (i := 11) (v := ?_) rfl (by kernel_rfl) (by kernel_rfl) (by kernel_rfl) (fun _ _ _ h => h) (by rfl) hHeld ?_ ?_
          rotate_left 1
          · (intro w hSw; (try dsimp only at hSw); go_simp; try (with_reducible rfl))
          try simp only [Act.put, List.setIfInBounds_toArray, List.set_cons_zero, List.set_cons_succ]
          refine held_take (i := 12) (v := ?_) rfl (by kernel_rfl) (by kernel_rfl) (by kernel_rfl) (fun _ _ _ h => h) (by rfl) hHeld ?_ ?_
          rotate_left 1
          · (intro w hSw; (try dsimp only at hSw); go_simp; try (with_reducible rfl))
          try simp only [Act.put, List.setIfInBounds_toArray, List.set_cons_zero, List.set_cons_succ]
          refine held_take (i := 13) (v := ?_) rfl (by kernel_rfl) (by kernel_rfl) (by kernel_rfl) (fun _ _ _ h => h) (by rfl) hHeld ?_ ?_
          rotate_left 1
          · (intro w hSw; (try dsimp only at hSw); go_simp; try (with_reducible rfl))
          try simp only [Act.put, List.setIfInBounds_toArray, List.set_cons_zero, List.set_cons_succ]
          refine held_take (i := 14) (v := (pkV k f t id fi A X c ac fr su)) rfl (by kernel_rfl) (by kernel_rfl) (by kernel_rfl) (fun _ _ _ h => h) (by rfl) hHeld (exec_load_pk (.tmp 3) rfl w.heap.size (by rfl) (fun w h => h.2.1)) ?_
          try simp only [Act.put, List.setIfInBounds_toArray, List.set_cons_zero, List.set_cons_succ]
          refine held_take (i := 15) (v := (pkV k3 f3 t3 id3 fi3 A3 n3 c3 ac3 fr3 su3)) rfl (by kernel_rfl) (by kernel_rfl) (by kernel_rfl) (fun _ _ _ h => h) (by rfl) hHeld (exec_load_pk (.tmp 4) rfl (w.heap.size + 1) (by rfl) (fun w h => h.2.2)) ?_
          try simp only [Act.put, List.setIfInBounds_toArray, List.set_cons_zero, List.set_cons_succ]
          refine held_one (i := 16) rfl (by kernel_rfl) (by rfl) (fun K hK => ?_)
          go_simp
          (with_reducible refine HEQ.out.mono ?_)
          rintro e w23 ⟨rfl, hw23⟩
          have b23 : Below w22.heap.size w22 w23 := by rw [← hw23]; exact ((Below.refl w22.heap.size w22).drew.alloc (Nat.le_refl _) _).alloc (by simp) _
          have HB23 := Lib.hid (HB22.out.trans (b23.mono HB22.out.size))
          clear hw23
          refine hK.out _ _ (⟨⟨HCA.out _ b23, HCB.out _ b23⟩, HP22.out.below b23 HP22.out.lt, HR22.out.below b23 HR22.out.lt⟩) (fun hHeld2 => ?_)
          clear hK K hHeld; have hHeld := hHeld2; clear hHeld2
          try simp only [Act.put, List.setIfInBounds_toArray, List.set_cons_zero, List.set_cons_succ]
          refine held_take (i := 17) (v := ?_) rfl (by kernel_rfl) (by kernel_rfl) (by kernel_rfl) (fun _ _ _ h => h) (by rfl) hHeld ?_ ?_
          rotate_left 1
          · (intro w hSw; (try dsimp only at hSw); go_simp; try (with_reducible rfl))
          try simp only [Act.put, List.setIfInBounds_toArray, List.set_cons_zero, List.set_cons_succ]
          refine held_take (i := 18) (v := ?_) rfl (by kernel_rfl) (by kernel_rfl) (by kernel_rfl) (fun _ _ _ h => h) (by rfl) hHeld ?_ ?_
          rotate_left 1
          · (intro w hSw; (try dsimp only at hSw); go_simp; try (with_reducible rfl))
          try simp only [Act.put, List.setIfInBounds_toArray, List.set_cons_zero, List.set_cons_succ]
          refine held_take (i := 19) (v := ?_) rfl (by kernel_rfl) (by kernel_rfl) (by kernel_rfl) (fun _ _ _ h => h) (by rfl) hHeld ?_ ?_
          rotate_left 1
          · (intro w hSw; (try dsimp only at hSw); go_simp; try (with_reducible rfl))
          try simp only [Act.put, List.setIfInBounds_toArray, List.set_cons_zero, List.set_cons_succ]
          refine wpAnyH_done (by kernel_rfl) ?_ _
          skip
          go_wp2_with fail
          go_ret
          exact ⟨rfl, HB23.out⟩
end Go.Proofs.YtjbieehehgjnmaaDoor
