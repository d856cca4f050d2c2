/- WALK of the law PacketBytes. -/
import Derived.Test.YtjbieehehgjnmaaDoorQr
import Derived.Test.YtjbieehehgjnmaaDoorQs
import Derived.Test.YtjbieehehgjnmaaDoorKb
import Derived.Deep.DeepCutAuto
namespace Go.Proofs.YtjbieehehgjnmaaDoor
set_option maxRecDepth 100000
open Go.RowKit
set_option linter.unusedVariables false
set_option linter.unusedSimpArgs false

theorem wpList_append_n {w : World} {ops : Array Oper} {rest : List Oper} {o : Oper} {a : Act} {Q : Exit → Act → World → Prop} (hgd : o.guard = none) (s x : Operand)
    (ho : o.op = .call { callee := .builtin .append, args := #[s, x], argTypes := #[22, 22] })
    (base : Nat) (v : Value) (xs l : List UInt8) (hs : a.eval s = v) (hown : OB w base v xs)
    (B : Nat) (A : Option Addr) (n c : Nat) (hx : a.eval x = .slice A n c) (hn : l.length = n) (hr : RB w B A l) (hlen : xs.length + l.length ≤ 140737488355328) (hbase : base ≤ w.heap.size)
    (h : ∀ v' w', OB w' base v' (xs ++ l) → w.grownBy w' v.ownBlock → (v'.ownBlock = v.ownBlock ∨ v'.ownBlock = some w.heap.size) → wpList Tryd.prog ops Q rest (a.put o.dst v') w') : wpList Tryd.prog ops Q (o :: rest) a w := by
  subst hn
  exact wpList_append_bytes hgd s x ho base v xs l hs hown B A c hx hr hlen hbase h
theorem wpList_append_gd {w : World} {ops : Array Oper} {rest : List Oper} {o : Oper} {a : Act} {Q : Exit → Act → World → Prop} (hw : Region.wanted o (yielded ops a.tmps) = true) (s x : Operand)
    (ho : o.op = .call { callee := .builtin .append, args := #[s, x], argTypes := #[22, 22] })
    (base : Nat) (v : Value) (xs l : List UInt8) (hs : a.eval s = v) (hown : OB w base v xs)
    (B : Nat) (A : Option Addr) (n c : Nat) (hx : a.eval x = .slice A n c) (hn : l.length = n) (hr : RB w B A l) (hlen : xs.length + l.length ≤ 140737488355328) (hbase : base ≤ w.heap.size)
    (h : ∀ v' w', OB w' base v' (xs ++ l) → w.grownBy w' v.ownBlock → (v'.ownBlock = v.ownBlock ∨ v'.ownBlock = some w.heap.size) → wpList Tryd.prog ops Q rest (a.put o.dst v') w') : wpList Tryd.prog ops Q (o :: rest) a w := by
  subst hn
  exact wpList_step fun K hK => by
    rw [if_pos hw]
    exact wp_append_bytes s x ho base v xs l hs hown B A c hx hr hlen hbase (fun v' w' h1 h2 h3 => hK _ _ (h v' w' h1 h2 h3))
set_option maxHeartbeats 16000000 in
theorem bytes_law (k f t id fi : Int) (A : Option Addr) (l : List UInt8) (n c : Nat) (ac fr su at_ ct a : Int) (w : World) (hT : TabW w) (h4 : 0 ≤ su) (h5 : su ≤ 4294967295) (hr : RB w w.heap.size A l) (hn : l.length = n) (hc : n ≤ c) (hm : c ≤ maxLen)
    (n1 : -9223372036854775808 ≤ at_) (n2 : at_ ≤ 9223372036854775807) (n3 : -9223372036854775808 ≤ ct) (n4 : ct ≤ 9223372036854775807) (wa : (Lit.int .u8 a).wf = true) :
    Calls Tryd.prog 3 #[pkV k f t id fi A n c ac fr su, .int .i64 at_, .int .i64 ct, .int .u8 a] w fun e w' => e = .returned (.bool true) ∧ Below w.heap.size w w' := by
  obtain ⟨W1, hW1⟩ : ∃ W1, W1 = w.alloc (pkO k f t id fi A n c ac fr su) := ⟨_, rfl⟩
  have B1 : Below w.heap.size w W1 := by rw [hW1]; exact (Below.refl _ _).alloc (Nat.le_refl _) _
  have HB1 := Lib.hid B1; have HT := Lib.hid hT
  have HBG := Lib.hid (begun15_any W1 (hT.below B1 hT.lt))
  have HP1 : Hid (PkM W1 w.heap.size k f t id fi A n c ac fr su) := by show PkM _ _ _ _ _ _ _ _ _ _ _ _ _; rw [hW1]; exact PkM.new w _ _ _ _ _ _ _ _ _ _ _
  have S1 : Hid (w.heap.size < W1.heap.size) := by show _ < _; rw [hW1]; simp
  obtain ⟨x, hx⟩ : ∃ x, l.take 40 = x := ⟨_, rfl⟩
  obtain ⟨X, hX⟩ : ∃ X, x.length = X := ⟨_, rfl⟩
  have hXc : X ≤ c := by rw [← hx, List.length_take] at hX; omega
  have HCU := Lib.hid (fun W => lcut_any k f t id fi A l n c ac fr su W hn hc hm X (by rw [hx, hX]))
  have HRX : Hid (RB w w.heap.size A x) := by show RB _ _ _ _; rw [← hx]; exact hr.take 40
  have HW1 := Lib.hid hW1; have HM := Lib.hid hm; have HX := Lib.hid hX; have HXC := Lib.hid hXc
  have HXM := Lib.hid (Nat.le_trans hXc hm)
  have hxb : ((UInt8.ofNat a.toNat).toNat : Int) = a := byte_back wa
  obtain ⟨xb, hxbb⟩ : ∃ xb, UInt8.ofNat a.toNat = xb := ⟨_, rfl⟩
  rw [hxbb] at hxb
  have HXB := Lib.hid hxb
  obtain ⟨b, hb⟩ : ∃ b, encC k f t id fi ac fr su x = b := ⟨_, rfl⟩
  have hbl : b.length ≤ 100 := by rw [← hb]; exact enc_short _ _ _ _ _ _ _ _ _
  have HBL := Lib.hid hbl
  have HENC := Lib.hid hb
  obtain ⟨s, hs⟩ : ∃ s, str b = s := ⟨_, rfl⟩
  have HST := Lib.hid hs
  have N1 := Lib.hid n1; have N2 := Lib.hid n2; have N3 := Lib.hid n3; have N4 := Lib.hid n4
  obtain ⟨m, hm5⟩ : ∃ m, b.length = m := ⟨_, rfl⟩
  have HM5 := Lib.hid hm5
  clear hT hr hn hc hm hx hX hXc hW1 B1 hxb hxbb hb hbl hs n1 n2 n3 n4 hm5
  by_cases hmay : mayC k f t id fi ac fr su X
  · have HIS : Hid (IsK b ⟨k, f, t, id, fi, ac, fr, su, x⟩) := by show IsK _ _; rw [← HENC.out]; exact enc_is (by rw [HX.out]; exact hmay) h4 h5
    have hpos : 0 < m := by have h := is_long HIS.out; rw [HM5.out] at h; omega
    have HMB := Lib.hid (decide_eq_true hmay)
    have HPOS := Lib.hid hpos
    clear hmay hpos
    go_enter Tryd.func3, Tryd.ntmps3
    go_wp2_with fail
    rw [← HW1.out]
    (with_reducible refine HBG.out.mono ?_)
    rintro e w2 ⟨rfl, hb2⟩
    have HP2 := Lib.hid (HP1.out.below hb2 S1.out); have HB2 := Lib.hid (HB1.out.trans (hb2.mono HB1.out.size))
    have S2 : Hid (w.heap.size < w2.heap.size) := Nat.lt_of_lt_of_le S1.out hb2.size
    obtain ⟨r0, r1, r2, r3, r4, r5, r6, r7, r8⟩ := HP2.out.c
    clear hb2
    go_wp2_with fail
    (with_reducible refine (HCU.out _).mono ?_)
    rintro e w3 ⟨rfl, hb3⟩
    have HP3 := Lib.hid (HP2.out.below hb3 S2.out); have HB3 := Lib.hid (HB2.out.trans (hb3.mono HB2.out.size)); have S3 : Hid (w.heap.size < w3.heap.size) := Nat.lt_of_lt_of_le S2.out hb3.size
    clear r0 r1 r2 r3 r4 r5 r6 r7 r8 hb3
    go_wp2_with (first
      | (refine wpList_store_pk rfl (.tmp 4) (.tmp 18) rfl w.heap.size (by rfl) HP3.out (by rfl) ?_; intro w4 p4 z4 g4; have HB4 := Lib.hid (below_row HB3.out g4 (Nat.le_refl _)); obtain ⟨r0, r1, r2, r3, r4, r5, r6, r7, r8⟩ := p4.c; have HE := Lib.hid (enc_any k f t id fi A x X c ac fr su w4 (HT.out.below HB4.out HT.out.lt) (HRX.out.next HB4.out) HX.out HXC.out HM.out h4 h5); have HP4 := Lib.hid p4; have S4 : Hid (w.heap.size < w4.heap.size) := p4.lt; clear p4 z4 g4))
    (with_reducible refine HE.out.mono ?_)
    rintro e w5 ⟨v5, rfl, o5, hb5⟩
    rw [HENC.out] at o5
    obtain ⟨A5, c5, rfl, hc5, hm5, hr5⟩ := o5.form_n m HM5.out
    have HB5 := Lib.hid (HB4.out.trans (hb5.mono HB4.out.size)); have HP5 := Lib.hid (HP4.out.below hb5 S4.out)
    have S5 : Hid (w.heap.size < w5.heap.size) := Nat.lt_of_lt_of_le S4.out hb5.size
    have HR5 := Lib.hid hr5; have HMC5 := Lib.hid hm5; have HC5 := Lib.hid hc5
    have HQ : Hid (∀ W, Below w5.heap.size w5 W → (convert 22 9 (.slice A5 m c5)).run Tryd.prog W = .ok (.string s) W) := fun W hb => by
      rw [← HST.out]; exact conv_rb (HR5.out.below hb) m c5 HM5.out
    clear r0 r1 r2 r3 r4 r5 r6 r7 r8 o5 hb5 hr5 hm5
    go_wp2_with fail
    go_upto_region 6 with fail
    have HMA := Lib.hid (may_any k f t id fi A X c ac fr su true HMB.out w5.drew HXM.out)
    refine wp_region_held_drew (S := (fun w' => PkM w' w.heap.size k f t id fi A X c ac fr su ∧ (convert 22 9 (.slice A5 m c5)).run Tryd.prog w' = .ok (.string s) w')) (by kernel_rfl) (⟨HP5.out, HQ.out _ ((Below.refl _ _).drew)⟩) (fun hHeld => ?_)
    refine held_take (i := 0) (v := (pkV k f t id fi A X c ac fr su)) rfl (by kernel_rfl) (by kernel_rfl) (by kernel_rfl) (fun _ _ _ h => h) (by rfl) hHeld (exec_load_pk (.tmp 4) rfl w.heap.size (by rfl) (fun w h => h.1)) ?_
    try simp only [Act.put, List.setIfInBounds_toArray, List.set_cons_zero, List.set_cons_succ]
    refine held_take (i := 2) (v := (pkV k f t id fi A X c ac fr su)) rfl (by kernel_rfl) (by kernel_rfl) (by kernel_rfl) (fun _ _ _ h => h) (by rfl) hHeld (exec_load_pk (.tmp 4) rfl w.heap.size (by rfl) (fun w h => h.1)) ?_
    try simp only [Act.put, List.setIfInBounds_toArray, List.set_cons_zero, List.set_cons_succ]
    refine held_one (i := 1) rfl (by kernel_rfl) (by rfl) (fun K hK => ?_)
    go_simp
    (with_reducible refine HMA.out.mono ?_)
    rintro e w6 ⟨rfl, hw6⟩
    have b6 : Below w5.heap.size w5 w6 := by rw [← hw6]; exact (Below.refl w5.heap.size w5).drew.alloc (Nat.le_refl _) _
    clear hw6
    have hk6 := HP5.out.below b6 S5.out
    have hq6 := HQ.out w6 b6
    have HRM := Lib.hid (refmay_any k f t id fi A X c ac fr su true HMB.out w6 HXM.out)
    refine hK.out _ _ (⟨hk6, hq6⟩) (fun hHeld2 => ?_)
    clear hK K hHeld; have hHeld := hHeld2; clear hHeld2
    try simp only [Act.put, List.setIfInBounds_toArray, List.set_cons_zero, List.set_cons_succ]
    refine held_one (i := 3) rfl (by kernel_rfl) (by rfl) (fun K hK => ?_)
    go_simp
    (with_reducible refine HRM.out.mono ?_)
    rintro e w7 ⟨rfl, hw7⟩
    have b7 : Below w5.heap.size w5 w7 := by rw [← hw7]; exact b6.alloc b6.size _
    clear hw7
    have hk7 := HP5.out.below b7 S5.out
    have hq7 := HQ.out w7 b7
    have HRP := Lib.hid (refpacket_any k f t id fi A x X c ac fr su w7 (HRX.out.next (HB5.out.trans (b7.mono HB5.out.size))) HX.out HXC.out HM.out h4 h5)
    refine hK.out _ _ (⟨hk7, hq7⟩) (fun hHeld2 => ?_)
    clear hK K hHeld; have hHeld := hHeld2; clear hHeld2
    try simp only [Act.put, List.setIfInBounds_toArray, List.set_cons_zero, List.set_cons_succ]
    refine held_take (i := 4) (v := ?_) rfl (by kernel_rfl) (by kernel_rfl) (by kernel_rfl) (fun _ _ _ h => h) (by rfl) hHeld ?_ ?_
    rotate_left 1
    · (intro w hSw; (try dsimp only at hSw); go_simp; try (with_reducible rfl))
    try simp only [Act.put, List.setIfInBounds_toArray, List.set_cons_zero, List.set_cons_succ]
    refine held_take (i := 5) (v := ?_) rfl (by kernel_rfl) (by kernel_rfl) (by kernel_rfl) (fun _ _ _ h => h) (by rfl) hHeld ?_ ?_
    rotate_left 1
    · (intro w hSw; (try dsimp only at hSw); go_simp; try (with_reducible rfl))
    try simp only [Act.put, List.setIfInBounds_toArray, List.set_cons_zero, List.set_cons_succ]
    refine held_take (i := 6) (v := ?_) rfl (by kernel_rfl) (by kernel_rfl) (by kernel_rfl) (fun _ _ _ h => h) (by rfl) hHeld ?_ ?_
    rotate_left 1
    · (intro w hSw; (try dsimp only at hSw); go_simp; try (with_reducible rfl))
    try simp only [Act.put, List.setIfInBounds_toArray, List.set_cons_zero, List.set_cons_succ]
    refine held_take (i := 7) (v := ?_) rfl (by kernel_rfl) (by kernel_rfl) (by kernel_rfl) (fun _ _ _ h => h) (by rfl) hHeld ?_ ?_
    rotate_left 1
    · (intro w hSw; (try dsimp only at hSw); go_simp; try (with_reducible rfl))
    try simp only [Act.put, List.setIfInBounds_toArray, List.set_cons_zero, List.set_cons_succ]
    refine held_take (i := 8) (v := (pkV k f t id fi A X c ac fr su)) rfl (by kernel_rfl) (by kernel_rfl) (by kernel_rfl) (fun _ _ _ h => h) (by rfl) hHeld (exec_load_pk (.tmp 4) rfl w.heap.size (by rfl) (fun w h => h.1)) ?_
    try simp only [Act.put, List.setIfInBounds_toArray, List.set_cons_zero, List.set_cons_succ]
    refine held_one (i := 9) rfl (by kernel_rfl) (by rfl) (fun K hK => ?_)
    go_simp
    (with_reducible refine HRP.out.mono ?_)
    rintro e w8 ⟨v8, rfl, o8, hb8⟩
    rw [HENC.out] at o8
    obtain ⟨A8, c8, rfl, -, -, -⟩ := o8.form_n m HM5.out
    have q8 := conv_own o8 HM5.out
    rw [HST.out] at q8
    have b8 : Below w5.heap.size w5 w8 := b7.trans (hb8.mono b7.size)
    have hk8 := HP5.out.below b8 S5.out
    have hq8 := HQ.out w8 b8
    clear o8 hb8
    refine hK.out _ _ (⟨hk8, hq8⟩) (fun hHeld2 => ?_)
    clear hK K hHeld; have hHeld := hHeld2; clear hHeld2
    try simp only [Act.put, List.setIfInBounds_toArray, List.set_cons_zero, List.set_cons_succ]
    refine held_one (i := 10) rfl (by kernel_rfl) (by rfl) (fun K hK => ?_)
    go_simp
    refine hK.out _ _ (⟨hk8, hq8⟩) (fun hHeld2 => ?_)
    clear hK K hHeld; have hHeld := hHeld2; clear hHeld2
    try simp only [Act.put, List.setIfInBounds_toArray, List.set_cons_zero, List.set_cons_succ]
    refine held_take (i := 11) (v := ?_) rfl (by kernel_rfl) (by kernel_rfl) (by kernel_rfl) (fun _ _ _ h => h) (by rfl) hHeld ?_ ?_
    rotate_left 1
    · (intro w hSw; (try dsimp only at hSw); go_simp; try (with_reducible rfl))
    try simp only [Act.put, List.setIfInBounds_toArray, List.set_cons_zero, List.set_cons_succ]
    refine held_take (i := 12) (v := ?_) rfl (by kernel_rfl) (by kernel_rfl) (by kernel_rfl) (fun _ _ _ h => h) (by rfl) hHeld ?_ ?_
    rotate_left 1
    · (intro w hSw; (try dsimp only at hSw); go_simp; try (with_reducible rfl))
    try simp only [Act.put, List.setIfInBounds_toArray, List.set_cons_zero, List.set_cons_succ]
    refine wpAnyH_done (by kernel_rfl) ?_ _
    skip
    have HB9 := Lib.hid (HB5.out.trans (b8.mono HB5.out.size))
    have HB58 := Lib.hid b8
    clear hk6 hk7 hk8 hq6 hq7 hq8 b6 b7 b8 q8
    have HT8 := Lib.hid (HT.out.below HB9.out HT.out.lt)
    have HR8 := Lib.hid (HR5.out.next HB58.out)
    have HP8 := Lib.hid (HP5.out.below HB58.out S5.out)
    have S8 : Hid (w.heap.size < w8.heap.size) := Nat.lt_of_lt_of_le S5.out HB58.out.size
    have hmz : ((m : Int) == 0) = false := by have := HPOS.out; simp; omega
    have HD : Hid (Calls Tryd.prog 16 #[.slice A5 m c5] w8 fun e w' => ∃ (A9 : Option Addr) (n9 c9 : Nat), e = .returned (.tuple #[pkV k f t id fi A9 n9 c9 ac fr su, .int .i64 0]) ∧ RB w' w'.heap.size A9 x ∧ x.length = n9 ∧ Below w8.heap.size w8 w') := dec_yes A5 b m c5 w8 HT8.out HR8.out HM5.out HC5.out HMC5.out (by have := HBL.out; have := HM5.out; omega) _ HIS.out
    go_wp2_with fail
    (with_reducible refine HD.out.mono ?_)
    rintro e w9 ⟨A9, n9, c9, rfl, hr9, hl9, hb9⟩
    obtain ⟨wq, hwq⟩ : ∃ wq, wq = w9.alloc (pkO k f t id fi A9 n9 c9 ac fr su) := ⟨_, rfl⟩
    have aq : Below w9.heap.size w9 wq := by rw [hwq]; exact (Below.refl _ _).alloc (Nat.le_refl _) _
    have hbq := hb9.trans (aq.mono hb9.size)
    obtain ⟨Q, hQ⟩ : ∃ Q, w9.heap.size = Q := ⟨_, rfl⟩
    have HPQ : Hid (PkM wq Q k f t id fi A9 n9 c9 ac fr su) := by show PkM _ _ _ _ _ _ _ _ _ _ _ _ _; rw [hwq, ← hQ]; exact PkM.new w9 _ _ _ _ _ _ _ _ _ _ _
    have HBQ := Lib.hid (HB9.out.trans (hbq.mono HB9.out.size))
    have HPP := Lib.hid (HP8.out.below hbq S8.out)
    have SQ : Hid (w.heap.size < Q) := by show _ < _; rw [← hQ]; exact Nat.lt_of_lt_of_le S8.out hb9.size
    have HRQ := Lib.hid (HR8.out.next hbq)
    have HB5q : Hid (Below w5.heap.size w5 wq) := HB58.out.trans (hbq.mono HB58.out.size)
    have SQ5 : Hid (w5.heap.size ≤ Q) := by show _ ≤ _; rw [← hQ]; exact Nat.le_trans HB58.out.size hb9.size
    have HEQ := Lib.hid (eqpacket_any k f t id fi A x X c ac fr su k f t id fi A9 x n9 c9 ac fr su wq (HRX.out.next HBQ.out) (hr9.next aq) HX.out hl9 true (by simp))
    obtain ⟨r0, r1, r2, r3, r4, r5, r6, r7, r8⟩ := HPP.out.c
    obtain ⟨t0, t1, t2, t3, t4, t5, t6, t7, t8⟩ := HPQ.out.c
    have HWQ := Lib.hid hwq
    have HQQ := Lib.hid hQ
    have q_ : ∀ g j v, wq.cell? ⟨g, j, none⟩ = some v → (w9.alloc (pkO k f t id fi A9 n9 c9 ac fr su)).cell? ⟨g, j, none⟩ = some v := fun g j v h => by rw [← HWQ.out]; exact h
    have y0 := q_ _ _ _ r0; have y1 := q_ _ _ _ r1; have y2 := q_ _ _ _ r2; have y3 := q_ _ _ _ r3; have y4 := q_ _ _ _ r4; have y5 := q_ _ _ _ r5; have y6 := q_ _ _ _ r6; have y7 := q_ _ _ _ r7; have y8 := q_ _ _ _ r8
    clear hr9 hl9 hb9 hwq aq hbq hQ r0 r1 r2 r3 r4 r5 r6 r7 r8 t0 t1 t2 t3 t4 t5 t6 t7 t8 q_
    go_wp2_with fail
    rw [← HWQ.out, HQQ.out]
    (with_reducible refine HEQ.out.mono ?_)
    rintro e wr0 ⟨rfl, hwr⟩
    have br : Below wq.heap.size wq wr0 := by rw [← hwr]; exact ((Below.refl _ _).alloc (Nat.le_refl _) _).alloc (by simp) _
    have HBR := Lib.hid br
    have HRR := Lib.hid (HRQ.out.next br)
    have HBW := Lib.hid (HBQ.out.trans (br.mono HBQ.out.size))
    have HTR := Lib.hid (HT.out.below HBW.out HT.out.lt)
    clear hwr br y0 y1 y2 y3 y4 y5 y6 y7 y8
    go_upto_region 13 with fail
    go_cut [67] (fun s67 wx => s67 = .bool false ∧ Hid (Below wr0.heap.size wr0 wx))
    case first =>
      by_cases hc0 : 0 < ct
      · by_cases hc1 : ct ≤ (m : Int)
        · obtain ⟨q, rfl⟩ : ∃ q : Nat, ct = q := ⟨ct.toNat, by omega⟩
          obtain ⟨d, hd⟩ : ∃ d, m - q = d := ⟨_, rfl⟩
          have hdm : d ≤ m := by omega
          have hdc : (d : Int) ≤ (c5 : Int) := by have := HC5.out; omega
          have hd0 : (0 : Int) ≤ (d : Int) := by omega
          have HTE := Lib.hid (tells_any A5 (b.take d) d c5 wr0 HTR.out (HRR.out.take d) (by rw [List.length_take, HM5.out]; omega) (by have := HC5.out; omega) HMC5.out (by have := HBL.out; have := HM5.out; omega))
          have hdi : (m : Int) - (q : Int) = (d : Int) := by omega
          have HDW : Hid (wrap64 (d : Int) = (d : Int)) := w64_id _ (by have := HBL.out; have := HM5.out; omega)
          clear hd
          have hdw := HDW.out
          go_wp2_with fail
          (with_reducible refine HTE.out.mono ?_)
          rintro e wt ⟨rfl, hbt⟩
          go_wp2_with fail
          go_meet
          exact ⟨rfl, hbt⟩
        · have hc2 : (m : Int) < ct := by omega
          clear hc1
          go_wp2_with fail
          go_meet
          exact ⟨by first | rfl | (simp; omega), Below.refl _ _⟩
      · have hc2 : ct ≤ 0 := by omega
        clear hc0
        go_wp2_with fail
        go_meet
        exact ⟨by first | rfl | (simp; omega), Below.refl _ _⟩
    case rest =>
      obtain ⟨rfl, HBC⟩ := hcut
      have HB13 := Lib.hid (HBW.out.trans (HBC.out.mono HBW.out.size))
      have HR13 := Lib.hid (HRR.out.next HBC.out)
      have hbqc := HBR.out.trans (HBC.out.mono HBR.out.size)
      have HB5c := Lib.hid (HB5q.out.trans (hbqc.mono HB5q.out.size))
      have HPQ3 := Lib.hid (HPQ.out.below hbqc HPQ.out.lt)
      clear hbqc
      by_cases ha : at_ < 0
      · go_wp2_with fail
        go_ret
        exact ⟨rfl, HB13.out⟩
      by_cases ha0 : a = 0
      · have hat : 0 ≤ at_ := by omega
        have hab : (a == 0) = true := by simp [ha0]
        clear ha0 ha
        go_wp2_with fail
        go_ret
        exact ⟨rfl, HB13.out⟩
      obtain ⟨kk, hkk⟩ : ∃ kk : Nat, at_ = kk := ⟨at_.toNat, by omega⟩
      subst hkk
      have hab : (a == 0) = false := by simp; exact ha0
      have HXN : Hid (xb ≠ 0) := fun h => ha0 (by rw [← HXB.out, h]; rfl)
      obtain ⟨j, hjj⟩ : ∃ j, kk % m = j := ⟨_, rfl⟩
      have hj : j < m := by rw [← hjj]; exact Nat.mod_lt _ HPOS.out
      have hmod : (kk : Int) % (m : Int) = (j : Int) := by rw [← hjj]; simp
      have hlt : j < b.length := by rw [HM5.out]; exact hj
      have hjc : (j : Int) < (m : Int) := by omega
      have hj0 : (0 : Int) ≤ (j : Int) := by omega
      have HLen : Hid (([] : List UInt8).length + b.length ≤ 140737488355328) := by show 0 + _ ≤ _; have := HBL.out; omega
      have HLen1 : Hid (b.length + [xb].length ≤ 140737488355328) := by show _ + 1 ≤ _; have := HBL.out; omega
      obtain ⟨bj, hbj⟩ : ∃ bj, b[j] = bj := ⟨_, rfl⟩
      have HBJ := Lib.hid hbj
      obtain ⟨bi, hbi⟩ : ∃ bi : Int, (bj.toNat : Int) = bi := ⟨_, rfl⟩
      obtain ⟨z, hz⟩ : ∃ z : Int, ((bj ^^^ xb).toNat : Int) = z := ⟨_, rfl⟩
      have hxo := b8_xor bj xb
      rw [HXB.out, hbi, hz] at hxo
      have HNO : Hid (∀ p, ¬ IsK (b.set j (bj ^^^ xb)) p) := by show ∀ p, _; rw [← hbj]; exact is_changed HIS.out j hlt xb HXN.out
      have HBI := Lib.hid hbi; have HZ := Lib.hid hz
      have HLT := Lib.hid hlt
      have hbm := HM5.out
      have hm0 : 0 < b.length := by omega
      have HBM0 := Lib.hid hm0
      clear ha ha0 hjj hbj hbi hz hj hbm hm0 hmz
      go_wp2_with (first
        | (at_builtin; refine wpList_append_n rfl (.const (.slice none 0 0)) (.tmp 74) rfl wc.heap.size (.slice none 0 0) [] b rfl (OB.nil _ _) wc.heap.size A5 m c5 rfl HM5.out HR13.out HLen.out (Nat.le_refl _) ?_; intro v17 w17 o17 g17 e17; rw [List.nil_append] at o17; obtain ⟨gc, cc, hv17, hgc, hcc, hmc⟩ := o17.some_ HBM0.out; rw [HM5.out] at hv17; subst hv17; have u1 := o17.cell_at HM5.out j hlt; have u2 := o17.frozen_at HM5.out j; have HO17 := Lib.hid o17; have HB17 : Hid (Below wc.heap.size wc w17) := (Below.refl _ _).grown g17 (Nat.le_refl _) (by simp [Value.ownBlock]); unfold vb at u1; rw [HBJ.out, HBI.out] at u1; have HGC := Lib.hid hgc; have HCC := Lib.hid hcc; have HMC := Lib.hid hmc; clear o17 g17 e17 hgc hmc hcc))
      have ho18 : OB (w17.setCell ⟨gc, j, none⟩ (.int .u8 z)) wc.heap.size (.slice (some ⟨gc, 0, none⟩) m cc) (b.set j (bj ^^^ xb)) := by
        rw [← HZ.out]
        exact OB.set HO17.out HM5.out j (bj ^^^ xb)
      have hb18 : Below wc.heap.size wc (w17.setCell ⟨gc, j, none⟩ (.int .u8 z)) := HB17.out.setCell HGC.out _
      have HB18 := Lib.hid (HB13.out.trans (hb18.mono HB13.out.size))
      have HB518 := Lib.hid (HB5c.out.trans (hb18.mono HB5c.out.size))
      have HT18 := Lib.hid (HT.out.below HB18.out HT.out.lt)
      have HD18 := Lib.hid (dec_no (some ⟨gc, 0, none⟩) (b.set j (bj ^^^ xb)) m cc (w17.setCell ⟨gc, j, none⟩ (.int .u8 z)) HT18.out ho18.cells (by rw [List.length_set, HM5.out]) (by have := HCC.out; rw [HM5.out] at this; exact this) HMC.out (by have := HBL.out; have := HM5.out; omega) HNO.out)
      have HR18 := Lib.hid (HR13.out.next hb18)
      have HPQ8 := Lib.hid (HPQ3.out.below hb18 HPQ3.out.lt)
      have SQ8 : Hid (Q < (w17.setCell ⟨gc, j, none⟩ (.int .u8 z)).heap.size) := HPQ8.out.lt
      clear ho18 hb18 u1 u2
      go_wp2_with fail
      (with_reducible refine HD18.out.mono ?_)
      rintro e w19 ⟨rfl, hb19⟩
      have HPQ9 := Lib.hid (HPQ8.out.below hb19 SQ8.out); have HB19 := Lib.hid (HB18.out.trans (hb19.mono HB18.out.size)); have HB519 := Lib.hid (HB518.out.trans (hb19.mono HB518.out.size))
      clear hb19 hxo
      go_wp2_with (first
        | (refine wpList_store_pk rfl (.tmp 11) (.tmp 89) rfl Q (by rfl) HPQ9.out (by rfl) ?_; intro w20 p20 z20 g20; have HB20 := Lib.hid (below_row HB19.out g20 (Nat.le_of_lt SQ.out)); have HR20 := Lib.hid (HR5.out.below (below_row HB519.out g20 SQ5.out)); obtain ⟨r0, r1, r2, r3, r4, r5, r6, r7, r8⟩ := p20.c; clear p20 z20 g20)
        | (at_builtin; refine wpList_append_gd (by with_unfolding_all rfl) (.const (.slice none 0 0)) (.tmp 99) rfl w20.heap.size (.slice none 0 0) [] b rfl (OB.nil _ _) w5.heap.size A5 m c5 rfl HM5.out HR20.out HLen.out (Nat.le_refl _) ?_; intro v21 w21 o21 g21 e21; rw [List.nil_append] at o21; have HB21 : Hid (Below w20.heap.size w20 w21) := (Below.refl _ _).grown g21 (Nat.le_refl _) (by simp [Value.ownBlock]); have hone := one_reads w21 a xb HXB.out; have HONE := Lib.hid hone; have ha1 : Below w21.heap.size w21 (w21.alloc (bOne a)) := (Below.refl _ _).alloc (Nat.le_refl _) _; have HO21 := Lib.hid (o21.below ha1 (Nat.le_refl _)); have HA1 := Lib.hid ha1; have HS21 : Hid (w20.heap.size ≤ (w21.alloc (bOne a)).heap.size) := Nat.le_trans HB21.out.size ha1.size; clear o21 g21 e21 hone ha1)
        | (at_builtin; refine wpList_append_gd (by with_unfolding_all rfl) (.tmp 100) (.tmp 102) rfl w20.heap.size v21 b [xb] rfl HO21.out (w21.heap.size + 1) _ 1 1 rfl rfl HONE.out HLen1.out HS21.out ?_; intro v22 w22 o22 g22 e22; have HO22 := Lib.hid o22; have HB22 : Hid (Below w20.heap.size w20 w22) := (HB21.out.trans (HA1.out.mono HB21.out.size)).grown g22 HS21.out HO21.out.ge; clear o22 g22 e22))
      obtain ⟨n22, hn22⟩ : ∃ n22, (b ++ [xb]).length = n22 := ⟨_, rfl⟩
      have hn22l : n22 ≤ 200 := by rw [← hn22, List.length_append]; have := HBL.out; show _ + 1 ≤ _; omega
      obtain ⟨A22, c22, rfl, hc22, hm22, hr22⟩ := HO22.out.form_n n22 hn22
      have HB222 := Lib.hid (HB20.out.trans (HB22.out.mono HB20.out.size))
      have HTE := Lib.hid (tells_any A22 (b ++ [xb]) n22 c22 w22 (HT.out.below HB222.out HT.out.lt) hr22 hn22 hc22 hm22 (by omega))
      clear hr22 hn22 hm22 r0 r1 r2 r3 r4 r5 r6 r7 r8
      (with_reducible refine HTE.out.mono ?_)
      rintro e w23 ⟨rfl, hb23⟩
      go_wp2_with fail
      go_ret
      exact ⟨rfl, HB222.out.trans (hb23.mono HB222.out.size)⟩
  · have hb0 : b = [] := by rw [← HENC.out]; exact enc_none (by rw [HX.out]; exact hmay)
    have hm0 : m = 0 := by rw [← HM5.out, hb0]; rfl
    have HMB := Lib.hid (decide_eq_false hmay)
    have hmz : ((m : Int) == 0) = true := by simp [hm0]
    clear hmay hb0 hm0
    go_enter Tryd.func3, Tryd.ntmps3
    go_wp2_with fail
    rw [← HW1.out]
    (with_reducible refine HBG.out.mono ?_)
    rintro e w2 ⟨rfl, hb2⟩
    have HP2 := Lib.hid (HP1.out.below hb2 S1.out); have HB2 := Lib.hid (HB1.out.trans (hb2.mono HB1.out.size))
    have S2 : Hid (w.heap.size < w2.heap.size) := Nat.lt_of_lt_of_le S1.out hb2.size
    obtain ⟨r0, r1, r2, r3, r4, r5, r6, r7, r8⟩ := HP2.out.c
    clear hb2
    go_wp2_with fail
    (with_reducible refine (HCU.out _).mono ?_)
    rintro e w3 ⟨rfl, hb3⟩
    have HP3 := Lib.hid (HP2.out.below hb3 S2.out); have HB3 := Lib.hid (HB2.out.trans (hb3.mono HB2.out.size)); have S3 : Hid (w.heap.size < w3.heap.size) := Nat.lt_of_lt_of_le S2.out hb3.size
    clear r0 r1 r2 r3 r4 r5 r6 r7 r8 hb3
    go_wp2_with (first
      | (refine wpList_store_pk rfl (.tmp 4) (.tmp 18) rfl w.heap.size (by rfl) HP3.out (by rfl) ?_; intro w4 p4 z4 g4; have HB4 := Lib.hid (below_row HB3.out g4 (Nat.le_refl _)); obtain ⟨r0, r1, r2, r3, r4, r5, r6, r7, r8⟩ := p4.c; have HE := Lib.hid (enc_any k f t id fi A x X c ac fr su w4 (HT.out.below HB4.out HT.out.lt) (HRX.out.next HB4.out) HX.out HXC.out HM.out h4 h5); have HP4 := Lib.hid p4; have S4 : Hid (w.heap.size < w4.heap.size) := p4.lt; clear p4 z4 g4))
    (with_reducible refine HE.out.mono ?_)
    rintro e w5 ⟨v5, rfl, o5, hb5⟩
    rw [HENC.out] at o5
    obtain ⟨A5, c5, rfl, hc5, hm5, hr5⟩ := o5.form_n m HM5.out
    have HB5 := Lib.hid (HB4.out.trans (hb5.mono HB4.out.size)); have HP5 := Lib.hid (HP4.out.below hb5 S4.out)
    have S5 : Hid (w.heap.size < w5.heap.size) := Nat.lt_of_lt_of_le S4.out hb5.size
    have HR5 := Lib.hid hr5; have HMC5 := Lib.hid hm5; have HC5 := Lib.hid hc5
    have HQ : Hid (∀ W, Below w5.heap.size w5 W → (convert 22 9 (.slice A5 m c5)).run Tryd.prog W = .ok (.string s) W) := fun W hb => by
      rw [← HST.out]; exact conv_rb (HR5.out.below hb) m c5 HM5.out
    clear r0 r1 r2 r3 r4 r5 r6 r7 r8 o5 hb5 hr5 hm5
    go_wp2_with fail
    go_upto_region 6 with fail
    have HMA := Lib.hid (may_any k f t id fi A X c ac fr su false HMB.out w5.drew HXM.out)
    refine wp_region_held_drew (S := (fun w' => PkM w' w.heap.size k f t id fi A X c ac fr su ∧ (convert 22 9 (.slice A5 m c5)).run Tryd.prog w' = .ok (.string s) w')) (by kernel_rfl) (⟨HP5.out, HQ.out _ ((Below.refl _ _).drew)⟩) (fun hHeld => ?_)
    refine held_take (i := 0) (v := (pkV k f t id fi A X c ac fr su)) rfl (by kernel_rfl) (by kernel_rfl) (by kernel_rfl) (fun _ _ _ h => h) (by rfl) hHeld (exec_load_pk (.tmp 4) rfl w.heap.size (by rfl) (fun w h => h.1)) ?_
    try simp only [Act.put, List.setIfInBounds_toArray, List.set_cons_zero, List.set_cons_succ]
    refine held_take (i := 2) (v := (pkV k f t id fi A X c ac fr su)) rfl (by kernel_rfl) (by kernel_rfl) (by kernel_rfl) (fun _ _ _ h => h) (by rfl) hHeld (exec_load_pk (.tmp 4) rfl w.heap.size (by rfl) (fun w h => h.1)) ?_
    try simp only [Act.put, List.setIfInBounds_toArray, List.set_cons_zero, List.set_cons_succ]
    refine held_one (i := 1) rfl (by kernel_rfl) (by rfl) (fun K hK => ?_)
    go_simp
    (with_reducible refine HMA.out.mono ?_)
    rintro e w6 ⟨rfl, hw6⟩
    have b6 : Below w5.heap.size w5 w6 := by rw [← hw6]; exact (Below.refl w5.heap.size w5).drew.alloc (Nat.le_refl _) _
    clear hw6
    have hk6 := HP5.out.below b6 S5.out
    have hq6 := HQ.out w6 b6
    have HRM := Lib.hid (refmay_any k f t id fi A X c ac fr su false HMB.out w6 HXM.out)
    refine hK.out _ _ (⟨hk6, hq6⟩) (fun hHeld2 => ?_)
    clear hK K hHeld; have hHeld := hHeld2; clear hHeld2
    try simp only [Act.put, List.setIfInBounds_toArray, List.set_cons_zero, List.set_cons_succ]
    refine held_one (i := 3) rfl (by kernel_rfl) (by rfl) (fun K hK => ?_)
    go_simp
    (with_reducible refine HRM.out.mono ?_)
    rintro e w7 ⟨rfl, hw7⟩
    have b7 : Below w5.heap.size w5 w7 := by rw [← hw7]; exact b6.alloc b6.size _
    clear hw7
    have hk7 := HP5.out.below b7 S5.out
    have hq7 := HQ.out w7 b7
    have HRP := Lib.hid (refpacket_any k f t id fi A x X c ac fr su w7 (HRX.out.next (HB5.out.trans (b7.mono HB5.out.size))) HX.out HXC.out HM.out h4 h5)
    refine hK.out _ _ (⟨hk7, hq7⟩) (fun hHeld2 => ?_)
    clear hK K hHeld; have hHeld := hHeld2; clear hHeld2
    try simp only [Act.put, List.setIfInBounds_toArray, List.set_cons_zero, List.set_cons_succ]
    refine held_take (i := 4) (v := ?_) rfl (by kernel_rfl) (by kernel_rfl) (by kernel_rfl) (fun _ _ _ h => h) (by rfl) hHeld ?_ ?_
    rotate_left 1
    · (intro w hSw; (try dsimp only at hSw); go_simp; try (with_reducible rfl))
    try simp only [Act.put, List.setIfInBounds_toArray, List.set_cons_zero, List.set_cons_succ]
    refine held_take (i := 5) (v := ?_) rfl (by kernel_rfl) (by kernel_rfl) (by kernel_rfl) (fun _ _ _ h => h) (by rfl) hHeld ?_ ?_
    rotate_left 1
    · (intro w hSw; (try dsimp only at hSw); go_simp; try (with_reducible rfl))
    try simp only [Act.put, List.setIfInBounds_toArray, List.set_cons_zero, List.set_cons_succ]
    refine held_take (i := 6) (v := ?_) rfl (by kernel_rfl) (by kernel_rfl) (by kernel_rfl) (fun _ _ _ h => h) (by rfl) hHeld ?_ ?_
    rotate_left 1
    · (intro w hSw; (try dsimp only at hSw); go_simp; try (with_reducible rfl))
    try simp only [Act.put, List.setIfInBounds_toArray, List.set_cons_zero, List.set_cons_succ]
    refine held_take (i := 7) (v := ?_) rfl (by kernel_rfl) (by kernel_rfl) (by kernel_rfl) (fun _ _ _ h => h) (by rfl) hHeld ?_ ?_
    rotate_left 1
    · (intro w hSw; (try dsimp only at hSw); go_simp; try (with_reducible rfl))
    try simp only [Act.put, List.setIfInBounds_toArray, List.set_cons_zero, List.set_cons_succ]
    refine held_take (i := 8) (v := (pkV k f t id fi A X c ac fr su)) rfl (by kernel_rfl) (by kernel_rfl) (by kernel_rfl) (fun _ _ _ h => h) (by rfl) hHeld (exec_load_pk (.tmp 4) rfl w.heap.size (by rfl) (fun w h => h.1)) ?_
    try simp only [Act.put, List.setIfInBounds_toArray, List.set_cons_zero, List.set_cons_succ]
    refine held_one (i := 9) rfl (by kernel_rfl) (by rfl) (fun K hK => ?_)
    go_simp
    (with_reducible refine HRP.out.mono ?_)
    rintro e w8 ⟨v8, rfl, o8, hb8⟩
    rw [HENC.out] at o8
    obtain ⟨A8, c8, rfl, -, -, -⟩ := o8.form_n m HM5.out
    have q8 := conv_own o8 HM5.out
    rw [HST.out] at q8
    have b8 : Below w5.heap.size w5 w8 := b7.trans (hb8.mono b7.size)
    have hk8 := HP5.out.below b8 S5.out
    have hq8 := HQ.out w8 b8
    clear o8 hb8
    refine hK.out _ _ (⟨hk8, hq8⟩) (fun hHeld2 => ?_)
    clear hK K hHeld; have hHeld := hHeld2; clear hHeld2
    try simp only [Act.put, List.setIfInBounds_toArray, List.set_cons_zero, List.set_cons_succ]
    refine held_one (i := 10) rfl (by kernel_rfl) (by rfl) (fun K hK => ?_)
    go_simp
    refine hK.out _ _ (⟨hk8, hq8⟩) (fun hHeld2 => ?_)
    clear hK K hHeld; have hHeld := hHeld2; clear hHeld2
    try simp only [Act.put, List.setIfInBounds_toArray, List.set_cons_zero, List.set_cons_succ]
    refine held_take (i := 11) (v := ?_) rfl (by kernel_rfl) (by kernel_rfl) (by kernel_rfl) (fun _ _ _ h => h) (by rfl) hHeld ?_ ?_
    rotate_left 1
    · (intro w hSw; (try dsimp only at hSw); go_simp; try (with_reducible rfl))
    try simp only [Act.put, List.setIfInBounds_toArray, List.set_cons_zero, List.set_cons_succ]
    refine held_take (i := 12) (v := ?_) rfl (by kernel_rfl) (by kernel_rfl) (by kernel_rfl) (fun _ _ _ h => h) (by rfl) hHeld ?_ ?_
    rotate_left 1
    · (intro w hSw; (try dsimp only at hSw); go_simp; try (with_reducible rfl))
    try simp only [Act.put, List.setIfInBounds_toArray, List.set_cons_zero, List.set_cons_succ]
    refine wpAnyH_done (by kernel_rfl) ?_ _
    skip
    have HB9 := Lib.hid (HB5.out.trans (b8.mono HB5.out.size))
    have HB58 := Lib.hid b8
    clear hk6 hk7 hk8 hq6 hq7 hq8 b6 b7 b8 q8
    go_wp2_with fail
    go_ret
    exact ⟨rfl, HB9.out⟩
end Go.Proofs.YtjbieehehgjnmaaDoor
