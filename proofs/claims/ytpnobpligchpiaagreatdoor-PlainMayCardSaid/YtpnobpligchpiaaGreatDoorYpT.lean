/- texts of YpT -/
import Derived.Deep.DeepCutAuto
import Derived.Test.YtpnobpligchpiaaGreatDoorYpK
import Derived.Test.YtpnobpligchpiaaGreatDoorYpS
namespace Go.Proofs.YtpnobpligchpiaaGreatDoor
set_option maxRecDepth 100000
open Go.RowKit
set_option linter.unusedVariables false
set_option linter.unusedSimpArgs false
theorem RdM.other {w w' : World} {g b : Nat} {r : RS} {A : Option Addr} {n c : Nat} (h : RdM w g r A n c) (hg : w.grownBy w' (some b)) (hb : g < b) : RdM w' g r A n c := by
 have e : w'.heap[g]? = w.heap[g]? := hg.block g h.lt (fun e => by have := Option.some.inj e; omega)
 refine ⟨(World.cell?_of_block (a := ⟨g, 0, none⟩) e).trans h.c0, (World.cell?_of_block (a := ⟨g, 1, none⟩) e).trans h.c1, (World.frozen?_of_block (a := ⟨g, 0, none⟩) e).trans h.f0, (World.frozen?_of_block (a := ⟨g, 1, none⟩) e).trans h.f1, fun h0 => ?_, h.n_, h.nc, h.cm⟩
 obtain ⟨b', off, e, hlt, hc⟩ := h.rb h0
 exact ⟨b', off, e, hlt, fun j hj => (gr_cell hg (Nat.lt_trans hlt h.lt) (by omega)).trans (hc j hj)⟩
theorem four_rest (r : RS) : (fourK r).2.rest.length ≤ r.rest.length := by
 show (nextK 4 r).2.rest.length ≤ _
 unfold nextK
 split
 · show (r.rest.drop 4).length ≤ _; rw [List.length_drop]; omega
 · exact nl _
theorem below_row {W w w' : World} {b : Nat} (h : Below W.heap.size W w) (hg : w.grownBy w' (some b)) (hb : W.heap.size ≤ b) : Below W.heap.size W w' := h.grown hg h.size (fun k hk => by have := Option.some.inj hk; omega)
def ReadK (x : List UInt8) (w w' : World) (e : Ending) : Prop :=
 ∃ A' n' c', e = .returned (.tuple #[pkV (readK x).1.k (readK x).1.f (readK x).1.t (readK x).1.id (readK x).1.fi A' n' c' (readK x).1.ac (readK x).1.fr (readK x).1.su, .bool (readK x).2.good]) ∧
    OB w' w.heap.size (.slice A' n' c') (readK x).1.l ∧ (readK x).1.l.length = n' ∧ Below w.heap.size w w'
set_option maxHeartbeats 4000000 in
theorem pread_any (A : Option Addr) (x : List UInt8) (n c : Nat) (w : World) (hr : RB w w.heap.size A x) (hn : x.length = n) (hc : n ≤ c) (hm : c ≤ maxLen) (hl : n ≤ 4096) :
 Calls Tryz.prog 124 #[.slice A n c] w fun e w' => ReadK x w w' e := by
 obtain ⟨W1, hW1⟩ : ∃ W1, W1 = (w.alloc (pkO 0 0 0 0 0 none 0 0 0 0 0)).alloc (.cells #[.slice A n c, .bool false] 218) := ⟨_, rfl⟩
 have B1 : Below w.heap.size w W1 := by rw [hW1]; exact ((bR _ _).alloc (nl _) _).alloc (by simp) _
 have S1 : Hid (W1.heap.size = w.heap.size + 2) := by show _ = _; rw [hW1]; simp
 have HR1 : Hid (RdM W1 (w.heap.size + 1) ⟨x, false⟩ A n c) := by
  have hrb := (hr.below B1).more (show w.heap.size ≤ w.heap.size + 1 by omega)
  rw [hW1] at hrb ⊢
  exact ⟨by simp [go_sem], by simp [go_sem], by simp [go_sem], by simp [go_sem], hrb, hn, hc, hm⟩
 have HN := qh (next3_any (w.heap.size + 1) ⟨x, false⟩ A n c W1 HR1.out)
 have hhl := next_len 3 ⟨x, false⟩
 obtain ⟨h, hh⟩ : ∃ h, (nextK 3 ⟨x, false⟩).1 = h := ⟨_, rfl⟩
 obtain ⟨s, hs⟩ : ∃ s, (nextK 3 ⟨x, false⟩).2 = s := ⟨_, rfl⟩
 rw [hh, hs] at HN
 rw [hh] at hhl
 have hsl : s.rest.length ≤ 4096 := by
  rw [← hs]
  unfold nextK
  split
  · show (x.drop 3).length ≤ 4096; rw [List.length_drop]; omega
  · show x.length ≤ 4096; omega
 obtain ⟨k0, k1, k2, rfl⟩ : ∃ a b c, h = [a, b, c] := by
  match h, hhl with
  | [a, b, c], _ => exact ⟨a, b, c, rfl⟩
 obtain ⟨i, hi⟩ : ∃ i, (numK s).1 = i := ⟨_, rfl⟩
 obtain ⟨s2, hs2⟩ : ∃ s2, (numK s).2 = s2 := ⟨_, rfl⟩
 have hsl2 : s2.rest.length ≤ 4096 := by rw [← hs2]; exact Nat.le_trans (num_rest s) hsl
 have HE : Hid (readK x = if (k0.toNat : Int) = 1 then inK (k0.toNat : Int) (k1.toNat : Int) (k2.toNat : Int) i s2 else (⟨(k0.toNat : Int), (k1.toNat : Int), (k2.toNat : Int), i, 0, 0, 0, 0, []⟩, s2)) := by
  show _ = _
  unfold readK
  simp only [hh, hs, hi, hs2]
  rfl
 obtain ⟨a0, ha0⟩ : ∃ a : Int, (k0.toNat : Int) = a := ⟨_, rfl⟩
 obtain ⟨a1, ha1⟩ : ∃ a : Int, (k1.toNat : Int) = a := ⟨_, rfl⟩
 obtain ⟨a2, ha2⟩ : ∃ a : Int, (k2.toNat : Int) = a := ⟨_, rfl⟩
 rw [ha0, ha1, ha2] at HE
 obtain ⟨rk, hrk⟩ : ∃ rk, readK x = rk := ⟨_, rfl⟩
 unfold ReadK
 rw [hrk] at HE ⊢
 clear hrk
 have HB1 := qh B1; have HW1 := qh hW1
 have HSI := qh hi; have HS2 := qh hs2; have HL2 := qh hsl2
 have b0 : 0 ≤ a0 ∧ a0 ≤ 255 := by have := k0.toNat_lt; omega
 have b1 : 0 ≤ a1 ∧ a1 ≤ 255 := by have := k1.toNat_lt; omega
 have b2 : 0 ≤ a2 ∧ a2 ≤ 255 := by have := k2.toNat_lt; omega
 clear hr hn hc hm hl B1 hW1 hh hs hhl hsl hi hs2 hsl2
 go_enter Tryz.func124, Tryz.ntmps124
 go_wp2_with fail
 rw [← HW1.out]
 (with_reducible refine HN.out.mono ?_)
 rintro e w2 ⟨A2, n2, c2, X, cx, rfl, hcx, hcm, hx, hR, hg⟩
 obtain ⟨b, off, rfl, hbg, hbw, hcell⟩ := hx (by show 0 < 3; omega)
 have x0 : w2.cell? ⟨b, off, none⟩ = some (.int .u8 a0) := by have := hcell 0 (by show 0 < 3; omega); rw [Nat.add_zero] at this; rw [← ha0]; exact this
 have x1 : w2.cell? ⟨b, off + 1, none⟩ = some (.int .u8 a1) := by have := hcell 1 (by show 1 < 3; omega); rw [← ha1]; exact this
 have x2 : w2.cell? ⟨b, off + 2, none⟩ = some (.int .u8 a2) := by have := hcell 2 (by show 2 < 3; omega); rw [← ha2]; exact this
 have hgP : w.heap.size + 1 < w2.heap.size := hR.lt
 have HPZ : Hid (PkM (w2.alloc (pkO 0 0 0 0 0 none 0 0 0 0 0)).drew w2.heap.size 0 0 0 0 0 none 0 0 0 0 0) := heap_alloc_new w2 _
 have HNU := qh (num_any (w.heap.size + 1) s A2 n2 c2 w2.drew (hR.below ((bR _ _).drew) hR.lt))
 have HNV := qh (num_any (w.heap.size + 1) s A2 n2 c2 (w2.alloc (pkO 0 0 0 0 0 none 0 0 0 0 0)).drew (hR.below (((bR w2.heap.size w2).alloc (nl _) _).drew) hR.lt))
 rw [HSI.out, HS2.out] at HNU HNV
 have ba : Below w2.heap.size w2 (w2.alloc (pkO 0 0 0 0 0 none 0 0 0 0 0)).drew := ((bR w2.heap.size w2).alloc (nl _) _).drew
 have hbwa : b < (w2.alloc (pkO 0 0 0 0 0 none 0 0 0 0 0)).drew.heap.size := Nat.lt_of_lt_of_le hbw ba.size
 have wr0 : IntKind.i64.wrap a0 = a0 := by rw [IntKind.wrap_i64]; omega
 have wr1 : IntKind.i64.wrap a1 = a1 := by rw [IntKind.wrap_i64]; omega
 have wr2 : IntKind.i64.wrap a2 = a2 := by rw [IntKind.wrap_i64]; omega
 have HPR0 : Hid (PkM w2 w.heap.size 0 0 0 0 0 none 0 0 0 0 0) := PkM.kept (w := W1) (g := w.heap.size + 1) (by rw [HW1.out]; exact (Below.heap_alloc _ _ _ (by simp)).trans (heap_alloc_new w _)) hg (by omega)
 have HGW : Hid (Below w.heap.size w w2) := HB1.out.grown hg (by have := HB1.out.size; exact this) (fun k hk => by have := Option.some.inj hk; omega)
 have HX : Hid (w2.cell? ⟨b, off, none⟩ = some (.int .u8 a0) ∧ w2.cell? ⟨b, off + 1, none⟩ = some (.int .u8 a1) ∧ w2.cell? ⟨b, off + 2, none⟩ = some (.int .u8 a2)) := ⟨x0, x1, x2⟩
 have HKP : Hid (∀ w w' : World, w.grownBy w' (some (W1.heap.size - 1)) → b < w.heap.size → (w.cell? ⟨b, off, none⟩ = some (.int .u8 a0) ∧ w.cell? ⟨b, off + 1, none⟩ = some (.int .u8 a1) ∧ w.cell? ⟨b, off + 2, none⟩ = some (.int .u8 a2)) → (w'.cell? ⟨b, off, none⟩ = some (.int .u8 a0) ∧ w'.cell? ⟨b, off + 1, none⟩ = some (.int .u8 a1) ∧ w'.cell? ⟨b, off + 2, none⟩ = some (.int .u8 a2))) := fun w w' hg hb h => by
  have hne : b ≠ W1.heap.size - 1 := by rw [S1.out]; omega
  exact ⟨(gr_cell hg hb hne).trans h.1, (gr_cell hg hb hne).trans h.2.1, (gr_cell hg hb hne).trans h.2.2⟩
 have hgg : W1.heap.size - 1 = w.heap.size + 1 := by rw [S1.out]; rfl
 rw [hgg] at HKP
 have HBW := qh hbw; have HBWA := qh hbwa; have BA := qh ba; have HPP := qh hgP
 have hcm2 := hcm
 unfold maxLen at hcm2
 clear hx hR hg hcell hcm ha0 ha1 ha2 ba x0 x1 x2 hbw hbwa hgg
 go_upto_region 3 with fail
 go_cut [6] (fun s6 wx => ∃ (P n4 c4 : Nat) (A4 : Option Addr), s6 = .pointer (some ⟨P, 0, none⟩) ∧ Hid (w.heap.size + 1 < P) ∧ Hid (RdM wx (w.heap.size + 1) s2 A4 n4 c4) ∧ Hid (PkM wx P a0 a1 a2 i 0 none 0 0 0 0 0) ∧ Hid (PkM wx w.heap.size 0 0 0 0 0 none 0 0 0 0 0) ∧ Hid (Below w.heap.size w wx))
 case first =>
  refine wp_region_held_drew (S := (fun w' => w'.cell? ⟨b, off, none⟩ = some (.int .u8 a0) ∧ w'.cell? ⟨b, off + 1, none⟩ = some (.int .u8 a1) ∧ w'.cell? ⟨b, off + 2, none⟩ = some (.int .u8 a2))) (by kernel_rfl) (HX.out) (fun hHeld => ?_)
  refine htk (i := 0) (v := ?_) rfl (by kernel_rfl) (fun _ _ _ h => h) (by rfl) hHeld ?_ ?_
  rotate_left 1
  · (intro w hSw; (try dsimp only at hSw); go_simp; try (with_reducible rfl))
  try simp only [Act.put, nB, nC, nD]
  refine htk (i := 1) (v := ?_) rfl (by kernel_rfl) (fun _ _ _ h => h) (by rfl) hHeld ?_ ?_
  rotate_left 1
  · (intro w hSw; (try dsimp only at hSw); go_simp; try (with_reducible rfl))
  try simp only [Act.put, nB, nC, nD]
  refine htk (i := 2) (v := ?_) rfl (by kernel_rfl) (fun _ _ _ h => h) (by rfl) hHeld ?_ ?_
  rotate_left 1
  · (intro w hSw; (try dsimp only at hSw); go_simp; try (with_reducible rfl))
  try simp only [Act.put, nB, nC, nD]
  refine htk (i := 3) (v := ?_) rfl (by kernel_rfl) (fun _ _ _ h => h) (by rfl) hHeld ?_ ?_
  rotate_left 1
  · (intro w hSw; (try dsimp only at hSw); go_simp; try (with_reducible rfl))
  try simp only [Act.put, nB, nC, nD]
  refine htk (i := 4) (v := ?_) rfl (by kernel_rfl) (fun _ _ _ h => h) (by rfl) hHeld ?_ ?_
  rotate_left 1
  · (intro w hSw; (try dsimp only at hSw); go_simp; try (with_reducible rfl))
  try simp only [Act.put, nB, nC, nD]
  refine htk (i := 5) (v := ?_) rfl (by kernel_rfl) (fun _ _ _ h => h) (by rfl) hHeld ?_ ?_
  rotate_left 1
  · (intro w hSw; (try dsimp only at hSw); go_simp; try (with_reducible rfl))
  try simp only [Act.put, nB, nC, nD]
  refine htk (i := 6) (v := ?_) rfl (by kernel_rfl) (fun _ _ _ h => h) (by rfl) hHeld ?_ ?_
  rotate_left 1
  · (intro w hSw; (try dsimp only at hSw); go_simp; try (with_reducible rfl))
  try simp only [Act.put, nB, nC, nD]
  refine htk (i := 7) (v := ?_) rfl (by kernel_rfl) (fun _ _ _ h => h) (by rfl) hHeld ?_ ?_
  rotate_left 1
  · (intro w hSw; (try dsimp only at hSw); go_simp; try (with_reducible rfl))
  try simp only [Act.put, nB, nC, nD]
  refine htk (i := 8) (v := ?_) rfl (by kernel_rfl) (fun _ _ _ h => h) (by rfl) hHeld ?_ ?_
  rotate_left 1
  · (intro w hSw; (try dsimp only at hSw); go_simp; try (with_reducible rfl))
  try simp only [Act.put, nB, nC, nD]
  refine htk (i := 9) (v := ?_) rfl (by kernel_rfl) (fun _ _ _ h => h) (by rfl) hHeld ?_ ?_
  rotate_left 1
  · (intro w hSw; (try dsimp only at hSw); go_simp; try (with_reducible rfl))
  try simp only [Act.put, nB, nC, nD]
  refine htk (i := 10) (v := ?_) rfl (by kernel_rfl) (fun _ _ _ h => h) (by rfl) hHeld ?_ ?_
  rotate_left 1
  · (intro w hSw; (try dsimp only at hSw); go_simp; try (with_reducible rfl))
  try simp only [Act.put, nB, nC, nD]
  refine htk (i := 11) (v := ?_) rfl (by kernel_rfl) (fun _ _ _ h => h) (by rfl) hHeld ?_ ?_
  rotate_left 1
  · (intro w hSw; (try dsimp only at hSw); go_simp; try (with_reducible rfl))
  try simp only [Act.put, nB, nC, nD]
  refine held_two (i := 12) (j := 14) rfl rfl (by kernel_rfl) (by rfl) (by rfl) (fun K hK => ?_) (fun K hK => ?_)
  · go_simp
    (with_reducible refine HNU.out.mono ?_)
    rintro e w4 ⟨A4, n4, c4, rfl, hR4, hg4⟩
    have hs4 := HKP.out _ _ hg4 HBW.out HX.out
    have HR4 := qh hR4; have HG4 := qh hg4; have HP4 := qh (PkM.kept (w := w2.drew) HPR0.out hg4 (by omega))
    have HB4 : Hid (Below w.heap.size w w4) := HGW.out.drew.grown hg4 HGW.out.size (fun k hk => by have := Option.some.inj hk; omega)
    have HL4 := qh hg4.size
    clear hR4 hg4
    refine hK.out _ _ (hs4) (fun hHeld2 => ?_)
    clear hK K hHeld; have hHeld := hHeld2; clear hHeld2
    try simp only [Act.put, nB, nC, nD]
    refine htk (i := 13) (v := ?_) rfl (by kernel_rfl) (fun _ _ _ h => h) (by rfl) hHeld ?_ ?_
    rotate_left 1
    · (intro w hSw; (try dsimp only at hSw); go_simp; try (with_reducible rfl))
    try simp only [Act.put, nB, nC, nD]
    refine held_one (i := 14) rfl (by kernel_rfl) (by rfl) (fun K hK => ?_)
    go_simp
    refine hK.out _ _ (HKP.out w4 (w4.alloc (pkO 0 0 0 0 0 none 0 0 0 0 0)) (gr_alloc _ _ _) (Nat.lt_of_lt_of_le HBW.out HL4.out) hs4) (fun hHeld2 => ?_)
    clear hK K hHeld; have hHeld := hHeld2; clear hHeld2
    try simp only [Act.put, nB, nC, nD]
    refine held_one (i := 15) rfl (by kernel_rfl) (by rfl) (fun K hK => ?_)
    refine wp_store_pk (.tmp 6) (.tmp 23) rfl w4.heap.size (by rfl) (PkM.new w4 0 0 0 0 0 none 0 0 0 0 0) (by rfl) ?_
    intro w5 p5 z5 g5
    have hne5 : w4.heap.size ≠ b := by have := HBW.out; have := HL4.out; show _ ≠ _; have : w2.heap.size ≤ w4.heap.size := HL4.out; omega
    have hlt4 : b < w4.heap.size := Nat.lt_of_lt_of_le HBW.out HL4.out
    have hs5 : w5.cell? ⟨b, off, none⟩ = some (.int .u8 a0) ∧ w5.cell? ⟨b, off + 1, none⟩ = some (.int .u8 a1) ∧ w5.cell? ⟨b, off + 2, none⟩ = some (.int .u8 a2) := by
     have h4 := HKP.out w4 (w4.alloc (pkO 0 0 0 0 0 none 0 0 0 0 0)) (gr_alloc _ _ _) hlt4 hs4
     have hl : b < (w4.alloc (pkO 0 0 0 0 0 none 0 0 0 0 0)).heap.size := by simp; omega
     exact ⟨(gr_cell g5 hl (Ne.symm hne5)).trans h4.1, (gr_cell g5 hl (Ne.symm hne5)).trans h4.2.1, (gr_cell g5 hl (Ne.symm hne5)).trans h4.2.2⟩
    refine hK.out _ _ (hs5) (fun hHeld2 => ?_)
    clear hK K hHeld; have hHeld := hHeld2; clear hHeld2
    try simp only [Act.put, nB, nC, nD]
    refine wpAnyH_done (by kernel_rfl) ?_ _
    skip
    go_wp2_with fail
    go_meet
    have hl2 : w2.heap.size ≤ w4.heap.size := HL4.out
    have hgp := HPP.out
    have ba4 : Below w4.heap.size w4 (w4.alloc (pkO 0 0 0 0 0 none 0 0 0 0 0)) := (bR _ _).alloc (nl _) _
    exact ⟨w4.heap.size, n4, c4, A4, rfl, (by show _ < _; omega), (HR4.out.below ba4 HR4.out.lt).other g5 (by omega), p5, (HP4.out.below ba4 HP4.out.lt).kept g5 (by omega), below_row (HB4.out.alloc HB4.out.size _) g5 (by omega)⟩
  · go_simp
    refine hK.out _ _ (HKP.out w2 (w2.alloc (pkO 0 0 0 0 0 none 0 0 0 0 0)).drew (gr_below (((bR _ _).alloc (nl _) _).drew)) HBW.out HX.out) (fun hHeld2 => ?_)
    clear hK K hHeld; have hHeld := hHeld2; clear hHeld2
    try simp only [Act.put, nB, nC, nD]
    refine held_one (i := 12) rfl (by kernel_rfl) (by rfl) (fun K hK => ?_)
    go_simp
    (with_reducible refine HNV.out.mono ?_)
    rintro e w4 ⟨A4, n4, c4, rfl, hR4, hg4⟩
    have hs4 := HKP.out _ _ hg4 HBWA.out (HKP.out w2 (w2.alloc (pkO 0 0 0 0 0 none 0 0 0 0 0)).drew (gr_below (((bR _ _).alloc (nl _) _).drew)) HBW.out HX.out)
    have HR4 := qh hR4; have HG4 := qh hg4
    have HPB := qh (HPZ.out.kept hg4 (by omega))
    have HP4 := qh (PkM.kept (w := (w2.alloc (pkO 0 0 0 0 0 none 0 0 0 0 0)).drew) ((Below.heap_alloc _ _ _ (by omega)).trans HPR0.out) hg4 (by omega))
    have HB4 : Hid (Below w.heap.size w w4) := below_row ((HGW.out.alloc HGW.out.size _).drew) hg4 (by omega)
    have HL4 := qh hg4.size
    clear hR4 hg4
    refine hK.out _ _ (hs4) (fun hHeld2 => ?_)
    clear hK K hHeld; have hHeld := hHeld2; clear hHeld2
    try simp only [Act.put, nB, nC, nD]
    refine htk (i := 13) (v := ?_) rfl (by kernel_rfl) (fun _ _ _ h => h) (by rfl) hHeld ?_ ?_
    rotate_left 1
    · (intro w hSw; (try dsimp only at hSw); go_simp; try (with_reducible rfl))
    try simp only [Act.put, nB, nC, nD]
    refine held_one (i := 15) rfl (by kernel_rfl) (by rfl) (fun K hK => ?_)
    refine wp_store_pk (.tmp 6) (.tmp 23) rfl w2.heap.size (by rfl) HPB.out (by rfl) ?_
    intro w5 p5 z5 g5
    have hne5 : b ≠ w2.heap.size := by have := HBW.out; omega
    have hlt4 : b < w4.heap.size := Nat.lt_of_lt_of_le HBWA.out HL4.out
    have hs5 : w5.cell? ⟨b, off, none⟩ = some (.int .u8 a0) ∧ w5.cell? ⟨b, off + 1, none⟩ = some (.int .u8 a1) ∧ w5.cell? ⟨b, off + 2, none⟩ = some (.int .u8 a2) := ⟨(gr_cell g5 hlt4 hne5).trans hs4.1, (gr_cell g5 hlt4 hne5).trans hs4.2.1, (gr_cell g5 hlt4 hne5).trans hs4.2.2⟩
    refine hK.out _ _ (hs5) (fun hHeld2 => ?_)
    clear hK K hHeld; have hHeld := hHeld2; clear hHeld2
    try simp only [Act.put, nB, nC, nD]
    refine wpAnyH_done (by kernel_rfl) ?_ _
    skip
    go_wp2_with fail
    go_meet
    have hgp := HPP.out
    exact ⟨w2.heap.size, n4, c4, A4, rfl, (by show _ < _; omega), HR4.out.other g5 (by omega), p5, HP4.out.kept g5 (by omega), below_row HB4.out g5 (by omega)⟩
 case rest =>
  obtain ⟨P, n4, c4, A4, rfl, HP1, HRD, HPK, HPR, HBW4⟩ := hcut
  clear HNU HNV HKP HX HPZ HPR0 HGW HN wr0 wr1 wr2
  have p0 := HPK.out.c.1
  go_upto_if 26 with fail
  go_cut [6] (fun s6 wx => ∃ (A5 A6 : Option Addr) (n5 c5 n6 c6 : Nat), s6 = .pointer (some ⟨P, 0, none⟩) ∧ Hid (PkM wx P rk.1.k rk.1.f rk.1.t rk.1.id rk.1.fi A5 n5 c5 rk.1.ac rk.1.fr rk.1.su) ∧ Hid (RdM wx (w.heap.size + 1) rk.2 A6 n6 c6) ∧ Hid (OB wx (w.heap.size + 1) (.slice A5 n5 c5) rk.1.l) ∧ Hid (rk.1.l.length = n5) ∧ Hid (PkM wx w.heap.size 0 0 0 0 0 none 0 0 0 0 0) ∧ Hid (Below w.heap.size w wx))
  case first =>
   have hHP1 := HP1.out
   by_cases h1 : a0 = 1
   · have hb1 : (a0 == 1) = true := by simp [h1]
     rw [if_pos h1] at HE
     obtain ⟨r1, hr1⟩ : ∃ r1, numK s2 = r1 := ⟨_, rfl⟩
     obtain ⟨r2, hr2⟩ : ∃ r2, numK r1.2 = r2 := ⟨_, rfl⟩
     obtain ⟨r3, hr3⟩ : ∃ r3, numK r2.2 = r3 := ⟨_, rfl⟩
     obtain ⟨r4, hr4⟩ : ∃ r4, fourK r3.2 = r4 := ⟨_, rfl⟩
     obtain ⟨r5, hr5⟩ : ∃ r5, pressK r4.2 = r5 := ⟨_, rfl⟩
     have HEQ : Hid (rk = (⟨a0, a1, a2, i, r1.1, r2.1, r3.1, r4.1, r5.1⟩, r5.2)) := by
      have h := HE.out
      unfold inK at h
      simp only [hr1, hr2, hr3, hr4, hr5] at h
      exact h
     have q1 := num_any (w.heap.size + 1) s2 A4 n4 c4 wc HRD.out
     rw [hr1] at q1
     have Q1 := qh q1
     have HL4 : Hid (r4.2.rest.length ≤ 4096) := by
      have e1 := num_rest s2; rw [hr1] at e1
      have e2 := num_rest r1.2; rw [hr2] at e2
      have e3 := num_rest r2.2; rw [hr3] at e3
      have e4 := four_rest r3.2; rw [hr4] at e4
      have := HL2.out
      show _ ≤ _
      omega
     have H2 := qh hr2; have H3 := qh hr3; have H4 := qh hr4; have H5 := qh hr5
     have HB1 := qh h1
     clear hr1 hr2 hr3 hr4 hr5 HE q1 h1
     go_wp2_with fail
     (with_reducible refine Q1.out.mono ?_)
     rintro e w5 ⟨A5, n5, c5, rfl, hR5, hg5⟩
     have q2 := num_any (w.heap.size + 1) r1.2 A5 n5 c5 w5 hR5
     rw [H2.out] at q2
     have Q2 := qh q2
     have P5 := qh (HPK.out.kept hg5 (by omega)); have Z5 := qh (HPR.out.kept hg5 (by omega)); have B5 := qh (below_row HBW4.out hg5 (by omega))
     clear q2 hR5 hg5 Q1
     go_wp2_with fail
     (with_reducible refine Q2.out.mono ?_)
     rintro e w6 ⟨A6, n6, c6, rfl, hR6, hg6⟩
     have q3 := num_any (w.heap.size + 1) r2.2 A6 n6 c6 w6 hR6
     rw [H3.out] at q3
     have Q3 := qh q3
     have P6 := qh (P5.out.kept hg6 (by omega)); have Z6 := qh (Z5.out.kept hg6 (by omega)); have B6 := qh (below_row B5.out hg6 (by omega))
     clear q3 hR6 hg6 Q2
     go_wp2_with fail
     (with_reducible refine Q3.out.mono ?_)
     rintro e w7 ⟨A7, n7, c7, rfl, hR7, hg7⟩
     have P7 := qh (P6.out.kept hg7 (by omega)); have Z7 := qh (Z6.out.kept hg7 (by omega)); have B7 := qh (below_row B6.out hg7 (by omega))
     obtain ⟨e0, e1, e2, e3, e4, e5, e6, e7, e8⟩ := P7.out.c
     have f4 := P7.out.fz 4; have f6 := P7.out.fz 6; have f7 := P7.out.fz 7; have f8 := P7.out.fz 8; have f5 := P7.out.fz 5
     obtain ⟨w8, hw8⟩ : ∃ w8, w8 = ((w7.setCell ⟨P, 4, none⟩ (.int .i64 r1.1)).setCell ⟨P, 6, none⟩ (.int .i64 r2.1)).setCell ⟨P, 7, none⟩ (.int .i64 r3.1) := ⟨_, rfl⟩
     have P8 : Hid (PkM w8 P a0 a1 a2 i r1.1 none 0 0 r2.1 r3.1 0) := by rw [hw8]; exact ((P7.out.set_fi r1.1).set_ac r2.1).set_fr r3.1
     have g8 : w7.grownBy w8 (some P) := by rw [hw8]; exact gr_trans (gr_trans (gr_set _ _ _ _) (gr_set _ _ _ _)) (gr_set _ _ _ _)
     have R8 := hR7.other g8 hHP1
     have q4 := rfour_any (w.heap.size + 1) r3.2 A7 n7 c7 w8 R8
     rw [H4.out] at q4
     have Q4 := qh q4
     have Z8 := qh (Z7.out.kept g8 (by omega)); have B8 := qh (below_row B7.out g8 (by omega))
     have HW8 := qh hw8
     clear hR7 hg7 Q3 hw8 g8 R8 q4
     go_wp2_with fail
     rw [← HW8.out]
     (with_reducible refine Q4.out.mono ?_)
     rintro e w9 ⟨A9, n9, c9, rfl, hR9, hg9⟩
     have P9 := qh (P8.out.kept hg9 (by omega)); have Z9 := qh (Z8.out.kept hg9 (by omega)); have B9 := qh (below_row B8.out hg9 (by omega))
     clear e0 e1 e2 e3 e4 e5 e6 e7 e8 f4 f5 f6 f7 f8
     obtain ⟨-, -, -, -, -, -, -, -, e8⟩ := P9.out.c
     have f8 := P9.out.fz 8
     obtain ⟨wA, hwA⟩ : ∃ wA, wA = w9.setCell ⟨P, 8, none⟩ (.int .u32 r4.1) := ⟨_, rfl⟩
     have PA : Hid (PkM wA P a0 a1 a2 i r1.1 none 0 0 r2.1 r3.1 r4.1) := by rw [hwA]; exact P9.out.set_su r4.1
     have gA : w9.grownBy wA (some P) := by rw [hwA]; exact gr_set _ _ _ _
     have RA := hR9.other gA hHP1
     have q5 := press_any (w.heap.size + 1) r4.2 A9 n9 c9 wA RA (by rw [← RA.n_]; exact HL4.out)
     rw [H5.out] at q5
     have Q5 := qh q5
     have ZA := qh (Z9.out.kept gA (by omega)); have BA := qh (below_row B9.out gA (by omega))
     have HWA := qh hwA
     clear hR9 hg9 Q4 hwA gA RA q5
     go_wp2_with fail
     rw [← HWA.out]
     (with_reducible refine Q5.out.mono ?_)
     rintro e wB ⟨v, rfl, ov, hRB, hgB⟩
     have PB := qh (PA.out.kept hgB (by omega)); have ZB := qh (ZA.out.kept hgB (by omega)); have BB := qh (below_row BA.out hgB (by omega))
     obtain ⟨nB, hnB⟩ : ∃ nB, r5.1.length = nB := ⟨_, rfl⟩
     obtain ⟨AB, cB, rfl, -, -, -⟩ := ov.form_n nB hnB
     have hPA := PA.out.lt
     clear e8 f8
     obtain ⟨-, -, -, -, -, e5, -, -, -⟩ := PB.out.c
     have f5 := PB.out.fz 5
     have gC : wB.grownBy (wB.setCell ⟨P, 5, none⟩ (.slice AB nB cB)) (some P) := gr_set _ _ _ _
     have RC := qh (hRB.other gC hHP1)
     have OC := qh ((ov.kept_gr gC hPA).less (show w.heap.size + 1 ≤ wA.heap.size by omega))
     have PC := qh (PB.out.set_pr AB nB cB)
     have ZC := qh (ZB.out.kept gC (by omega)); have BC := qh (below_row BB.out gC (by omega))
     have HNB := qh hnB
     clear hRB hgB Q5 ov gC hnB hPA
     go_wp2_with fail
     go_meet
     rw [HEQ.out]
     exact ⟨AB, none, nB, cB, 0, 0, rfl, PC, RC, OC, HNB, ZC, BC⟩
   · have hb1 : (a0 == 1) = false := by simp [h1]
     rw [if_neg h1] at HE
     have HB1 := qh h1
     clear h1
     go_wp2_with fail
     go_meet
     rw [HE.out]
     exact ⟨none, A4, 0, 0, n4, c4, rfl, HPK, HRD, OB.nil _ _, rfl, HPR, HBW4⟩
  case rest =>
   obtain ⟨A5, A6, n5, c5, n6, c6, rfl, HPF, HRF, HOF, HLF, HZF, HBF⟩ := hcut
   have c0 := HRF.out.c0
   have c1 := HRF.out.c1
   obtain ⟨bd, hbd⟩ : ∃ bd, rk.2.bad = bd := ⟨_, rfl⟩
   rw [hbd] at c1
   have hHP1 := HP1.out
   have HN6 := qh HRF.out.n_
   have HBD := qh hbd
   have hS : PkM wc P rk.1.k rk.1.f rk.1.t rk.1.id rk.1.fi A5 n5 c5 rk.1.ac rk.1.fr rk.1.su ∧ wc.cell? ⟨w.heap.size + 1, 0, none⟩ = some (.slice A6 n6 c6) ∧ wc.cell? ⟨w.heap.size + 1, 1, none⟩ = some (.bool bd) := ⟨HPF.out, c0, c1⟩
   have HSS := qh hS
   clear hbd hS c0 c1 HE
   cases bd
   · by_cases h6 : n6 = 0
     · subst h6
       have HG : Hid (rk.2.good = true) := by show _ = _; unfold RS.good; rw [HBD.out, HN6.out]; rfl
       go_upto_region 8 with fail
       refine wp_region_held_drew (S := (fun w' => PkM w' P rk.1.k rk.1.f rk.1.t rk.1.id rk.1.fi A5 n5 c5 rk.1.ac rk.1.fr rk.1.su ∧ w'.cell? ⟨w.heap.size + 1, 0, none⟩ = some (.slice A6 0 c6) ∧ w'.cell? ⟨w.heap.size + 1, 1, none⟩ = some (.bool false))) (by kernel_rfl) (HSS.out) (fun hHeld => ?_)
       refine htk (i := 0) (v := (pkV rk.1.k rk.1.f rk.1.t rk.1.id rk.1.fi A5 n5 c5 rk.1.ac rk.1.fr rk.1.su)) rfl (by kernel_rfl) (fun _ _ _ h => h) (by rfl) hHeld (exec_load_pk (.tmp 6) rfl P (by rfl) (fun w h => h.1)) ?_
       try simp only [Act.put, nB, nC, nD]
       refine htk (i := 1) (v := ?_) rfl (by kernel_rfl) (fun _ _ _ h => h) (by rfl) hHeld ?_ ?_
       rotate_left 1
       · (intro w hSw; (try dsimp only at hSw); go_simp; try (with_reducible rfl))
       try simp only [Act.put, nB, nC, nD]
       refine htk (i := 2) (v := ?_) rfl (by kernel_rfl) (fun _ _ _ h => h) (by rfl) hHeld ?_ ?_
       rotate_left 1
       · (intro w hSw; (try dsimp only at hSw); go_simp; try (with_reducible rfl))
       try simp only [Act.put, nB, nC, nD]
       refine htk (i := 3) (v := ?_) rfl (by kernel_rfl) (fun _ _ _ h => h) (by rfl) hHeld ?_ ?_
       rotate_left 1
       · (intro w hSw; (try dsimp only at hSw); go_simp; try (with_reducible rfl))
       try simp only [Act.put, nB, nC, nD]
       refine htk (i := 4) (v := ?_) rfl (by kernel_rfl) (fun _ _ _ h => h) (by rfl) hHeld ?_ ?_
       rotate_left 1
       · (intro w hSw; (try dsimp only at hSw); go_simp; try (with_reducible rfl))
       try simp only [Act.put, nB, nC, nD]
       refine htk (i := 5) (v := ?_) rfl (by kernel_rfl) (fun _ _ _ h => h) (by rfl) hHeld ?_ ?_
       rotate_left 1
       · (intro w hSw; (try dsimp only at hSw); go_simp; try (with_reducible rfl))
       try simp only [Act.put, nB, nC, nD]
       refine htk (i := 6) (v := ?_) rfl (by kernel_rfl) (fun _ _ _ h => h) (by rfl) hHeld ?_ ?_
       rotate_left 1
       · (intro w hSw; (try dsimp only at hSw); go_simp; try (with_reducible rfl))
       try simp only [Act.put, nB, nC, nD]
       refine htk (i := 7) (v := ?_) rfl (by kernel_rfl) (fun _ _ _ h => h) (by rfl) hHeld ?_ ?_
       rotate_left 1
       · (intro w hSw; (try dsimp only at hSw); go_simp; try (with_reducible rfl))
       try simp only [Act.put, nB, nC, nD]
       refine htk (i := 8) (v := ?_) rfl (by kernel_rfl) (fun _ _ _ h => h) (by rfl) hHeld ?_ ?_
       rotate_left 1
       · (intro w hSw; (try dsimp only at hSw); go_simp; try (with_reducible rfl))
       try simp only [Act.put, nB, nC, nD]
       refine htk (i := 9) (v := ?_) rfl (by kernel_rfl) (fun _ _ _ h => h) (by rfl) hHeld ?_ ?_
       rotate_left 1
       · (intro w hSw; (try dsimp only at hSw); go_simp; try (with_reducible rfl))
       try simp only [Act.put, nB, nC, nD]
       refine held_one (i := 10) rfl (by kernel_rfl) (by rfl) (fun K hK => ?_)
       refine wp_store_pk (.tmp 2) (.tmp 37) rfl w.heap.size (by rfl) HZF.out (by rfl) ?_
       intro w9 p9 z9 g9
       have hne : w.heap.size + 1 ≠ w.heap.size := by omega
       have hlt := HRF.out.lt
       refine hK.out _ _ (⟨PkM.kept (w := wc.drew) HPF.out g9 (by omega), (gr_cell g9 hlt hne).trans HSS.out.2.1, (gr_cell g9 hlt hne).trans HSS.out.2.2⟩) (fun hHeld2 => ?_)
       clear hK K hHeld; have hHeld := hHeld2; clear hHeld2
       try simp only [Act.put, nB, nC, nD]
       refine htk (i := 11) (v := ?_) rfl (by kernel_rfl) (fun _ _ _ h => h) (by rfl) hHeld ?_ ?_
       rotate_left 1
       · (intro w hSw; (try dsimp only at hSw); go_simp; try (with_reducible rfl))
       try simp only [Act.put, nB, nC, nD]
       refine wpAnyH_done (by kernel_rfl) ?_ _
       skip
       obtain ⟨r0, r1, r2, r3, r4, r5, r6, r7, r8⟩ := p9.c
       go_wp2_with fail
       refine bodyPost_ret (v := .tuple #[pkV rk.1.k rk.1.f rk.1.t rk.1.id rk.1.fi A5 n5 c5 rk.1.ac rk.1.fr rk.1.su, .bool true]) (by simp [results, Tryz.results124, go_sem, r0, r1, r2, r3, r4, r5, r6, r7, r8]) rfl ⟨A5, n5, c5, by rw [HG.out], ?_, HLF.out, below_row (w := wc.drew) HBF.out.drew g9 (nl _)⟩
       exact (OB.kept_gr (w := wc.drew) HOF.out.drew g9 (by omega)).less (by omega)
     · have hb6 : ((n6 : Int) == 0) = false := by simp; exact h6
       have HG : Hid (rk.2.good = false) := by show _ = _; unfold RS.good; rw [HBD.out, HN6.out, decide_eq_false h6]; rfl
       go_upto_region 8 with fail
       refine wp_region_held_drew (S := (fun w' => PkM w' P rk.1.k rk.1.f rk.1.t rk.1.id rk.1.fi A5 n5 c5 rk.1.ac rk.1.fr rk.1.su ∧ w'.cell? ⟨w.heap.size + 1, 0, none⟩ = some (.slice A6 n6 c6) ∧ w'.cell? ⟨w.heap.size + 1, 1, none⟩ = some (.bool false))) (by kernel_rfl) (HSS.out) (fun hHeld => ?_)
       refine htk (i := 0) (v := (pkV rk.1.k rk.1.f rk.1.t rk.1.id rk.1.fi A5 n5 c5 rk.1.ac rk.1.fr rk.1.su)) rfl (by kernel_rfl) (fun _ _ _ h => h) (by rfl) hHeld (exec_load_pk (.tmp 6) rfl P (by rfl) (fun w h => h.1)) ?_
       try simp only [Act.put, nB, nC, nD]
       refine htk (i := 1) (v := ?_) rfl (by kernel_rfl) (fun _ _ _ h => h) (by rfl) hHeld ?_ ?_
       rotate_left 1
       · (intro w hSw; (try dsimp only at hSw); go_simp; try (with_reducible rfl))
       try simp only [Act.put, nB, nC, nD]
       refine htk (i := 2) (v := ?_) rfl (by kernel_rfl) (fun _ _ _ h => h) (by rfl) hHeld ?_ ?_
       rotate_left 1
       · (intro w hSw; (try dsimp only at hSw); go_simp; try (with_reducible rfl))
       try simp only [Act.put, nB, nC, nD]
       refine htk (i := 3) (v := ?_) rfl (by kernel_rfl) (fun _ _ _ h => h) (by rfl) hHeld ?_ ?_
       rotate_left 1
       · (intro w hSw; (try dsimp only at hSw); go_simp; try (with_reducible rfl))
       try simp only [Act.put, nB, nC, nD]
       refine htk (i := 4) (v := ?_) rfl (by kernel_rfl) (fun _ _ _ h => h) (by rfl) hHeld ?_ ?_
       rotate_left 1
       · (intro w hSw; (try dsimp only at hSw); go_simp; try (with_reducible rfl))
       try simp only [Act.put, nB, nC, nD]
       refine htk (i := 5) (v := ?_) rfl (by kernel_rfl) (fun _ _ _ h => h) (by rfl) hHeld ?_ ?_
       rotate_left 1
       · (intro w hSw; (try dsimp only at hSw); go_simp; try (with_reducible rfl))
       try simp only [Act.put, nB, nC, nD]
       refine htk (i := 6) (v := ?_) rfl (by kernel_rfl) (fun _ _ _ h => h) (by rfl) hHeld ?_ ?_
       rotate_left 1
       · (intro w hSw; (try dsimp only at hSw); go_simp; try (with_reducible rfl))
       try simp only [Act.put, nB, nC, nD]
       refine htk (i := 7) (v := ?_) rfl (by kernel_rfl) (fun _ _ _ h => h) (by rfl) hHeld ?_ ?_
       rotate_left 1
       · (intro w hSw; (try dsimp only at hSw); go_simp; try (with_reducible rfl))
       try simp only [Act.put, nB, nC, nD]
       refine htk (i := 8) (v := ?_) rfl (by kernel_rfl) (fun _ _ _ h => h) (by rfl) hHeld ?_ ?_
       rotate_left 1
       · (intro w hSw; (try dsimp only at hSw); go_simp; try (with_reducible rfl))
       try simp only [Act.put, nB, nC, nD]
       refine htk (i := 9) (v := ?_) rfl (by kernel_rfl) (fun _ _ _ h => h) (by rfl) hHeld ?_ ?_
       rotate_left 1
       · (intro w hSw; (try dsimp only at hSw); go_simp; try (with_reducible rfl))
       try simp only [Act.put, nB, nC, nD]
       refine held_one (i := 10) rfl (by kernel_rfl) (by rfl) (fun K hK => ?_)
       refine wp_store_pk (.tmp 2) (.tmp 37) rfl w.heap.size (by rfl) HZF.out (by rfl) ?_
       intro w9 p9 z9 g9
       have hne : w.heap.size + 1 ≠ w.heap.size := by omega
       have hlt := HRF.out.lt
       refine hK.out _ _ (⟨PkM.kept (w := wc.drew) HPF.out g9 (by omega), (gr_cell g9 hlt hne).trans HSS.out.2.1, (gr_cell g9 hlt hne).trans HSS.out.2.2⟩) (fun hHeld2 => ?_)
       clear hK K hHeld; have hHeld := hHeld2; clear hHeld2
       try simp only [Act.put, nB, nC, nD]
       refine htk (i := 11) (v := ?_) rfl (by kernel_rfl) (fun _ _ _ h => h) (by rfl) hHeld ?_ ?_
       rotate_left 1
       · (intro w hSw; (try dsimp only at hSw); go_simp; try (with_reducible rfl))
       try simp only [Act.put, nB, nC, nD]
       refine wpAnyH_done (by kernel_rfl) ?_ _
       skip
       obtain ⟨r0, r1, r2, r3, r4, r5, r6, r7, r8⟩ := p9.c
       go_wp2_with fail
       refine bodyPost_ret (v := .tuple #[pkV rk.1.k rk.1.f rk.1.t rk.1.id rk.1.fi A5 n5 c5 rk.1.ac rk.1.fr rk.1.su, .bool false]) (by simp [results, Tryz.results124, go_sem, r0, r1, r2, r3, r4, r5, r6, r7, r8]) rfl ⟨A5, n5, c5, by rw [HG.out], ?_, HLF.out, below_row (w := wc.drew) HBF.out.drew g9 (nl _)⟩
       exact (OB.kept_gr (w := wc.drew) HOF.out.drew g9 (by omega)).less (by omega)
   · have HG : Hid (rk.2.good = false) := by show _ = _; unfold RS.good; rw [HBD.out]; rfl
     go_upto_region 8 with fail
     refine wp_region_held_drew (S := (fun w' => PkM w' P rk.1.k rk.1.f rk.1.t rk.1.id rk.1.fi A5 n5 c5 rk.1.ac rk.1.fr rk.1.su ∧ w'.cell? ⟨w.heap.size + 1, 0, none⟩ = some (.slice A6 n6 c6) ∧ w'.cell? ⟨w.heap.size + 1, 1, none⟩ = some (.bool true))) (by kernel_rfl) (HSS.out) (fun hHeld => ?_)
     refine htk (i := 0) (v := (pkV rk.1.k rk.1.f rk.1.t rk.1.id rk.1.fi A5 n5 c5 rk.1.ac rk.1.fr rk.1.su)) rfl (by kernel_rfl) (fun _ _ _ h => h) (by rfl) hHeld (exec_load_pk (.tmp 6) rfl P (by rfl) (fun w h => h.1)) ?_
     try simp only [Act.put, nB, nC, nD]
     refine htk (i := 1) (v := ?_) rfl (by kernel_rfl) (fun _ _ _ h => h) (by rfl) hHeld ?_ ?_
     rotate_left 1
     · (intro w hSw; (try dsimp only at hSw); go_simp; try (with_reducible rfl))
     try simp only [Act.put, nB, nC, nD]
     refine htk (i := 2) (v := ?_) rfl (by kernel_rfl) (fun _ _ _ h => h) (by rfl) hHeld ?_ ?_
     rotate_left 1
     · (intro w hSw; (try dsimp only at hSw); go_simp; try (with_reducible rfl))
     try simp only [Act.put, nB, nC, nD]
     refine htk (i := 3) (v := ?_) rfl (by kernel_rfl) (fun _ _ _ h => h) (by rfl) hHeld ?_ ?_
     rotate_left 1
     · (intro w hSw; (try dsimp only at hSw); go_simp; try (with_reducible rfl))
     try simp only [Act.put, nB, nC, nD]
     refine htk (i := 4) (v := ?_) rfl (by kernel_rfl) (fun _ _ _ h => h) (by rfl) hHeld ?_ ?_
     rotate_left 1
     · (intro w hSw; (try dsimp only at hSw); go_simp; try (with_reducible rfl))
     try simp only [Act.put, nB, nC, nD]
     refine held_off (i := 5) rfl (by kernel_rfl) (by kernel_rfl) (by kernel_rfl) (fun _ _ _ h => h) (by rfl) hHeld ?_
     try simp only [Act.put, nB, nC, nD]
     refine held_off (i := 6) rfl (by kernel_rfl) (by kernel_rfl) (by kernel_rfl) (fun _ _ _ h => h) (by rfl) hHeld ?_
     try simp only [Act.put, nB, nC, nD]
     refine held_off (i := 7) rfl (by kernel_rfl) (by kernel_rfl) (by kernel_rfl) (fun _ _ _ h => h) (by rfl) hHeld ?_
     try simp only [Act.put, nB, nC, nD]
     refine held_off (i := 8) rfl (by kernel_rfl) (by kernel_rfl) (by kernel_rfl) (fun _ _ _ h => h) (by rfl) hHeld ?_
     try simp only [Act.put, nB, nC, nD]
     refine htk (i := 9) (v := ?_) rfl (by kernel_rfl) (fun _ _ _ h => h) (by rfl) hHeld ?_ ?_
     rotate_left 1
     · (intro w hSw; (try dsimp only at hSw); go_simp; try (with_reducible rfl))
     try simp only [Act.put, nB, nC, nD]
     refine held_one (i := 10) rfl (by kernel_rfl) (by rfl) (fun K hK => ?_)
     refine wp_store_pk (.tmp 2) (.tmp 37) rfl w.heap.size (by rfl) HZF.out (by rfl) ?_
     intro w9 p9 z9 g9
     have hne : w.heap.size + 1 ≠ w.heap.size := by omega
     have hlt := HRF.out.lt
     refine hK.out _ _ (⟨PkM.kept (w := wc.drew) HPF.out g9 (by omega), (gr_cell g9 hlt hne).trans HSS.out.2.1, (gr_cell g9 hlt hne).trans HSS.out.2.2⟩) (fun hHeld2 => ?_)
     clear hK K hHeld; have hHeld := hHeld2; clear hHeld2
     try simp only [Act.put, nB, nC, nD]
     refine htk (i := 11) (v := ?_) rfl (by kernel_rfl) (fun _ _ _ h => h) (by rfl) hHeld ?_ ?_
     rotate_left 1
     · (intro w hSw; (try dsimp only at hSw); go_simp; try (with_reducible rfl))
     try simp only [Act.put, nB, nC, nD]
     refine wpAnyH_done (by kernel_rfl) ?_ _
     skip
     obtain ⟨r0, r1, r2, r3, r4, r5, r6, r7, r8⟩ := p9.c
     go_wp2_with fail
     refine bodyPost_ret (v := .tuple #[pkV rk.1.k rk.1.f rk.1.t rk.1.id rk.1.fi A5 n5 c5 rk.1.ac rk.1.fr rk.1.su, .bool false]) (by simp [results, Tryz.results124, go_sem, r0, r1, r2, r3, r4, r5, r6, r7, r8]) rfl ⟨A5, n5, c5, by rw [HG.out], ?_, HLF.out, below_row (w := wc.drew) HBF.out.drew g9 (nl _)⟩
     exact (OB.kept_gr (w := wc.drew) HOF.out.drew g9 (by omega)).less (by omega)
def DecAns (b : List UInt8) (w w' : World) (e : Ending) : Prop :=
 (∃ (p : Pk) (A : Option Addr) (n c : Nat), IsK b p ∧ e = .returned (.tuple #[pkV p.k p.f p.t p.id p.fi A n c p.ac p.fr p.su, .int .i64 0]) ∧ OB w' w.heap.size (.slice A n c) p.l ∧ p.l.length = n) ∨
 ((∀ p, ¬ IsK b p) ∧ e = .returned (.tuple #[pkV 0 0 0 0 0 none 0 0 0 0 0, .int .i64 1]))
theorem is_sealed {b : List UInt8} {p : Pk} (h : IsK b p) : b = sealK p.body := h.2.2.symm
theorem is_not_sealed {b : List UInt8} (e : Nat) (he : b.length = e + 4) (h : ¬ b = sealK (b.take e)) : ∀ p, ¬ IsK b p := fun p hp => by
 have hs := is_sealed hp
 have h2 := seal_take hs
 have h3 : p.body.length = e := by omega
 rw [← h3, h2.1] at h
 exact h hs
theorem is_short {b : List UInt8} (he : b.length < 4) : ∀ p, ¬ IsK b p := fun p hp => by have := is_long hp; omega
set_option maxHeartbeats 4000000 in
theorem dec_run (A : Option Addr) (l : List UInt8) (n c : Nat) (w : World) (hT : TabW w) (hr : RB w w.heap.size A l) (hn : l.length = n) (hc : n ≤ c) (hm : c ≤ maxLen) (hl : n ≤ 4096) :
 Calls Tryz.prog 82 #[.slice A n c] w fun e w' => DecAns l w w' e ∧ Below w.heap.size w w' := by
 obtain ⟨W1, hW1⟩ : ∃ W1, W1 = w.alloc (pkO 0 0 0 0 0 none 0 0 0 0 0) := ⟨_, rfl⟩
 have B1 : Hid (Below w.heap.size w W1) := by rw [hW1]; exact (bR _ _).alloc (nl _) _
 have S1 : Hid (W1.heap.size = w.heap.size + 1) := by show _ = _; rw [hW1]; simp
 have R1 : Hid (PkM W1 w.heap.size 0 0 0 0 0 none 0 0 0 0 0) := by rw [hW1]; exact PkM.new w _ _ _ _ _ _ _ _ _ _ _
 have T1 : Hid (TabW W1) := hT.below B1.out hT.lt
 have RB1 : Hid (RB W1 W1.heap.size A l) := hr.next B1.out
 have HW1 := qh hW1
 have HN := qh hn; have HM := qh hm; have HL := qh hl
 clear hT hr hW1 hn hm hl
 by_cases h4 : n < 4
 · have HU := qh (unseal_less A n c W1 h4)
   have HNO := qh (is_short (b := l) (by rw [HN.out]; exact h4))
   go_enter Tryz.func82, Tryz.ntmps82
   go_wp2_with fail
   rw [← HW1.out]
   (with_reducible refine HU.out.mono ?_)
   rintro r w2 ⟨rfl, hb2⟩
   have R2 := qh (R1.out.below hb2 (by rw [S1.out]; omega)); have B2 := qh (B1.out.trans (hb2.mono B1.out.size))
   clear hb2
   go_wp2_with (first
    | (refine wpList_store_pk rfl (.tmp 2) (.tmp 14) rfl w.heap.size (by rfl) R2.out (by rfl) ?_; intro w5 p5 z5 g5))
   obtain ⟨r0, r1, r2, r3, r4, r5, r6, r7, r8⟩ := p5.c
   refine bodyPost_ret (v := .tuple #[pkV 0 0 0 0 0 none 0 0 0 0 0, .int .i64 1]) (by simp [results, Tryz.results82, go_sem, r0, r1, r2, r3, r4, r5, r6, r7, r8]) rfl ⟨.inr ⟨HNO.out, rfl⟩, ?_⟩
   exact below_row B2.out g5 (nl _)
 · obtain ⟨e, rfl⟩ : ∃ e, n = e + 4 := ⟨n - 4, by omega⟩
   obtain ⟨bs, hbs⟩ : ∃ bs : Bool, decide (l = sealK (l.take e)) = bs := ⟨_, rfl⟩
   have hU := unseal_four A l e c W1 T1.out RB1.out HN.out hc HM.out bs (by rw [← hbs]; exact decide_eq_true_iff)
   cases bs
   · have HU : Hid (Calls Tryz.prog 123 #[.slice A (e + 4 : Nat) c] W1 fun r w' => r = .returned (.tuple #[.slice none 0 0, .bool false]) ∧ Below W1.heap.size W1 w') := hU.mono fun r w' h => ⟨h.2.1 rfl, h.2.2⟩
     have HNO := qh (is_not_sealed e HN.out (of_decide_eq_false hbs))
     clear hU hbs
     go_enter Tryz.func82, Tryz.ntmps82
     go_wp2_with fail
     rw [← HW1.out]
     (with_reducible refine HU.out.mono ?_)
     rintro r w2 ⟨rfl, hb2⟩
     have R2 := qh (R1.out.below hb2 (by rw [S1.out]; omega)); have B2 := qh (B1.out.trans (hb2.mono B1.out.size))
     clear hb2
     go_wp2_with (first
      | (refine wpList_store_pk rfl (.tmp 2) (.tmp 14) rfl w.heap.size (by rfl) R2.out (by rfl) ?_; intro w5 p5 z5 g5))
     obtain ⟨r0, r1, r2, r3, r4, r5, r6, r7, r8⟩ := p5.c
     refine bodyPost_ret (v := .tuple #[pkV 0 0 0 0 0 none 0 0 0 0 0, .int .i64 1]) (by simp [results, Tryz.results82, go_sem, r0, r1, r2, r3, r4, r5, r6, r7, r8]) rfl ⟨.inr ⟨HNO.out, rfl⟩, ?_⟩
     exact below_row B2.out g5 (nl _)
   · have HU : Hid (Calls Tryz.prog 123 #[.slice A (e + 4 : Nat) c] W1 fun r w' => r = .returned (.tuple #[.slice A e c, .bool true]) ∧ Below W1.heap.size W1 w') := hU.mono fun r w' h => ⟨h.1 rfl, h.2.2⟩
     have hseal := of_decide_eq_true hbs
     obtain ⟨x, hx⟩ : ∃ x, l.take e = x := ⟨_, rfl⟩
     rw [hx] at hseal
     have hxl : x.length = e := by rw [← hx, List.length_take, HN.out]; omega
     obtain ⟨q, hq⟩ : ∃ q, (readK x).1 = q := ⟨_, rfl⟩
     obtain ⟨g, hg⟩ : ∃ g, (readK x).2.good = g := ⟨_, rfl⟩
     have HIS : Hid (∀ p, IsK l p ↔ g = true ∧ q = p ∧ p.may) := fun p => by rw [hseal, ← hq, ← hg]; exact is_read x p
     have HXT := qh hx; have HXL := qh hxl; have HQ := qh hq; have HGD := qh hg
     clear hU hbs hseal hx hxl hq hg
     have hce : e ≤ c := by omega
     cases g
     · have HNO : Hid (∀ p, ¬ IsK l p) := fun p hp => by have := (HIS.out p).1 hp; exact absurd this.1 (by simp)
       go_enter Tryz.func82, Tryz.ntmps82
       go_wp2_with fail
       rw [← HW1.out]
       (with_reducible refine HU.out.mono ?_)
       rintro r w2 ⟨rfl, hb2⟩
       have HR := qh (pread_any A x e c w2 (by have h := (RB1.out.next hb2).take e; rw [HXT.out] at h; exact h) HXL.out hce HM.out (by have := HL.out; omega))
       unfold ReadK at HR
       rw [HQ.out, HGD.out] at HR
       have R2 := qh (R1.out.below hb2 (by rw [S1.out]; omega)); have B2 := qh (B1.out.trans (hb2.mono B1.out.size)); have S2 : Hid (w.heap.size < w2.heap.size) := by show _ < _; have := hb2.size; rw [S1.out] at this; omega
       clear hb2
       go_wp2_with fail
       (with_reducible refine HR.out.mono ?_)
       rintro r w3 ⟨A3, n3, c3, rfl, ho3, hl3, hb3⟩
       have R3 := qh (R2.out.below hb3 S2.out); have B3 := qh (B2.out.trans (hb3.mono B2.out.size)); have S3 : Hid (w.heap.size < w3.heap.size) := Nat.lt_of_lt_of_le S2.out hb3.size
       have R4 := qh (R3.out.below ((bR _ _).alloc (nl _) (pkO q.k q.f q.t q.id q.fi A3 n3 c3 q.ac q.fr q.su)) S3.out)
       clear hb3 ho3 hl3
       go_wp2_with (first
        | (refine wpList_store_pk rfl (.tmp 2) (.tmp 27) rfl w.heap.size (by rfl) R4.out (by rfl) ?_; intro w5 p5 z5 g5))
       obtain ⟨r0, r1, r2, r3, r4, r5, r6, r7, r8⟩ := p5.c
       refine bodyPost_ret (v := .tuple #[pkV 0 0 0 0 0 none 0 0 0 0 0, .int .i64 1]) (by simp [results, Tryz.results82, go_sem, r0, r1, r2, r3, r4, r5, r6, r7, r8]) rfl ⟨.inr ⟨HNO.out, rfl⟩, ?_⟩
       exact below_row (B3.out.alloc B3.out.size _) g5 (nl _)
     · obtain ⟨mb, hmb⟩ : ∃ mb : Bool, decide (mayC q.k q.f q.t q.id q.fi q.ac q.fr q.su q.l.length) = mb := ⟨_, rfl⟩
       have HMB := qh hmb
       clear hmb
       go_enter Tryz.func82, Tryz.ntmps82
       go_wp2_with fail
       rw [← HW1.out]
       (with_reducible refine HU.out.mono ?_)
       rintro r w2 ⟨rfl, hb2⟩
       have HR := qh (pread_any A x e c w2 (by have h := (RB1.out.next hb2).take e; rw [HXT.out] at h; exact h) HXL.out hce HM.out (by have := HL.out; omega))
       unfold ReadK at HR
       rw [HQ.out, HGD.out] at HR
       have R2 := qh (R1.out.below hb2 (by rw [S1.out]; omega)); have B2 := qh (B1.out.trans (hb2.mono B1.out.size)); have S2 : Hid (w.heap.size < w2.heap.size) := by show _ < _; have := hb2.size; rw [S1.out] at this; omega
       clear hb2
       go_wp2_with fail
       (with_reducible refine HR.out.mono ?_)
       rintro r w3 ⟨A3, n3, c3, rfl, ho3, hl3, hb3⟩
       have R3 := qh (R2.out.below hb3 S2.out); have B3 := qh (B2.out.trans (hb3.mono B2.out.size)); have S3 : Hid (w.heap.size < w3.heap.size) := Nat.lt_of_lt_of_le S2.out hb3.size
       have a4 : Below w3.heap.size w3 (w3.alloc (pkO q.k q.f q.t q.id q.fi A3 n3 c3 q.ac q.fr q.su)) := (bR _ _).alloc (nl _) _
       have a5 : Below w3.heap.size w3 ((w3.alloc (pkO q.k q.f q.t q.id q.fi A3 n3 c3 q.ac q.fr q.su)).alloc (pkO q.k q.f q.t q.id q.fi A3 n3 c3 q.ac q.fr q.su)) := a4.alloc a4.size _
       obtain ⟨A3', cc, hform, hnc3, hcm3, -⟩ := ho3.form_n n3 hl3
       injection hform with f1 f2 f3
       subst f1 f3
       have R5 := qh (R3.out.below a5 S3.out); have B5 := qh (B3.out.trans (a5.mono B3.out.size))
       have O5 := qh (ho3.below a5 (nl _))
       have hm3 := may_any q.k q.f q.t q.id q.fi A3 n3 c3 q.ac q.fr q.su mb (by rw [← HMB.out, ← hl3]) (w3.alloc (pkO q.k q.f q.t q.id q.fi A3 n3 c3 q.ac q.fr q.su)) (Nat.le_trans hnc3 hcm3)
       have HM3 := qh hm3
       have HL3 := qh hl3
       clear hb3 ho3 hl3 a4 a5 hcm3 hm3
       cases mb
       · have HNO : Hid (∀ p, ¬ IsK l p) := fun p hp => by
          obtain ⟨-, e2, e3⟩ := (HIS.out p).1 hp
          subst e2
          exact (of_decide_eq_false HMB.out) e3
         go_wp2_with (first
          | (go_at_call 125; (with_reducible refine HM3.out.mono ?_); rintro r w4 ⟨rfl, rfl⟩)
          | (refine wpList_store_pk rfl (.tmp 2) (.tmp 27) rfl w.heap.size (by rfl) R5.out (by rfl) ?_; intro w5 p5 z5 g5))
         obtain ⟨r0, r1, r2, r3, r4, r5, r6, r7, r8⟩ := p5.c
         refine bodyPost_ret (v := .tuple #[pkV 0 0 0 0 0 none 0 0 0 0 0, .int .i64 1]) (by simp [results, Tryz.results82, go_sem, r0, r1, r2, r3, r4, r5, r6, r7, r8]) rfl ⟨.inr ⟨HNO.out, rfl⟩, ?_⟩
         exact below_row B5.out g5 (nl _)
       · have HYES : Hid (IsK l q) := (HIS.out q).2 ⟨by first | rfl | trivial, rfl, of_decide_eq_true (p := mayC q.k q.f q.t q.id q.fi q.ac q.fr q.su q.l.length) HMB.out⟩
         go_wp2_with (first
          | (go_at_call 125; (with_reducible refine HM3.out.mono ?_); rintro r w4 ⟨rfl, rfl⟩)
          | (refine wpList_store_pk rfl (.tmp 2) (.tmp 28) rfl w.heap.size (by rfl) R5.out (by rfl) ?_; intro w5 p5 z5 g5))
         obtain ⟨r0, r1, r2, r3, r4, r5, r6, r7, r8⟩ := p5.c
         refine bodyPost_ret (v := .tuple #[pkV q.k q.f q.t q.id q.fi A3 n3 c3 q.ac q.fr q.su, .int .i64 0]) (by simp [results, Tryz.results82, go_sem, r0, r1, r2, r3, r4, r5, r6, r7, r8]) rfl ⟨.inl ⟨q, A3, n3, c3, HYES.out, rfl, ?_, HL3.out⟩, ?_⟩
         · have hs2 : w.heap.size < w2.heap.size := S2.out
           have ho := OB.kept_gr O5.out g5 hs2
           exact ho.less (by omega)
         · exact below_row B5.out g5 (nl _)
end Go.Proofs.YtpnobpligchpiaaGreatDoor
