/- texts of YpMd -/
import Derived.ChangeSame
import Derived.Deep.Slices
import Derived.Lib.SmallJoins
import Derived.Test.YtpnobpligchpiaaGreatDoorYpK
import Derived.Test.YtpnobpligchpiaaGreatDoorYpMa
import Derived.Test.YtpnobpligchpiaaGreatDoorYpMb
import Derived.Test.YtpnobpligchpiaaGreatDoorYpMc
namespace Go.Proofs.YtpnobpligchpiaaGreatDoor
set_option maxRecDepth 100000
open Go.RowKit
set_option linter.unusedVariables false
open Go.Joins Go.ChangeShapes Go.WideShapes Go.ChangeAt Go.RowKit Go.Deep
set_option linter.unusedSimpArgs false
structure PressAt (w : World) (B : Nat) (p : Addr) (l : List UInt8) (a : Option Addr) (c : Nat) : Prop where
 cell : w.cell? p = some (.slice a l.length c)
 rb : RB w B a l
 le : l.length ≤ c
 cm : c ≤ maxLen
def RP (w : World) (B : Nat) (A : Option Addr) (ps : List (List UInt8)) : Prop :=
 0 < ps.length → ∃ g off, A = some ⟨g, off, none⟩ ∧ g < B ∧ ∀ j l, ps[j]? = some l → ∃ a c, PressAt w B ⟨g, off + j, none⟩ l a c
theorem RP.nil (w : World) (B : Nat) (A : Option Addr) : RP w B A [] := fun h => absurd h (by simp)
theorem PressAt.below {w w' : World} {B : Nat} {p : Addr} {l : List UInt8} {a : Option Addr} {c : Nat} (h : PressAt w B p l a c) (hb : Below B w w') (hp : p.block < B) : PressAt w' B p l a c :=
 ⟨(hb.cell hp).trans h.cell, h.rb.below hb, h.le, h.cm⟩
theorem RP.below {w w' : World} {B : Nat} {A : Option Addr} {ps : List (List UInt8)} (h : RP w B A ps) (hb : Below B w w') : RP w' B A ps := fun h0 => by
 obtain ⟨g, off, e, hlt, hc⟩ := h h0
 refine ⟨g, off, e, hlt, fun j l hj => ?_⟩
 obtain ⟨a, c, q⟩ := hc j l hj
 exact ⟨a, c, q.below hb hlt⟩
theorem RP.more {w : World} {B B' : Nat} {A : Option Addr} {ps : List (List UInt8)} (h : RP w B A ps) (hB : B ≤ B') : RP w B' A ps := fun h0 => by
 obtain ⟨g, off, e, hlt, hc⟩ := h h0
 refine ⟨g, off, e, by omega, fun j l hj => ?_⟩
 obtain ⟨a, c, q⟩ := hc j l hj
 exact ⟨a, c, q.cell, q.rb.more hB, q.le, q.cm⟩
theorem RP.then_ {w w' : World} {B : Nat} {A : Option Addr} {ps : List (List UInt8)} (h : RP w B A ps) (hB : B ≤ w.heap.size) (hb : Below w.heap.size w w') : RP w' w'.heap.size A ps := (h.below (hb.mono hB)).more (Nat.le_trans hB hb.size)
theorem RP.take {w : World} {B : Nat} {A : Option Addr} {ps : List (List UInt8)} (h : RP w B A ps) (k : Nat) : RP w B A (ps.take k) := fun h0 => by
 rw [List.length_take] at h0
 obtain ⟨g, off, e, hlt, hc⟩ := h (by omega)
 refine ⟨g, off, e, hlt, fun j l hj => hc j l ?_⟩
 rw [List.getElem?_take] at hj
 split at hj
 · exact hj
 · cases hj
theorem RP.cut {w : World} {B : Nat} {A : Option Addr} {ps : List (List UInt8)} (h : RP w B A ps) (k cap : Nat) (hk : k ≤ ps.length) (hc : ps.length ≤ cap) : RP w B (if cap = k then A else A.map (·.add k)) (ps.drop k) := fun h0 => by
 rw [List.length_drop] at h0
 obtain ⟨g, off, rfl, hlt, hcell⟩ := h (by omega)
 rw [if_neg (by omega)]
 refine ⟨g, off + k, by simp [Addr.add_lit], hlt, fun j l hj => ?_⟩
 rw [List.getElem?_drop] at hj
 rw [Nat.add_assoc]
 exact hcell (k + j) l hj
theorem RP.at {w : World} {B : Nat} {A : Option Addr} {ps : List (List UInt8)} (h : RP w B A ps) (j : Nat) (l : List UInt8) (hj : ps[j]? = some l) : ∃ g off a c, A = some ⟨g, off, none⟩ ∧ g < B ∧ PressAt w B ⟨g, off + j, none⟩ l a c := by
 have h0 := (List.getElem?_eq_some_iff.1 hj).1
 obtain ⟨g, off, e, hlt, hc⟩ := h (by omega)
 obtain ⟨a, c, q⟩ := hc j l hj
 exact ⟨g, off, a, c, e, hlt, q⟩
section
variable {H : Type} {enc : TypeId × Value → H}
end
def fdN (t : ByteArray) (os : List O4) (f : Int) (ps : List (List UInt8)) (g : List Int) : Nat → List Int
 | 0 => g
 | n + 1 => (frameN ⟨t, f + (n : Int), ps.getD n []⟩ os (fdN t os f ps g n)).1
theorem fdN_step (t : ByteArray) (os : List O4) (f : Int) (ps : List (List UInt8)) (g : List Int) (n : Nat) (l : List UInt8) (z : Int) (hl : ps[n]? = some l) (hz : f + (n : Int) = z) : fdN t os f ps g (n + 1) = (frameN ⟨t, z, l⟩ os (fdN t os f ps g n)).1 := by
 subst hz
 show (frameN _ os _).1 = _
 rw [show ps.getD n [] = l by rw [List.getD_eq_getElem?_getD, hl]; rfl]
theorem fdN_gam {t : ByteArray} {os : List O4} {f : Int} {ps : List (List UInt8)} {g : List Int} (hg : gam g) : ∀ n, gam (fdN t os f ps g n)
 | 0 => hg
 | n + 1 => frameN_gam _ os (fdN_gam hg n)
structure FS (w wr : World) (t : ByteArray) (A : Option Addr) (n cap : Nat) (T : TypeId) (g : List Int) : Prop where
 be : Below w.heap.size w wr
 c0 : wr.cell? ⟨w.heap.size, 0, none⟩ = some (.string t)
 c1 : wr.cell? ⟨w.heap.size, 1, none⟩ = some (.slice A n cap)
 g5 : GA wr (w.heap.size + 1) T g
 g8 : GA wr (w.heap.size + 1 + 1) T (zG 32)
section
variable {w wr wx : World} {t : ByteArray} {A : Option Addr} {n cap : Nat} {T : TypeId} {g g' : List Int}
theorem FS.lt (h : FS w wr t A n cap T g) : w.heap.size + 1 + 1 < wr.heap.size := h.g8.lt
theorem FS.start (w : World) (t : ByteArray) (A : Option Addr) (n cap : Nat) (T : TypeId) (g : List Int) :
 FS w (((w.alloc (.cells #[.string t, .slice A n cap] 61)).alloc (.cells (gC g) T)).alloc (.cells (gC (zG 32)) T)) t A n cap T g := by
 refine ⟨(((bR _ _).alloc (nl _) _).alloc (by simp) _).alloc (by simp; omega) _, by simp [go_sem], by simp [go_sem], ?_, ?_⟩
 · have := (GA.new (w.alloc (.cells #[.string t, .slice A n cap] 61)) T g).alloc (.cells (gC (zG 32)) T)
   simpa only [World.size_alloc] using this
 · have := GA.new ((w.alloc (.cells #[.string t, .slice A n cap] 61)).alloc (.cells (gC g) T)) T (zG 32)
   simpa only [World.size_alloc] using this
theorem FS.belows (h : FS w wr t A n cap T g) (hb : Below wr.heap.size wr wx) : FS w wx t A n cap T g := by
 have hl := h.lt
 exact ⟨h.be.trans (hb.mono h.be.size), (hb.cell (p := ⟨w.heap.size, 0, none⟩) (by show w.heap.size < _; omega)).trans h.c0, (hb.cell (p := ⟨w.heap.size, 1, none⟩) (by show w.heap.size < _; omega)).trans h.c1, h.g5.below hb (by omega), h.g8.below hb (by omega)⟩
theorem FS.put (h : FS w wr t A n cap T g) (hg : wr.grownBy wx (some (w.heap.size + 1))) (hG : GA wx (w.heap.size + 1) T g') : FS w wx t A n cap T g' := by
 have hl := h.lt
 exact ⟨h.be.grown hg (by omega) (fun k e => by have := Option.some.inj e; omega), grown_cell hg h.c0 (by simp), grown_cell hg h.c1 (by simp), hG, h.g8.grown hg (by simp)⟩
end
theorem step_at (w : World) (g : List Int) (t : ByteArray) (z : Int) (l : List UInt8) (A : Option Addr) (os : List O4) (n : Nat) (hn : os.length = n) (cap B : Nat) (a : Option Addr) (c L : Nat) (hL : l.length = L) (hr : RO w B A os) (hB : B ≤ w.heap.size) (hc : n ≤ cap) (hm : cap ≤ maxLen) (ht : t.size ≤ 549755813888)
 (hg : gam g) (hl : RB w w.heap.size a l) (hpl : L ≤ c) (hpm : c ≤ maxLen) (g' : List Int) (hg' : (frameN ⟨t, z, l⟩ os g).1 = g') :
 Calls Tryz.prog 165 #[.agg #[.string t, .slice A n cap], .agg (gC g), .int .i64 z, .slice a L c] w fun e w' => e = .returned (.agg (gC g')) ∧ Below w.heap.size w w' := by
 subst hn hL hg'
 exact step_any w g ⟨t, z, l⟩ A os cap B a c hr hB hc hm ht hg hl hpl hpm
set_option maxHeartbeats 1000000 in
theorem fold_from_any (w : World) (g : List Int) (t : ByteArray) (os : List O4) (n : Nat) (hn : os.length = n) (A : Option Addr) (cap B : Nat) (hr : RO w B A os) (hB : B ≤ w.heap.size) (hc : n ≤ cap) (hm : cap ≤ maxLen) (ht : t.size ≤ 549755813888)
 (hg : gam g) (PA : Option Addr) (ps : List (List UInt8)) (M pc : Nat) (hM : ps.length = M) (hp : RP w w.heap.size PA ps) (hM12 : M ≤ 1000) (f : Int) (f0 : 0 ≤ f) (f1 : f ≤ 1000000) (G : List Int) (hG : fdN t os f ps g M = G) :
 Calls Tryz.prog 133 #[.agg #[.string t, .slice A n cap], .agg (gC g), .int .i64 f, .slice PA M pc] w fun e w' => e = .returned (.agg (gC G)) ∧ Below w.heap.size w w' := by
 have hz := zeroState
 have HR := qh hr; have HP := qh hp; have HGM := qh hg; have HM := qh hM; have HN := qh hn; have HG := qh hG; have HB := qh hB
 have hc' := qh hc; have hm' := qh hm; have ht' := qh ht
 have HF0 := qh (FS.start w t A n cap 152 g)
 obtain ⟨W0, hW0⟩ : ∃ W0, (((w.alloc (.cells #[.string t, .slice A n cap] 61)).alloc (.cells (gC g) 152)).alloc (.cells (gC (zG 32)) 152)) = W0 := ⟨_, rfl⟩
 have HW0 := qh hW0
 rw [hW0] at HF0
 clear hr hp hg hM hn hG hB hc hm ht hW0
 go_enter Tryz.func133, Tryz.ntmps133
 go_wp2_with fail
 rw [HW0.out]
 clear hz
 go_loopw [10, 11, 17] (fun v10 v11 v17 wr => ∃ i : Nat, v17 = .int .i64 (i : Int) ∧ i ≤ M ∧ Hid (FS w wr t A n cap 152 (fdN t os f ps g i))) (fun _ _ v17 _ => M - (intOf v17).toNat)
 case atStart => exact ⟨0, rfl, by omega, HF0⟩
 case round =>
  obtain ⟨i, rfl, hiM, HFS⟩ := hrel
  clear HF0 HW0
  by_cases hlt : i < M
  · have hiz : (i : Int) < (M : Int) := by omega
    obtain ⟨l, hl⟩ : ∃ l, ps[i]? = some l := ⟨_, List.getElem?_eq_getElem (by rw [HM.out]; exact hlt)⟩
    obtain ⟨L, hL⟩ : ∃ L, l.length = L := ⟨_, rfl⟩
    obtain ⟨pg, off, a, c, rfl, hgB, hq⟩ := (HP.out.below HFS.out.be).at i l hl
    have hcell := hq.cell
    have hle := hq.le
    rw [hL] at hcell hle
    obtain ⟨z, hz⟩ : ∃ z, f + (i : Int) = z := ⟨_, rfl⟩
    have hst := fdN_step t os f ps g i l z hl hz
    have hgm := fdN_gam (t := t) (os := os) (f := f) (ps := ps) HGM.out i
    have hgm2 := fdN_gam (t := t) (os := os) (f := f) (ps := ps) HGM.out (i + 1)
    obtain ⟨g1, hg1⟩ : ∃ g1, fdN t os f ps g i = g1 := ⟨_, rfl⟩
    obtain ⟨g2, hg2⟩ : ∃ g2, fdN t os f ps g (i + 1) = g2 := ⟨_, rfl⟩
    rw [hg1] at hst HFS hgm
    rw [hg2] at hst hgm2
    have HST := qh (step_at wr g1 t z l A os n HN.out cap B a c L hL (HR.out.below (HFS.out.be.mono HB.out)) (Nat.le_trans HB.out HFS.out.be.size) hc'.out hm'.out ht'.out hgm (hq.rb.more HFS.out.be.size) hle hq.cm g2 hst.symm)
    have HG2 := qh hg2
    have hL1 := qh hgm.1
    have hL2 := qh (gam_len hgm2)
    have hL3 := qh hgm2.1
    have hL12 : Hid (g2.length = g1.length) := by show _ = _; rw [hgm.1, hgm2.1]
    have hc0 := HFS.out.c0
    have hc1 := HFS.out.c1
    have hms : Hid (M - (i + 1) < M - i) := by show _ < _; omega
    clear hl hL hq hle hgm hgm2 hst hg1 hg2
    go_wp2_with (with_reducible refine wpList_load_g rfl 152 (.tmp 5) rfl (w.heap.size + 1) (by with_unfolding_all rfl) 152 g1 HFS.out.g5 Tryz.underlying152 (by rw [hL1.out]; exact infoState) ?_)
    (with_reducible refine HST.out.mono ?_)
    rintro e w3 ⟨rfl, hb3⟩
    have HF3 := qh (HFS.out.belows hb3)
    clear hb3 HFS HST
    go_wp2_with (with_reducible refine wpList_store_g rfl 152 (.tmp 5) (.tmp 28) rfl (w.heap.size + 1) (by with_unfolding_all rfl) 152 g1 g2 HF3.out.g5 (by with_unfolding_all rfl) hL12.out (by rw [hL3.out]; exact infoState) ?_; intro w7 G7 S7 R7; have HF7 := qh (HF3.out.put R7 G7); clear G7 S7 R7)
    rw [← HG2.out] at HF7
    go_roundw
    case rel => exact ⟨i + 1, by go_num, by omega, HF7⟩
    case measure => simp [intOf]; have := hms.out; omega
  · have hiz : ¬ (i : Int) < (M : Int) := by omega
    obtain rfl : i = M := by omega
    rw [HG.out] at HFS
    have hgm : gam G := by rw [← HG.out]; exact fdN_gam HGM.out _
    have hL1 := qh hgm.1
    have hL2 := qh (gam_len hgm)
    clear hgm
    go_wp2_with (first
     | (with_reducible refine wpList_load_g rfl 152 (.tmp 5) rfl (w.heap.size + 1) (by with_unfolding_all rfl) 152 G HFS.out.g5 Tryz.underlying152 (by rw [hL1.out]; exact infoState) ?_)
     | (with_reducible refine wpList_store_g rfl 152 (.tmp 8) (.tmp 30) rfl (w.heap.size + 1 + 1) (by with_unfolding_all rfl) 152 (zG 32) G HFS.out.g8 (by with_unfolding_all rfl) hL2.out (by rw [hL1.out]; exact infoState) ?_; intro w7 G7 S7 R7))
    exact bodyPost_ret (results_g rfl G7 rfl Tryz.underlying152 (by rw [hL1.out]; exact infoState)) rfl ⟨rfl, HFS.out.be.grown R7 (by have := HFS.out.lt; omega) (fun k e => by have := Option.some.inj e; omega)⟩
end Go.Proofs.YtpnobpligchpiaaGreatDoor
