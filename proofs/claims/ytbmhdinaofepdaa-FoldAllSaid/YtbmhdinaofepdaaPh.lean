/- MERGED of XPf XPh -/
import Derived.Test.YtbmhdinaofepdaaMd
import Derived.Test.YtbmhdinaofepdaaKt
import Derived.Test.YtbmhdinaofepdaaMl
/- XPf -/
namespace Go.Proofs.Ytbmhdinaofepdaa
set_option maxRecDepth 100000
set_option linter.unusedVariables false

/-- the game behind n frames of the presses ps, from g and the frame f on -/
def fdN (t : ByteArray) (os : List O4) (f : Int) (ps : List (List UInt8)) (g : List Int) : Nat → List Int
  | 0 => g
  | n + 1 => (frameN ⟨t, f + (n : Int), ps.getD n []⟩ os (fdN t os f ps g n)).1
theorem fdN_step (t : ByteArray) (os : List O4) (f : Int) (ps : List (List UInt8)) (g : List Int) (n : Nat) (l : List UInt8) (z : Int) (hl : ps[n]? = some l) (hz : f + (n : Int) = z) : fdN t os f ps g (n + 1) = (frameN ⟨t, z, l⟩ os (fdN t os f ps g n)).1 := by
  subst hz
  show (frameN _ os _).1 = _
  rw [show ps.getD n [] = l by rw [List.getD_eq_getElem?_getD, hl]; rfl]
theorem fdN_take (t : ByteArray) (os : List O4) (f : Int) (ps : List (List UInt8)) (g : List Int) (k : Nat) : ∀ n, n ≤ k → fdN t os f (ps.take k) g n = fdN t os f ps g n
  | 0, _ => rfl
  | n + 1, h => by
    show (frameN _ os _).1 = (frameN _ os _).1
    rw [fdN_take t os f ps g k n (by omega)]
    have e : (ps.take k).getD n [] = ps.getD n [] := by
      rw [List.getD_eq_getElem?_getD, List.getD_eq_getElem?_getD, List.getElem?_take, if_pos (by omega)]
    rw [e]
theorem fdN_parts (t : ByteArray) (os : List O4) (f : Int) (ps : List (List UInt8)) (g : List Int) (k : Nat) : ∀ n, fdN t os (f + (k : Int)) (ps.drop k) (fdN t os f ps g k) n = fdN t os f ps g (k + n)
  | 0 => rfl
  | n + 1 => by
    show (frameN _ os _).1 = (frameN _ os _).1
    rw [fdN_parts t os f ps g k n]
    have e : (ps.drop k).getD n [] = ps.getD (k + n) [] := by
      rw [List.getD_eq_getElem?_getD, List.getD_eq_getElem?_getD, List.getElem?_drop]
    rw [e, show f + (k : Int) + (n : Int) = f + ((k + n : Nat) : Int) by omega]
    rfl
/-- a frame's operations as they are checked -/
theorem fdN_gam {t : ByteArray} {os : List O4} {f : Int} {ps : List (List UInt8)} {g : List Int} (hg : gam g) : ∀ n, gam (fdN t os f ps g n)
  | 0 => hg
  | n + 1 => frameN_gam _ os (fdN_gam hg n)
/-- what is not asked for -/
def noIn (os : List O4) : Prop := ∀ o ∈ os, o.k ≠ 11
theorem goN_alike (t : ByteArray) (fr : Int) (l l' : List UInt8) (os : List O4) (h : noIn os) : ∀ (n p : Nat) (g : List Int), goN ⟨t, fr, l⟩ os n p g = goN ⟨t, fr, l'⟩ os n p g
  | 0, _, _ => rfl
  | n + 1, p, g => by
    unfold goN
    cases e : os[p]? with
    | none => rfl
    | some o =>
      have hk : o.k ≠ 11 := h o (List.mem_of_getElem? e)
      have hv : valN ⟨t, fr, l⟩ g o = valN ⟨t, fr, l'⟩ g o := by unfold valN; rw [if_neg hk, if_neg hk]
      have hg : gmN ⟨t, fr, l⟩ g o = gmN ⟨t, fr, l'⟩ g o := by unfold gmN; rw [hv]
      simp only [hg, goN_alike t fr l l' os h n]
theorem frameN_alike (t : ByteArray) (fr : Int) (l l' : List UInt8) (os : List O4) (h : noIn os) (g : List Int) : frameN ⟨t, fr, l⟩ os g = frameN ⟨t, fr, l'⟩ os g := by
  unfold frameN
  simp only [goN_alike t fr l l' os h]
theorem fdN_alike (t : ByteArray) (os : List O4) (f : Int) (ps qs : List (List UInt8)) (g : List Int) (h : noIn os) : ∀ n, fdN t os f ps g n = fdN t os f qs g n
  | 0 => rfl
  | n + 1 => by
    show (frameN _ os _).1 = (frameN _ os _).1
    rw [fdN_alike t os f ps qs g h n, frameN_alike t _ _ (qs.getD n []) os h]
end Go.Proofs.Ytbmhdinaofepdaa

/- XPh -/
namespace Go.Proofs.Ytbmhdinaofepdaa
set_option maxRecDepth 100000
open Go.RowKit
set_option linter.unusedVariables false
set_option linter.unusedSimpArgs false

/-- a fold's own memory: its program, its game, its answer, in the blocks from w's end on -/
structure FS (w wr : World) (t : ByteArray) (A : Option Addr) (n cap : Nat) (T : TypeId) (g : List Int) : Prop where
  be : Below w.heap.size w wr
  c0 : wr.cell? ⟨w.heap.size, 0, none⟩ = some (.string t)
  c1 : wr.cell? ⟨w.heap.size, 1, none⟩ = some (.slice A n cap)
  g5 : GA wr (w.heap.size + 1) T g
  g8 : GA wr (w.heap.size + 1 + 1) T (zG 32)
section
variable {w wr wx : World} {t : ByteArray} {A : Option Addr} {n cap : Nat} {T : TypeId} {g g' : List Int}
theorem FS.lt (h : FS w wr t A n cap T g) : w.heap.size + 1 + 1 < wr.heap.size := h.g8.lt
theorem FS.start (w : World) (t : ByteArray) (A : Option Addr) (n cap : Nat) (T : TypeId) (g : List Int) :
    FS w (((w.alloc (.cells #[.string t, .slice A n cap] 24)).alloc (.cells (gC g) T)).alloc (.cells (gC (zG 32)) T)) t A n cap T g := by
  refine ⟨(((Below.refl _ _).alloc (Nat.le_refl _) _).alloc (by simp) _).alloc (by simp; omega) _, by simp [go_sem], by simp [go_sem], ?_, ?_⟩
  · have := (GA.new (w.alloc (.cells #[.string t, .slice A n cap] 24)) T g).alloc (.cells (gC (zG 32)) T)
    simpa only [World.size_alloc] using this
  · have := GA.new ((w.alloc (.cells #[.string t, .slice A n cap] 24)).alloc (.cells (gC g) T)) T (zG 32)
    simpa only [World.size_alloc] using this
theorem FS.belows (h : FS w wr t A n cap T g) (hb : Below wr.heap.size wr wx) : FS w wx t A n cap T g := by
  have hl := h.lt
  exact ⟨h.be.trans (hb.mono h.be.size), (hb.cell (p := ⟨w.heap.size, 0, none⟩) (by show w.heap.size < _; omega)).trans h.c0, (hb.cell (p := ⟨w.heap.size, 1, none⟩) (by show w.heap.size < _; omega)).trans h.c1, h.g5.below hb (by omega), h.g8.below hb (by omega)⟩
theorem FS.put (h : FS w wr t A n cap T g) (hg : wr.grownBy wx (some (w.heap.size + 1))) (hG : GA wx (w.heap.size + 1) T g') : FS w wx t A n cap T g' := by
  have hl := h.lt
  exact ⟨h.be.grown hg (by omega) (fun k e => by have := Option.some.inj e; omega), grown_cell hg h.c0 (by simp), grown_cell hg h.c1 (by simp), hG, h.g8.grown hg (by simp)⟩
end
theorem step_at (w : World) (g : List Int) (t : ByteArray) (z : Int) (l : List UInt8) (A : Option Addr) (os : List O4) (n : Nat) (hn : os.length = n) (cap B : Nat) (a : Option Addr) (c L : Nat) (hL : l.length = L) (hr : RO w B A os) (hB : B ≤ w.heap.size) (hc : n ≤ cap) (hm : cap ≤ maxLen) (ht : t.size ≤ 549755813888)
    (hg : gam g) (hl : RB w w.heap.size a l) (hpl : L ≤ c) (hpm : c ≤ maxLen) (g' : List Int) (hg' : (frameN ⟨t, z, l⟩ os g).1 = g') :
    Calls Try.prog 18 #[.agg #[.string t, .slice A n cap], .agg (gC g), .int .i64 z, .slice a L c] w fun e w' => e = .returned (.agg (gC g')) ∧ Below w.heap.size w w' := by
  subst hn hL hg'
  exact step_any w g ⟨t, z, l⟩ A os cap B a c hr hB hc hm ht hg hl hpl hpm
set_option maxHeartbeats 1000000 in
theorem from_any (w : World) (g : List Int) (t : ByteArray) (os : List O4) (n : Nat) (hn : os.length = n) (A : Option Addr) (cap B : Nat) (hr : RO w B A os) (hB : B ≤ w.heap.size) (hc : n ≤ cap) (hm : cap ≤ maxLen) (ht : t.size ≤ 549755813888)
    (hg : gam g) (PA : Option Addr) (ps : List (List UInt8)) (M pc : Nat) (hM : ps.length = M) (hp : RP w w.heap.size PA ps) (hM12 : M ≤ 1000) (f : Int) (f0 : 0 ≤ f) (f1 : f ≤ 1000000) (G : List Int) (hG : fdN t os f ps g M = G) :
    Calls Try.prog 11 #[.agg #[.string t, .slice A n cap], .agg (gC g), .int .i64 f, .slice PA M pc] w fun e w' => e = .returned (.agg (gC G)) ∧ Below w.heap.size w w' := by
  have hz := zeroState
  have HR := Lib.hid hr; have HP := Lib.hid hp; have HGM := Lib.hid hg; have HM := Lib.hid hM; have HN := Lib.hid hn; have HG := Lib.hid hG; have HB := Lib.hid hB
  have hc' := Lib.hid hc; have hm' := Lib.hid hm; have ht' := Lib.hid ht
  have HF0 := Lib.hid (FS.start w t A n cap 31 g)
  obtain ⟨W0, hW0⟩ : ∃ W0, (((w.alloc (.cells #[.string t, .slice A n cap] 24)).alloc (.cells (gC g) 31)).alloc (.cells (gC (zG 32)) 31)) = W0 := ⟨_, rfl⟩
  have HW0 := Lib.hid hW0
  rw [hW0] at HF0
  clear hr hp hg hM hn hG hB hc hm ht hW0
  go_enter Try.func11, Try.ntmps11
  go_wp2_with fail
  rw [HW0.out]
  clear hz
  go_loopw [10, 11, 17] (fun v10 v11 v17 wr => ∃ i : Nat, v17 = .int .i64 (i : Int) ∧ i ≤ M ∧ Hid (FS w wr t A n cap 31 (fdN t os f ps g i))) (fun _ _ v17 _ => M - (intOf v17).toNat)
  case atStart => exact ⟨0, rfl, by omega, HF0⟩
  case round =>
    obtain ⟨i, rfl, hiM, HFS⟩ := hrel
    clear HF0 HW0
    by_cases hlt : i < M
    · have hiz : (i : Int) < (M : Int) := by omega
      obtain ⟨l, hl⟩ : ∃ l, ps[i]? = some l := ⟨_, List.getElem?_eq_getElem (by rw [HM.out]; exact hlt)⟩
      obtain ⟨L, hL⟩ : ∃ L, l.length = L := ⟨_, rfl⟩
      obtain ⟨pg, off, a, c, rfl, hgB, hq⟩ := (HP.out.below HFS.out.be).at i l hl
      have hcell := hq.cell
      have hle := hq.le
      rw [hL] at hcell hle
      obtain ⟨z, hz⟩ : ∃ z, f + (i : Int) = z := ⟨_, rfl⟩
      have hst := fdN_step t os f ps g i l z hl hz
      have hgm := fdN_gam (t := t) (os := os) (f := f) (ps := ps) HGM.out i
      have hgm2 := fdN_gam (t := t) (os := os) (f := f) (ps := ps) HGM.out (i + 1)
      obtain ⟨g1, hg1⟩ : ∃ g1, fdN t os f ps g i = g1 := ⟨_, rfl⟩
      obtain ⟨g2, hg2⟩ : ∃ g2, fdN t os f ps g (i + 1) = g2 := ⟨_, rfl⟩
      rw [hg1] at hst HFS hgm
      rw [hg2] at hst hgm2
      have HST := Lib.hid (step_at wr g1 t z l A os n HN.out cap B a c L hL (HR.out.below (HFS.out.be.mono HB.out)) (Nat.le_trans HB.out HFS.out.be.size) hc'.out hm'.out ht'.out hgm (hq.rb.more HFS.out.be.size) hle hq.cm g2 hst.symm)
      have HG2 := Lib.hid hg2
      have hL1 := Lib.hid hgm.1
      have hL2 := Lib.hid (gam_len hgm2)
      have hL3 := Lib.hid hgm2.1
      have hL12 : Hid (g2.length = g1.length) := by show _ = _; rw [hgm.1, hgm2.1]
      have hc0 := HFS.out.c0
      have hc1 := HFS.out.c1
      have hms : Hid (M - (i + 1) < M - i) := by show _ < _; omega
      clear hl hL hq hle hgm hgm2 hst hg1 hg2
      go_wp2_with (with_reducible refine wpList_load_g rfl 31 (.tmp 5) rfl (w.heap.size + 1) (by with_unfolding_all rfl) 31 g1 HFS.out.g5 Try.underlying31 (by rw [hL1.out]; exact infoState) ?_)
      (with_reducible refine HST.out.mono ?_)
      rintro e w3 ⟨rfl, hb3⟩
      have HF3 := Lib.hid (HFS.out.belows hb3)
      clear hb3 HFS HST
      go_wp2_with (with_reducible refine wpList_store_g rfl 31 (.tmp 5) (.tmp 28) rfl (w.heap.size + 1) (by with_unfolding_all rfl) 31 g1 g2 HF3.out.g5 (by with_unfolding_all rfl) hL12.out (by rw [hL3.out]; exact infoState) ?_; intro w7 G7 S7 R7; have HF7 := Lib.hid (HF3.out.put R7 G7); clear G7 S7 R7)
      rw [← HG2.out] at HF7
      go_roundw
      case rel => exact ⟨i + 1, by go_num, by omega, HF7⟩
      case measure => simp [intOf]; have := hms.out; omega
    · have hiz : ¬ (i : Int) < (M : Int) := by omega
      obtain rfl : i = M := by omega
      rw [HG.out] at HFS
      have hgm : gam G := by rw [← HG.out]; exact fdN_gam HGM.out _
      have hL1 := Lib.hid hgm.1
      have hL2 := Lib.hid (gam_len hgm)
      clear hgm
      go_wp2_with (first
        | (with_reducible refine wpList_load_g rfl 31 (.tmp 5) rfl (w.heap.size + 1) (by with_unfolding_all rfl) 31 G HFS.out.g5 Try.underlying31 (by rw [hL1.out]; exact infoState) ?_)
        | (with_reducible refine wpList_store_g rfl 31 (.tmp 8) (.tmp 30) rfl (w.heap.size + 1 + 1) (by with_unfolding_all rfl) 31 (zG 32) G HFS.out.g8 (by with_unfolding_all rfl) hL2.out (by rw [hL1.out]; exact infoState) ?_; intro w7 G7 S7 R7))
      exact bodyPost_ret (results_g rfl G7 rfl Try.underlying31 (by rw [hL1.out]; exact infoState)) rfl ⟨rfl, HFS.out.be.grown R7 (by have := HFS.out.lt; omega) (fun k e => by have := Option.some.inj e; omega)⟩
end Go.Proofs.Ytbmhdinaofepdaa
