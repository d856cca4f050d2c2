/- THE WALK of code's Decode. -/
import Derived.Test.YtjjhdbcekkmjfaaOe
import Derived.Test.YtjjhdbcekkmjfaaOf
import Derived.Test.YtjjhdbcekkmjfaaKd
namespace Go.Proofs.Ytjjhdbcekkmjfaa
open Go.RowKit
set_option linter.unusedVariables false

def titL (t : List UInt8) : Bool := titB (str t)
/-- Decode's answer -/
def Decoded (l : List UInt8) (w : World) (e : Ending) (w' : World) : Prop := match progN titL l with
  | none => e = .returned (.tuple #[progV ⟨#[]⟩ none 0 0, .int .i64 1]) ∧ Below w.heap.size w w'
  | some (t, os) => ∃ g, e = .returned (.tuple #[progV (str t) (some ⟨g, 0, none⟩) os.length os.length, .int .i64 0]) ∧ w.heap.size ≤ g ∧ OpRow w' g os.length os ∧ Below w.heap.size w w'
theorem Decoded.no {l : List UInt8} {w w' : World} (h : progN titL l = none) (hb : Below w.heap.size w w') : Decoded l w (.returned (.tuple #[.agg #[.string ⟨#[]⟩, .slice none 0 0], .int .i64 1])) w' := by
  unfold Decoded; rw [h]; exact ⟨rfl, hb⟩
theorem progN_no1 {l : List UInt8} (h : ∀ t k, textN l ≠ .ok t k) : progN titL l = none := by
  unfold progN
  split
  · rename_i t k ht; exact absurd ht (h t k)
  · rfl
theorem progN_ok {l t : List UInt8} {k : Nat} (h : textN l = .ok t k) : progN titL l = match rowsN (l.drop k) with
    | some os => if fitsB (titL t) os then some (t, os) else none
    | none => none := by
  simp only [progN, h]
  cases rowsN (l.drop k) <;> rfl
theorem alloc2_cells (w : World) (u v : Value) (T : TypeId) : (w.alloc (.cells #[u, v] T)).rowIs w.heap.size T 2 (fun i => if i = 0 then u else v) := World.rowIs_alloc w _ T _ (fun i hi => by
    have hi : i < 2 := hi
    obtain rfl | rfl : i = 0 ∨ i = 1 := by omega
    all_goals rfl)
set_option maxHeartbeats 4000000 in
theorem unpack_any (A : Option Addr) (l : List UInt8) (cap B : Nat) (w : World) (hr : RB w B A l) (hB : B ≤ w.heap.size) (hc : l.length ≤ cap) (hm : cap ≤ maxLen) :
    Calls Try.prog 13 #[.slice A l.length cap] w (Decoded l w) := by
  have b0 : Below w.heap.size w (w.alloc (.cells #[.string ⟨#[]⟩, .slice none 0 0] 24)) := (Below.refl _ _).alloc (Nat.le_refl _) _
  have HR := Lib.hid (hr.below (b0.mono hB)); clear hr
  have HT := Lib.hid (text_any A l cap B _ HR.out hc hm)
  cases ht : textN l with
  | more =>
    have HN := Lib.hid (progN_no1 (l := l) (fun t k h => by rw [ht] at h; cases h))
    rw [ht] at HT
    clear ht
    go_enter Try.func13, Try.ntmps13
    go_wp2_with fail
    refine HT.out.mono ?_
    rintro e w1 ⟨rfl, rfl⟩
    rw [textV]
    go_wp2
    refine bodyPost_ret (v := .tuple #[.agg #[.string ⟨#[]⟩, .slice none 0 0], .int .i64 1]) (by simp [results, Try.results13, go_sem]) rfl ?_
    exact Decoded.no HN.out b0
  | form =>
    have HN := Lib.hid (progN_no1 (l := l) (fun t k h => by rw [ht] at h; cases h))
    rw [ht] at HT
    clear ht
    go_enter Try.func13, Try.ntmps13
    go_wp2_with fail
    refine HT.out.mono ?_
    rintro e w1 ⟨rfl, rfl⟩
    rw [textV]
    go_wp2
    refine bodyPost_ret (v := .tuple #[.agg #[.string ⟨#[]⟩, .slice none 0 0], .int .i64 1]) (by simp [results, Try.results13, go_sem]) rfl ?_
    exact Decoded.no HN.out b0
  | ok t k =>
    obtain ⟨-, htl, hkl⟩ := textN_got ht
    have HP := Lib.hid (progN_ok ht)
    have HTL := Lib.hid htl; clear htl
    have hkp : 0 < k := by
      unfold textN at ht
      split at ht
      · cases ht
      · cases ht
      · rename_i u j hg
        have := (getN_got l u j hg).2.2.2.2
        split at ht
        · cases ht
        · split at ht
          · cases ht
          · injection ht with _ h2; omega
    rw [ht] at HT
    clear ht
    obtain ⟨b, off, rfl, -, -⟩ := HR.out (by omega)
    have r1 := HR.out.cut k cap hkl hc
    have hl : (l.drop k).length = l.length - k := by rw [List.length_drop]
    have HL := Lib.hid hl; clear hl
    have ko : (k : Int) ≤ (cap : Int) := by omega
    have hz : ∃ o c2, (if cap = k then some ⟨b, off, none⟩ else (some ⟨b, off, none⟩ : Option Addr).map (·.add k)) = some ⟨b, o, none⟩ ∧ RB (w.alloc (.cells #[.string ⟨#[]⟩, .slice none 0 0] 24)) B (some ⟨b, o, none⟩) (l.drop k) ∧ (cap = k → o = off ∧ c2 = 0) ∧ (cap ≠ k → o = off + k ∧ c2 = cap - k) ∧ (l.drop k).length ≤ c2 ∧ c2 ≤ maxLen := by
      by_cases e : cap = k
      · rw [if_pos e] at r1 ⊢
        exact ⟨off, 0, rfl, r1, fun _ => ⟨rfl, rfl⟩, fun h => absurd e h, by rw [HL.out]; omega, by unfold maxLen; omega⟩
      · rw [if_neg e] at r1 ⊢
        simp only [Option.map_some, Addr.add_lit] at r1 ⊢
        exact ⟨off + k, cap - k, rfl, r1, fun h => absurd h e, fun _ => ⟨rfl, rfl⟩, by rw [HL.out]; omega, by omega⟩
    obtain ⟨o, c2, -, hr2, z1, z2, hc2, hm2⟩ := hz
    clear r1
    have HRo := Lib.hid (readOps_any (some ⟨b, o, none⟩) (l.drop k) c2 B _ hr2 (by rw [World.size_alloc]; omega) hc2 hm2)
    rw [HL.out] at HRo
    clear hc2 hm2 hr2
    unfold ReadOps at HRo
    cases hrw : rowsN (l.drop k) with
    | none =>
      have HN := Lib.hid (show progN titL l = none by rw [HP.out, hrw])
      rw [hrw] at HRo
      clear hrw
      by_cases hcap : cap = k
      · obtain ⟨rfl, rfl⟩ := z1 hcap
        subst hcap
        clear z1 z2
        have h0 : l.length - cap = 0 := by omega
        rw [h0] at HRo
        have HX := Lib.hid h0; clear h0
        go_enter Try.func13, Try.ntmps13
        go_wp2_with fail
        refine HT.out.mono ?_
        rintro e w1 ⟨rfl, rfl⟩
        rw [textV]
        go_wp2_with fail
        (with_reducible refine HRo.out.mono ?_)
        rintro e w1 ⟨⟨A1, n1, c1, rfl⟩, hb1⟩
        obtain ⟨hc0, hc1, hf0, hf1⟩ := two_cells hb1 (by simp)
        have hb2 := b0.trans (hb1.mono (by simp))
        have hs1 := hb1.size
        rw [World.size_alloc] at hs1
        have bp : Below w1.heap.size w1 (w1.alloc (.cells #[.string (str t), .slice A1 n1 c1] 24)) := (Below.refl _ _).alloc (Nat.le_refl _) _
        have e0 := (bp.cell (p := ⟨w.heap.size, 0, none⟩) (by simp; omega)).trans hc0
        have e1 := (bp.cell (p := ⟨w.heap.size, 1, none⟩) (by simp; omega)).trans hc1
        have i0 := (bp.frozen (p := ⟨w.heap.size, 0, none⟩) (by simp; omega)).trans hf0
        have i1 := (bp.frozen (p := ⟨w.heap.size, 1, none⟩) (by simp; omega)).trans hf1
        have hb3 := hb2.trans (bp.mono (by omega))
        clear hb1 bp hb2 hc0 hc1 hf0 hf1
        go_wp2
        refine bodyPost_ret (v := .tuple #[.agg #[.string ⟨#[]⟩, .slice none 0 0], .int .i64 1]) (by simp [results, Try.results13, go_sem, e0, e1]) rfl ?_
        refine Decoded.no HN.out ?_
        exact (hb3.setCell (by simp) _).setCell (by simp) _
      · obtain ⟨rfl, rfl⟩ := z2 hcap
        clear z1 z2
        go_enter Try.func13, Try.ntmps13
        go_wp2_with fail
        refine HT.out.mono ?_
        rintro e w1 ⟨rfl, rfl⟩
        rw [textV]
        go_wp2_with fail
        (with_reducible refine HRo.out.mono ?_)
        rintro e w1 ⟨⟨A1, n1, c1, rfl⟩, hb1⟩
        obtain ⟨hc0, hc1, hf0, hf1⟩ := two_cells hb1 (by simp)
        have hb2 := b0.trans (hb1.mono (by simp))
        have hs1 := hb1.size
        rw [World.size_alloc] at hs1
        have bp : Below w1.heap.size w1 (w1.alloc (.cells #[.string (str t), .slice A1 n1 c1] 24)) := (Below.refl _ _).alloc (Nat.le_refl _) _
        have e0 := (bp.cell (p := ⟨w.heap.size, 0, none⟩) (by simp; omega)).trans hc0
        have e1 := (bp.cell (p := ⟨w.heap.size, 1, none⟩) (by simp; omega)).trans hc1
        have i0 := (bp.frozen (p := ⟨w.heap.size, 0, none⟩) (by simp; omega)).trans hf0
        have i1 := (bp.frozen (p := ⟨w.heap.size, 1, none⟩) (by simp; omega)).trans hf1
        have hb3 := hb2.trans (bp.mono (by omega))
        clear hb1 bp hb2 hc0 hc1 hf0 hf1
        go_wp2
        refine bodyPost_ret (v := .tuple #[.agg #[.string ⟨#[]⟩, .slice none 0 0], .int .i64 1]) (by simp [results, Try.results13, go_sem, e0, e1]) rfl ?_
        refine Decoded.no HN.out ?_
        exact (hb3.setCell (by simp) _).setCell (by simp) _
    | some os =>
      have HOL := Lib.hid (rowsN_got hrw).2.2
      cases hft : fitsB (titL t) os with
      | false =>
        have HN := Lib.hid (show progN titL l = none by rw [HP.out, hrw]; simp only; rw [hft]; rfl)
        have HB := Lib.hid hft
        rw [hrw] at HRo
        clear hrw hft
        by_cases hcap : cap = k
        · obtain ⟨rfl, rfl⟩ := z1 hcap
          subst hcap
          clear z1 z2
          have h0 : l.length - cap = 0 := by omega
          rw [h0] at HRo
          have HX := Lib.hid h0; clear h0
          go_enter Try.func13, Try.ntmps13
          go_wp2_with fail
          refine HT.out.mono ?_
          rintro e w1 ⟨rfl, rfl⟩
          rw [textV]
          go_wp2_with fail
          (with_reducible refine HRo.out.mono ?_)
          rintro e w1 ⟨g, rfl, hg, hrow, hb1⟩
          obtain ⟨hc0, hc1, hf0, hf1⟩ := two_cells hb1 (by simp)
          have hb2 := b0.trans (hb1.mono (by simp))
          have hs1 := hb1.size
          rw [World.size_alloc] at hs1 hg
          have hgl : g < w1.heap.size := World.rowIs.lt hrow
          have bp : Below w1.heap.size w1 (w1.alloc (.cells #[.string (str t), .slice (some ⟨g, 0, none⟩) os.length os.length] 24)) := (Below.refl _ _).alloc (Nat.le_refl _) _
          have HRow := Lib.hid (rowIs_below hrow bp hgl)
          have hro : RO (w1.alloc (.cells #[.string (str t), .slice (some ⟨g, 0, none⟩) os.length os.length] 24)) w1.heap.size (some ⟨g, 0, none⟩) os := OpRow.reads HRow.out (Nat.le_refl _) _ hgl
          have HFt := Lib.hid (fits_any (str t) (some ⟨g, 0, none⟩) os os.length w1.heap.size _ hro (by simp) (Nat.le_refl _) (by have := HOL.out; unfold maxLen; omega) (by have := HTL.out; rw [str_size]; unfold maxLen; omega))
          rw [show fitsB (titB (str t)) os = false from HB.out] at HFt
          have hb3 := hb2.trans (bp.mono (by omega))
          have e0 := (bp.cell (p := ⟨w.heap.size, 0, none⟩) (by simp; omega)).trans hc0
          have e1 := (bp.cell (p := ⟨w.heap.size, 1, none⟩) (by simp; omega)).trans hc1
          have i0 := (bp.frozen (p := ⟨w.heap.size, 0, none⟩) (by simp; omega)).trans hf0
          have i1 := (bp.frozen (p := ⟨w.heap.size, 1, none⟩) (by simp; omega)).trans hf1
          unfold progV at HFt
          clear hb1 bp hro hrow hb2
          go_wp2_with (go_at_call 20; ((with_reducible refine HFt.out.mono ?_); rintro e w2 ⟨rfl, hb4⟩; obtain ⟨p0, p1, _, _⟩ := two_cells hb4 (by simp); have c0 := (hb4.cell (p := ⟨w.heap.size, 0, none⟩) (by simp; omega)).trans e0; have c1 := (hb4.cell (p := ⟨w.heap.size, 1, none⟩) (by simp; omega)).trans e1; have j0 := (hb4.frozen (p := ⟨w.heap.size, 0, none⟩) (by simp; omega)).trans i0; have j1 := (hb4.frozen (p := ⟨w.heap.size, 1, none⟩) (by simp; omega)).trans i1))
          have hb5 := hb3.trans (hb4.mono (by simp; omega))
          refine bodyPost_ret (v := .tuple #[.agg #[.string ⟨#[]⟩, .slice none 0 0], .int .i64 1]) (by simp [results, Try.results13, go_sem, c0, c1]) rfl ?_
          refine Decoded.no HN.out ?_
          exact (hb5.setCell (by simp) _).setCell (by simp) _
        · obtain ⟨rfl, rfl⟩ := z2 hcap
          clear z1 z2
          go_enter Try.func13, Try.ntmps13
          go_wp2_with fail
          refine HT.out.mono ?_
          rintro e w1 ⟨rfl, rfl⟩
          rw [textV]
          go_wp2_with fail
          (with_reducible refine HRo.out.mono ?_)
          rintro e w1 ⟨g, rfl, hg, hrow, hb1⟩
          obtain ⟨hc0, hc1, hf0, hf1⟩ := two_cells hb1 (by simp)
          have hb2 := b0.trans (hb1.mono (by simp))
          have hs1 := hb1.size
          rw [World.size_alloc] at hs1 hg
          have hgl : g < w1.heap.size := World.rowIs.lt hrow
          have bp : Below w1.heap.size w1 (w1.alloc (.cells #[.string (str t), .slice (some ⟨g, 0, none⟩) os.length os.length] 24)) := (Below.refl _ _).alloc (Nat.le_refl _) _
          have HRow := Lib.hid (rowIs_below hrow bp hgl)
          have hro : RO (w1.alloc (.cells #[.string (str t), .slice (some ⟨g, 0, none⟩) os.length os.length] 24)) w1.heap.size (some ⟨g, 0, none⟩) os := OpRow.reads HRow.out (Nat.le_refl _) _ hgl
          have HFt := Lib.hid (fits_any (str t) (some ⟨g, 0, none⟩) os os.length w1.heap.size _ hro (by simp) (Nat.le_refl _) (by have := HOL.out; unfold maxLen; omega) (by have := HTL.out; rw [str_size]; unfold maxLen; omega))
          rw [show fitsB (titB (str t)) os = false from HB.out] at HFt
          have hb3 := hb2.trans (bp.mono (by omega))
          have e0 := (bp.cell (p := ⟨w.heap.size, 0, none⟩) (by simp; omega)).trans hc0
          have e1 := (bp.cell (p := ⟨w.heap.size, 1, none⟩) (by simp; omega)).trans hc1
          have i0 := (bp.frozen (p := ⟨w.heap.size, 0, none⟩) (by simp; omega)).trans hf0
          have i1 := (bp.frozen (p := ⟨w.heap.size, 1, none⟩) (by simp; omega)).trans hf1
          unfold progV at HFt
          clear hb1 bp hro hrow hb2
          go_wp2_with (go_at_call 20; ((with_reducible refine HFt.out.mono ?_); rintro e w2 ⟨rfl, hb4⟩; obtain ⟨p0, p1, _, _⟩ := two_cells hb4 (by simp); have c0 := (hb4.cell (p := ⟨w.heap.size, 0, none⟩) (by simp; omega)).trans e0; have c1 := (hb4.cell (p := ⟨w.heap.size, 1, none⟩) (by simp; omega)).trans e1; have j0 := (hb4.frozen (p := ⟨w.heap.size, 0, none⟩) (by simp; omega)).trans i0; have j1 := (hb4.frozen (p := ⟨w.heap.size, 1, none⟩) (by simp; omega)).trans i1))
          have hb5 := hb3.trans (hb4.mono (by simp; omega))
          refine bodyPost_ret (v := .tuple #[.agg #[.string ⟨#[]⟩, .slice none 0 0], .int .i64 1]) (by simp [results, Try.results13, go_sem, c0, c1]) rfl ?_
          refine Decoded.no HN.out ?_
          exact (hb5.setCell (by simp) _).setCell (by simp) _
      | true =>
        have HN := Lib.hid (show progN titL l = some (t, os) by rw [HP.out, hrw]; simp only; rw [if_pos hft])
        have HB := Lib.hid hft
        rw [hrw] at HRo
        clear hrw hft
        by_cases hcap : cap = k
        · obtain ⟨rfl, rfl⟩ := z1 hcap
          subst hcap
          clear z1 z2
          have h0 : l.length - cap = 0 := by omega
          rw [h0] at HRo
          have HX := Lib.hid h0; clear h0
          go_enter Try.func13, Try.ntmps13
          go_wp2_with fail
          refine HT.out.mono ?_
          rintro e w1 ⟨rfl, rfl⟩
          rw [textV]
          go_wp2_with fail
          (with_reducible refine HRo.out.mono ?_)
          rintro e w1 ⟨g, rfl, hg, hrow, hb1⟩
          obtain ⟨hc0, hc1, hf0, hf1⟩ := two_cells hb1 (by simp)
          have hb2 := b0.trans (hb1.mono (by simp))
          have hs1 := hb1.size
          rw [World.size_alloc] at hs1 hg
          have hgl : g < w1.heap.size := World.rowIs.lt hrow
          have bp : Below w1.heap.size w1 (w1.alloc (.cells #[.string (str t), .slice (some ⟨g, 0, none⟩) os.length os.length] 24)) := (Below.refl _ _).alloc (Nat.le_refl _) _
          have HRow := Lib.hid (rowIs_below hrow bp hgl)
          have hro : RO (w1.alloc (.cells #[.string (str t), .slice (some ⟨g, 0, none⟩) os.length os.length] 24)) w1.heap.size (some ⟨g, 0, none⟩) os := OpRow.reads HRow.out (Nat.le_refl _) _ hgl
          have HFt := Lib.hid (fits_any (str t) (some ⟨g, 0, none⟩) os os.length w1.heap.size _ hro (by simp) (Nat.le_refl _) (by have := HOL.out; unfold maxLen; omega) (by have := HTL.out; rw [str_size]; unfold maxLen; omega))
          rw [show fitsB (titB (str t)) os = true from HB.out] at HFt
          have hb3 := hb2.trans (bp.mono (by omega))
          have e0 := (bp.cell (p := ⟨w.heap.size, 0, none⟩) (by simp; omega)).trans hc0
          have e1 := (bp.cell (p := ⟨w.heap.size, 1, none⟩) (by simp; omega)).trans hc1
          have i0 := (bp.frozen (p := ⟨w.heap.size, 0, none⟩) (by simp; omega)).trans hf0
          have i1 := (bp.frozen (p := ⟨w.heap.size, 1, none⟩) (by simp; omega)).trans hf1
          unfold progV at HFt
          clear hb1 bp hro hrow hb2
          go_wp2_with (go_at_call 20; ((with_reducible refine HFt.out.mono ?_); rintro e w2 ⟨rfl, hb4⟩; obtain ⟨p0, p1, _, _⟩ := two_cells hb4 (by simp); have c0 := (hb4.cell (p := ⟨w.heap.size, 0, none⟩) (by simp; omega)).trans e0; have c1 := (hb4.cell (p := ⟨w.heap.size, 1, none⟩) (by simp; omega)).trans e1; have j0 := (hb4.frozen (p := ⟨w.heap.size, 0, none⟩) (by simp; omega)).trans i0; have j1 := (hb4.frozen (p := ⟨w.heap.size, 1, none⟩) (by simp; omega)).trans i1))
          have hb5 := hb3.trans (hb4.mono (by simp; omega))
          have HR2 := Lib.hid (rowIs_below HRow.out hb4 (by simp; omega))
          refine bodyPost_ret (v := .tuple #[.agg #[.string (str t), .slice (some ⟨g, 0, none⟩) os.length os.length], .int .i64 0]) (by simp [results, Try.results13, go_sem, c0, c1]) rfl ?_
          unfold Decoded
          rw [HN.out]
          refine ⟨g, rfl, by omega, ?_, (hb5.setCell (by simp) _).setCell (by simp) _⟩
          exact (World.rowIs.setOther HR2.out (by simp; omega) _).setOther (by simp; omega) _
        · obtain ⟨rfl, rfl⟩ := z2 hcap
          clear z1 z2
          go_enter Try.func13, Try.ntmps13
          go_wp2_with fail
          refine HT.out.mono ?_
          rintro e w1 ⟨rfl, rfl⟩
          rw [textV]
          go_wp2_with fail
          (with_reducible refine HRo.out.mono ?_)
          rintro e w1 ⟨g, rfl, hg, hrow, hb1⟩
          obtain ⟨hc0, hc1, hf0, hf1⟩ := two_cells hb1 (by simp)
          have hb2 := b0.trans (hb1.mono (by simp))
          have hs1 := hb1.size
          rw [World.size_alloc] at hs1 hg
          have hgl : g < w1.heap.size := World.rowIs.lt hrow
          have bp : Below w1.heap.size w1 (w1.alloc (.cells #[.string (str t), .slice (some ⟨g, 0, none⟩) os.length os.length] 24)) := (Below.refl _ _).alloc (Nat.le_refl _) _
          have HRow := Lib.hid (rowIs_below hrow bp hgl)
          have hro : RO (w1.alloc (.cells #[.string (str t), .slice (some ⟨g, 0, none⟩) os.length os.length] 24)) w1.heap.size (some ⟨g, 0, none⟩) os := OpRow.reads HRow.out (Nat.le_refl _) _ hgl
          have HFt := Lib.hid (fits_any (str t) (some ⟨g, 0, none⟩) os os.length w1.heap.size _ hro (by simp) (Nat.le_refl _) (by have := HOL.out; unfold maxLen; omega) (by have := HTL.out; rw [str_size]; unfold maxLen; omega))
          rw [show fitsB (titB (str t)) os = true from HB.out] at HFt
          have hb3 := hb2.trans (bp.mono (by omega))
          have e0 := (bp.cell (p := ⟨w.heap.size, 0, none⟩) (by simp; omega)).trans hc0
          have e1 := (bp.cell (p := ⟨w.heap.size, 1, none⟩) (by simp; omega)).trans hc1
          have i0 := (bp.frozen (p := ⟨w.heap.size, 0, none⟩) (by simp; omega)).trans hf0
          have i1 := (bp.frozen (p := ⟨w.heap.size, 1, none⟩) (by simp; omega)).trans hf1
          unfold progV at HFt
          clear hb1 bp hro hrow hb2
          go_wp2_with (go_at_call 20; ((with_reducible refine HFt.out.mono ?_); rintro e w2 ⟨rfl, hb4⟩; obtain ⟨p0, p1, _, _⟩ := two_cells hb4 (by simp); have c0 := (hb4.cell (p := ⟨w.heap.size, 0, none⟩) (by simp; omega)).trans e0; have c1 := (hb4.cell (p := ⟨w.heap.size, 1, none⟩) (by simp; omega)).trans e1; have j0 := (hb4.frozen (p := ⟨w.heap.size, 0, none⟩) (by simp; omega)).trans i0; have j1 := (hb4.frozen (p := ⟨w.heap.size, 1, none⟩) (by simp; omega)).trans i1))
          have hb5 := hb3.trans (hb4.mono (by simp; omega))
          have HR2 := Lib.hid (rowIs_below HRow.out hb4 (by simp; omega))
          refine bodyPost_ret (v := .tuple #[.agg #[.string (str t), .slice (some ⟨g, 0, none⟩) os.length os.length], .int .i64 0]) (by simp [results, Try.results13, go_sem, c0, c1]) rfl ?_
          unfold Decoded
          rw [HN.out]
          refine ⟨g, rfl, by omega, ?_, (hb5.setCell (by simp) _).setCell (by simp) _⟩
          exact (World.rowIs.setOther HR2.out (by simp; omega) _).setOther (by simp; omega) _
end Go.Proofs.Ytjjhdbcekkmjfaa
