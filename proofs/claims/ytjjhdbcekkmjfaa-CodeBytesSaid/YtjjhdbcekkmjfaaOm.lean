/- THE WALKS of the laws' Cut, Short, tells. -/
import Derived.Test.YtjjhdbcekkmjfaaOl
import Derived.Test.YtjjhdbcekkmjfaaOi
namespace Go.Proofs.Ytjjhdbcekkmjfaa
open Go.RowKit
set_option linter.unusedVariables false
attribute [local go_sem ↓] Go.wp_at_zero Go.wp_at_succ

set_option maxHeartbeats 1000000 in
theorem cut40_any (s : ByteArray) (w : World) :
    Calls Try.prog 19 #[.string s, .int .i64 40] w fun e w' => e = .returned (.string (s.extract 0 (min 40 s.size))) ∧ w = w' := by
  have hx : s.extract 0 s.size = s := by simp
  have HX := Lib.hid hx; clear hx
  by_cases h : 40 < s.size
  · have h1 : (s.size : Int) > (40 : Int) := by omega
    have hm : min 40 s.size = 40 := by omega
    have HM := Lib.hid hm; clear hm h
    go_enter Try.func19, Try.ntmps19
    go_wp2
    go_ret
    exact ⟨by rw [HM.out]; rfl, rfl⟩
  · have h1 : ¬ (s.size : Int) > (40 : Int) := by omega
    have hm : min 40 s.size = s.size := by omega
    have HM := Lib.hid hm; clear hm h
    go_enter Try.func19, Try.ntmps19
    go_wp2
    go_ret
    exact ⟨by rw [HM.out, HX.out]; rfl, rfl⟩
/-- a title that is cut -/
def cutT (t : ByteArray) : ByteArray := t.extract 0 (min 40 t.size)
theorem cutT_size (t : ByteArray) : (cutT t).size ≤ 40 := by
  unfold cutT
  rw [ByteArray.size_extract]
  omega
set_option maxHeartbeats 1000000 in
theorem lcut_any (t : ByteArray) (A : Option Addr) (os : List O4) (cap k : Nat) (n : Int) (hn : Hid (n = k)) (w : World) (n0 : 0 ≤ n) (n1 : n ≤ 1000) (hc : os.length ≤ cap) (hm : cap ≤ maxLen) :
    Calls Try.prog 10 #[progV t A os.length cap, .int .i64 n] w fun e w' => e = .returned (progV (cutT t) A (os.take k).length cap) ∧ Below w.heap.size w w' := by
  unfold maxLen at hm
  unfold progV
  rw [List.length_take]
  have HC := Lib.hid (cut40_any t)
  by_cases h : k < os.length
  · have h1 : n < (os.length : Int) := by have := hn.out; omega
    have hz : n.toNat = k := by have := hn.out; omega
    have hq : min k os.length = n.toNat := by omega
    have HQ := Lib.hid hq; clear hq h hz
    go_enter Try.func10, Try.ntmps10
    go_wp2_with (go_at_call 19; refine (HC.out _).mono ?_; rintro e w1 ⟨rfl, rfl⟩)
    refine bodyPost_ret (v := .agg #[.string (cutT t), .slice A n.toNat cap]) (by simp [results, Try.results10, go_sem, cutT]) rfl ⟨by rw [HQ.out], ?_⟩
    exact ((Below.refl _ _).alloc (Nat.le_refl _) _).alloc (by simp) _
  · have h1 : ¬ n < (os.length : Int) := by have := hn.out; omega
    have hq : min k os.length = os.length := by omega
    have HQ := Lib.hid hq; clear hq h
    go_enter Try.func10, Try.ntmps10
    go_wp2_with (go_at_call 19; refine (HC.out _).mono ?_; rintro e w1 ⟨rfl, rfl⟩)
    refine bodyPost_ret (v := .agg #[.string (cutT t), .slice A os.length cap]) (by simp [results, Try.results10, go_sem, cutT]) rfl ⟨by rw [HQ.out], ?_⟩
    exact ((Below.refl _ _).alloc (Nat.le_refl _) _).alloc (by simp) _
set_option maxHeartbeats 1000000 in
theorem lshort_any (A : Option Addr) (l : List UInt8) (cap : Nat) (w : World) (hc : l.length ≤ cap) (hc2 : cap ≤ maxLen) :
    Calls Try.prog 17 #[.slice A l.length cap, .int .i64 100] w fun e w' => e = .returned (.slice A (l.take 100).length cap) ∧ w = w' := by
  unfold maxLen at hc2
  rw [List.length_take]
  by_cases h : 100 < l.length
  · go_enter Try.func17, Try.ntmps17
    go_wp2
    go_ret
    exact ⟨by rw [Nat.min_eq_left (by omega)]; rfl, rfl⟩
  · go_enter Try.func17, Try.ntmps17
    go_wp2
    go_ret
    exact ⟨by rw [Nat.min_eq_right (by omega)]; rfl, rfl⟩
theorem encB_str {t : List UInt8} {os : List O4} (h : fitsB (titL t) os = true) : encB (str t) os = encP t os := by
  unfold encB
  rw [if_pos (show fitsB (titB (str t)) os = true from h)]
  rfl
set_option maxHeartbeats 4000000 in
theorem tells_any (A : Option Addr) (l : List UInt8) (cap B : Nat) (w : World) (hr : RB w B A l) (hB : B ≤ w.heap.size) (hc : l.length ≤ cap) (hm : cap ≤ maxLen) :
    Calls Try.prog 16 #[.slice A l.length cap] w fun e w' => e = .returned (.bool true) ∧ Below w.heap.size w w' := by
  have HD := Lib.hid (unpack_any A l cap B w hr hB hc hm)
  unfold Decoded at HD
  cases hp : progN titL l with
  | none =>
    rw [hp] at HD
    clear hp hr
    unfold progV at HD
    go_enter Try.func16, Try.ntmps16
    go_wp2_with fail
    refine HD.out.mono ?_
    rintro e w1 ⟨rfl, hb1⟩
    go_wp2
    go_ret
    exact ⟨rfl, hb1.alloc hb1.size _⟩
  | some q =>
    obtain ⟨t, os⟩ := q
    rw [hp] at HD
    obtain ⟨g1, g2, g3⟩ := progN_got hp
    have HE := Lib.hid (encB_str g2)
    have HG := Lib.hid g1
    have hfo := ((fitsB_iff _ _).1 g2).2.2.1
    have hpos := encP_pos t os
    have HF := Lib.hid hfo
    have HT := Lib.hid g3
    rw [← g1] at hpos
    obtain ⟨b, off, rfl, hbB, -⟩ := hr hpos
    have HR := Lib.hid hr
    clear hp g1 g2 g3 hr hfo hpos
    unfold progV at HD
    go_enter Try.func16, Try.ntmps16
    go_wp2_with fail
    refine HD.out.mono ?_
    rintro e w1 ⟨g, rfl, hg, hrow, hb1⟩
    have hgl : g < w1.heap.size := World.rowIs.lt hrow
    go_wp2_with fail
    have bp : Below w1.heap.size w1 (w1.alloc (.cells #[.string (str t), .slice (some ⟨g, 0, none⟩) os.length os.length] 24)).drew := ((Below.refl _ _).alloc (Nat.le_refl _) _).drew
    have hro : RO (w1.alloc (.cells #[.string (str t), .slice (some ⟨g, 0, none⟩) os.length os.length] 24)).drew w1.heap.size (some ⟨g, 0, none⟩) os := OpRow.reads (rowIs_below hrow bp hgl) (Nat.le_refl _) _ hgl
    have HEn := Lib.hid (refencode_any (str t) (some ⟨g, 0, none⟩) os os.length w1.heap.size (w1.alloc (.cells #[.string (str t), .slice (some ⟨g, 0, none⟩) os.length os.length] 24)).drew hro (by simp) (Nat.le_refl _) (by have := HF.out; unfold maxLen; omega) (by have := HT.out; rw [str_size]; omega))
    have hbr := HR.out.below ((hb1.mono hB).trans (bp.mono (Nat.le_trans hB hb1.size)))
    have hcv := conv_bytes (w1.alloc (.cells #[.string (str t), .slice (some ⟨g, 0, none⟩) os.length os.length] 24)).drew b off cap l B hbr l.length rfl
    have hpos : 0 < l.length := by rw [HG.out]; exact encP_pos t os
    have HBR := Lib.hid hbr; clear hbr
    have hb2 := hb1.trans (bp.mono hb1.size)
    unfold progV at HEn
    rw [HE.out] at HEn
    clear hb1 hrow hro bp
    go_region_with
      (first
        | (go_at_call 12; ((with_reducible refine HEn.out.mono ?_); rintro e w3 ⟨v, rfl, ho, hb⟩; rw [← HG.out] at ho; obtain ⟨A4, c4, rfl, -, -, h4⟩ := ho.form l rfl; obtain ⟨b4, o4, rfl, -, -⟩ := h4 hpos; have hc1 := conv_bytes w3 b4 o4 c4 l _ h4 l.length rfl; have hc2 := conv_bytes w3 b off cap l B (HBR.out.below (hb.mono (by simp; have := hb2.size; simp at this; omega))) l.length rfl; have hbf := hb2.trans (hb.mono (by have := hb2.size; simp at *; omega)); clear ho h4 hb)))
    all_goals
      go_wp2
      go_ret
      exact ⟨rfl, hbf⟩
end Go.Proofs.Ytjjhdbcekkmjfaa
