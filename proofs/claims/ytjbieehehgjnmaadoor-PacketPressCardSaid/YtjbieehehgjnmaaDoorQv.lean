/- WALK of the law PacketPress. -/
import Derived.Test.YtjbieehehgjnmaaDoorQr
import Derived.Test.YtjbieehehgjnmaaDoorQs
namespace Go.Proofs.YtjbieehehgjnmaaDoor
set_option maxRecDepth 100000
open Go.RowKit
set_option linter.unusedVariables false
set_option linter.unusedSimpArgs false

set_option maxHeartbeats 4000000 in
theorem press_law (A : Option Addr) (l : List UInt8) (n c : Nat) (fi : Int) (w : World) (hT : TabW w) (hr : RB w w.heap.size A l) (hn : l.length = n) (hc : n ≤ c) (hm : c ≤ maxLen) :
    Calls Tryd.prog 9 #[.slice A n c, .int .i64 fi] w fun e w' => e = .returned (.bool true) ∧ Below w.heap.size w w' := by
  have HBG := Lib.hid (begun15_any w hT)
  have HT := Lib.hid hT; have HR := Lib.hid hr; have HN := Lib.hid hn; have HM := Lib.hid hm
  clear hT hr hn hm
  by_cases h40 : 40 < n
  · have h40b : (40 : Int) < (n : Int) := by omega
    go_enter Tryd.func9, Tryd.ntmps9
    go_wp2_with fail
    (with_reducible refine HBG.out.mono ?_)
    rintro e w1 ⟨rfl, hb1⟩
    go_wp2
    go_ret
    exact ⟨rfl, hb1⟩
  by_cases hf0 : fi < 0
  · have h40b : (n : Int) ≤ 40 := by omega
    go_enter Tryd.func9, Tryd.ntmps9
    go_wp2_with fail
    (with_reducible refine HBG.out.mono ?_)
    rintro e w1 ⟨rfl, hb1⟩
    go_wp2
    go_ret
    exact ⟨rfl, hb1⟩
  by_cases hf1 : 1000 < fi
  · have h40b : (n : Int) ≤ 40 := by omega
    go_enter Tryd.func9, Tryd.ntmps9
    go_wp2_with fail
    (with_reducible refine HBG.out.mono ?_)
    rintro e w1 ⟨rfl, hb1⟩
    go_wp2
    go_ret
    exact ⟨rfl, hb1⟩
  have h40b : (n : Int) ≤ 40 := by omega
  have hf0b : 0 ≤ fi := by omega
  have hf1b : fi ≤ 1000 := by omega
  by_cases h32 : 32 < n
  · have h32b : (32 : Int) < (n : Int) := by omega
    have henc : encC 1 3 4 0 fi 0 0 0 l = [] := enc_none (by rw [HN.out]; unfold mayC; omega)
    have HENC := Lib.hid henc
    clear h40 hf0 hf1 h32 henc
    go_enter Tryd.func9, Tryd.ntmps9
    go_wp2_with fail
    (with_reducible refine HBG.out.mono ?_)
    rintro e w1 ⟨rfl, hb1⟩
    obtain ⟨w2, hw2⟩ : ∃ w2, w2 = w1.alloc (pkO 1 3 4 0 fi A n c 0 0 0) := ⟨_, rfl⟩
    have a2 : Below w1.heap.size w1 w2 := by rw [hw2]; exact (Below.refl _ _).alloc (Nat.le_refl _) _
    have hb2 := hb1.trans (a2.mono hb1.size)
    have HB2 := Lib.hid hb2; have HT2 := Lib.hid (HT.out.below hb2 HT.out.lt); have HR2 := Lib.hid (HR.out.next hb2)
    have HE := Lib.hid (enc_any 1 3 4 0 fi A l n c 0 0 0 w2 HT2.out HR2.out HN.out hc HM.out (by omega) (by omega))
    have HW2 := Lib.hid hw2
    clear hb1 hw2 a2 hb2
    go_wp2_with fail
    rw [← HW2.out]
    (with_reducible refine HE.out.mono ?_)
    rintro e w3 ⟨v3, rfl, o3, hb3⟩
    rw [HENC.out] at o3
    obtain ⟨A3, c3, rfl, hc3, hm3, hr3⟩ := o3.form_n 0 rfl
    have HB3 := Lib.hid (HB2.out.trans (hb3.mono HB2.out.size)); have HT3 := Lib.hid (HT2.out.below hb3 HT2.out.lt)
    have HD := Lib.hid (dec_no A3 [] 0 c3 w3 HT3.out hr3 rfl hc3 hm3 (by omega) is_nil)
    clear o3 hb3 hm3 hr3
    go_wp2_with fail
    (with_reducible refine HD.out.mono ?_)
    rintro e w4 ⟨rfl, hb4⟩
    have HB4 := Lib.hid ((HB3.out.trans (hb4.mono HB3.out.size)).alloc (HB3.out.trans (hb4.mono HB3.out.size)).size (pkO 0 0 0 0 0 none 0 0 0 0 0))
    clear hb4
    go_wp2_with fail
    go_ret
    exact ⟨rfl, HB4.out⟩
  · have h32b : (n : Int) ≤ 32 := by omega
    have hmay : mayC 1 3 4 0 fi 0 0 0 l.length := by rw [HN.out]; unfold mayC; omega
    have HIS := Lib.hid (enc_is hmay (by omega) (by omega))
    obtain ⟨x, hx⟩ : ∃ x, encC 1 3 4 0 fi 0 0 0 l = x := ⟨_, rfl⟩
    have hxl : x.length ≤ 100 := by rw [← hx]; exact enc_short _ _ _ _ _ _ _ _ _
    rw [hx] at HIS
    have HENC := Lib.hid hx; have HXL := Lib.hid hxl
    clear h40 hf0 hf1 h32 hmay hx hxl
    go_enter Tryd.func9, Tryd.ntmps9
    go_wp2_with fail
    (with_reducible refine HBG.out.mono ?_)
    rintro e w1 ⟨rfl, hb1⟩
    obtain ⟨w2, hw2⟩ : ∃ w2, w2 = w1.alloc (pkO 1 3 4 0 fi A n c 0 0 0) := ⟨_, rfl⟩
    have a2 : Below w1.heap.size w1 w2 := by rw [hw2]; exact (Below.refl _ _).alloc (Nat.le_refl _) _
    have hb2 := hb1.trans (a2.mono hb1.size)
    have HB2 := Lib.hid hb2; have HT2 := Lib.hid (HT.out.below hb2 HT.out.lt); have HR2 := Lib.hid (HR.out.next hb2)
    have HE := Lib.hid (enc_any 1 3 4 0 fi A l n c 0 0 0 w2 HT2.out HR2.out HN.out hc HM.out (by omega) (by omega))
    have HW2 := Lib.hid hw2
    clear hb1 hw2 a2 hb2
    go_wp2_with fail
    rw [← HW2.out]
    (with_reducible refine HE.out.mono ?_)
    rintro e w3 ⟨v3, rfl, o3, hb3⟩
    rw [HENC.out] at o3
    obtain ⟨m3, hm3_⟩ : ∃ m3, x.length = m3 := ⟨_, rfl⟩
    obtain ⟨A3, c3, rfl, hc3, hm3, hr3⟩ := o3.form_n m3 hm3_
    have HB3 := Lib.hid (HB2.out.trans (hb3.mono HB2.out.size)); have HT3 := Lib.hid (HT2.out.below hb3 HT2.out.lt)
    have HR3 := Lib.hid (HR2.out.next hb3)
    have HD : Hid (Calls Tryd.prog 16 #[.slice A3 m3 c3] w3 fun e w' => ∃ (A5 : Option Addr) (n5 c5 : Nat), e = .returned (.tuple #[pkV 1 3 4 0 fi A5 n5 c5 0 0 0, .int .i64 0]) ∧ RB w' w'.heap.size A5 l ∧ l.length = n5 ∧ Below w3.heap.size w3 w') := dec_yes A3 x m3 c3 w3 HT3.out hr3 hm3_ hc3 hm3 (by have := HXL.out; omega) _ HIS.out
    clear o3 hb3 hm3 hr3 hm3_
    go_wp2_with fail
    (with_reducible refine HD.out.mono ?_)
    rintro e w4 ⟨A5, n5, c5, rfl, hr5, hl5, hb4⟩
    have a5 : Below w4.heap.size w4 (w4.alloc (pkO 1 3 4 0 fi A5 n5 c5 0 0 0)) := (Below.refl _ _).alloc (Nat.le_refl _) _
    have hb5 := hb4.trans (a5.mono hb4.size)
    have q1 := conv_rb (hr5.next a5) n5 c5 hl5
    have q2 := conv_rb (HR3.out.next hb5) n c HN.out
    obtain ⟨s, hs⟩ : ∃ s, str l = s := ⟨_, rfl⟩
    rw [hs] at q1 q2
    have HB5 := Lib.hid (HB3.out.trans (hb5.mono HB3.out.size))
    clear hb4 hb5 a5 hr5 hl5 hs
    go_wp2_with fail
    go_ret
    exact ⟨rfl, HB5.out⟩
end Go.Proofs.YtjbieehehgjnmaaDoor
