/- WALK of the law PacketAny. -/
import Derived.Test.YtjbieehehgjnmaaDoorQr
import Derived.Test.YtjbieehehgjnmaaDoorQs
namespace Go.Proofs.YtjbieehehgjnmaaDoor
set_option maxRecDepth 100000
open Go.RowKit
set_option linter.unusedVariables false
set_option linter.unusedSimpArgs false

set_option maxHeartbeats 4000000 in
theorem any_law (A : Option Addr) (l : List UInt8) (n c : Nat) (w : World) (hT : TabW w) (hr : RB w w.heap.size A l) (hn : l.length = n) (hc : n ≤ c) (hm : c ≤ maxLen) :
    Calls Tryd.prog 4 #[.slice A n c] w fun e w' => e = .returned (.bool true) ∧ Below w.heap.size w w' := by
  have HBG := Lib.hid (begun15_any w hT)
  obtain ⟨x, hx⟩ : ∃ x, l.take 80 = x := ⟨_, rfl⟩
  obtain ⟨X, hX⟩ : ∃ X, x.length = X := ⟨_, rfl⟩
  have hX2 : X ≤ 80 ∧ X ≤ c := by rw [← hx, List.length_take] at hX; omega
  obtain ⟨hX80, hXc⟩ := hX2
  have HS := Lib.hid (fun W => short_n A l n c 80 W hn (by omega) hc hm X (by rw [hx, hX]) 80 rfl)
  have HRX : Hid (RB w w.heap.size A x) := by show RB _ _ _ _; rw [← hx]; exact hr.take 80
  have HX := Lib.hid hX; have HT := Lib.hid hT; have HM := Lib.hid hm; have H80 := Lib.hid hX80; have HXC := Lib.hid hXc
  clear hT hr hn hm hx hX hX80
  go_enter Tryd.func4, Tryd.ntmps4
  go_wp2_with fail
  (with_reducible refine HBG.out.mono ?_)
  rintro e w1 ⟨rfl, hb1⟩
  have HB1 := Lib.hid hb1; have HT1 := Lib.hid (HT.out.below hb1 HT.out.lt)
  have HR1 := Lib.hid (HRX.out.next hb1)
  have HTL := Lib.hid (tells_any A x X c w1 HT1.out HR1.out HX.out HXC.out HM.out (by have := H80.out; omega))
  clear hb1
  go_wp2_with (first
    | (go_at_call 19; (with_reducible refine (HS.out _).mono ?_); rintro e w2 ⟨rfl, rfl⟩))
  (with_reducible refine HTL.out.mono ?_)
  rintro e w2 ⟨rfl, hb2⟩
  have HB2 := Lib.hid (HB1.out.trans (hb2.mono HB1.out.size)); have HT2 := Lib.hid (HT1.out.below hb2 HT1.out.lt)
  have HSE := Lib.hid (sealed_any A x X c w2 (HR1.out.next hb2) HX.out HXC.out HM.out (by have := H80.out; omega))
  clear hb2
  go_wp2_with fail
  (with_reducible refine HSE.out.mono ?_)
  rintro e w3 ⟨v3, rfl, o3, hb3⟩
  obtain ⟨n3, hn3⟩ : ∃ n3, (sealK x).length = n3 := ⟨_, rfl⟩
  have hn3l : n3 ≤ 84 := by rw [← hn3, sealK_len, HX.out]; have := H80.out; omega
  obtain ⟨A3, c3, rfl, hc3, hm3, hr3⟩ := o3.form_n n3 hn3
  have HB3 := Lib.hid (HB2.out.trans (hb3.mono HB2.out.size)); have HT3 := Lib.hid (HT2.out.below hb3 HT2.out.lt)
  have HTL3 := Lib.hid (tells_any A3 (sealK x) n3 c3 w3 HT3.out hr3 hn3 hc3 hm3 (by omega))
  clear o3 hb3 hm3 hr3 hn3
  go_wp2_with fail
  (with_reducible refine HTL3.out.mono ?_)
  rintro e w4 ⟨rfl, hb4⟩
  have HB4 := Lib.hid (HB3.out.trans (hb4.mono HB3.out.size))
  clear hb4
  go_wp2
  go_ret
  exact ⟨rfl, HB4.out⟩
end Go.Proofs.YtjbieehehgjnmaaDoor
