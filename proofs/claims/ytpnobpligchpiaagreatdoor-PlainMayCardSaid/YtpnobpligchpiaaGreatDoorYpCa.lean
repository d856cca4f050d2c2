/- texts of YpCa -/
import Derived.BigRegion
import Derived.Test.YtpnobpligchpiaaGreatDoorYpF
import Derived.Test.YtpnobpligchpiaaGreatDoorYpK
namespace Go.Proofs.YtpnobpligchpiaaGreatDoor
set_option maxRecDepth 100000
open Go.RowKit
set_option linter.unusedVariables false
set_option linter.unusedSimpArgs false
abbrev heL (ps : List Pr) : List Value := ps.map fun x => .int .i64 (x.he : Int)
abbrev haL (ps : List Pr) : List Value := ps.map fun x => .int .i64 (x.ha : Int)
abbrev apL (ps : List Pr) : List Value := ps.map fun x => .bool x.ap
def wdL : List Pr → List Value
 | [] => []
 | x :: r => .int .i64 (x.fr : Int) :: .int .u32 x.su :: wdL r
abbrev dcO (C : Cf) (lv : Value) (ck h a d p : Nat) (mv ev : Value) (cl : Bool) : Obj :=
 .cells #[.int .i64 C.n, .int .i64 C.me, .int .i64 C.id, .int .i64 C.dl, .int .i64 C.wi, .int .i64 C.g, .int .i64 C.o, .int .i64 C.br, .int .i64 C.wk, .int .i64 C.ro, lv, .int .i64 ck, .slice (some ⟨h, 0, none⟩) C.n C.n, .slice (some ⟨a, 0, none⟩) C.n C.n, .slice (some ⟨d, 0, none⟩) C.n C.n, .slice (some ⟨p, 0, none⟩) C.n C.n, mv, ev, .bool cl] 111 (0, 0)
structure Dm where
 C : Cf
 c : Nat
 h : Nat
 a : Nat
 d : Nat
 p : Nat
 lv : Value
 ls : List Rl
 mv : Value
 mo : Obj
 ev : Value
 eo : Obj
 s : Pl
def Dm.E (K : Dm) : List Ent := [(some K.c, dcO K.C K.lv K.s.ck K.h K.a K.d K.p K.mv K.ev K.s.cl), (some K.h, .cells (heL K.s.ps).toArray 3 (0, 0)), (some K.a, .cells (haL K.s.ps).toArray 3 (0, 0)), (some K.d, .cells (wdL K.s.ps).toArray 137 (0, 0)), (some K.p, .cells (apL K.s.ps).toArray 4 (0, 0)), (K.mv.ownBlock, K.mo), (K.ev.ownBlock, K.eo)]
def Dm.bl (K : Dm) : List (Option Nat) := [some K.c, some K.h, some K.a, some K.d, some K.p, K.mv.ownBlock, K.ev.ownBlock]
section
variable {w0 w w' : World} {K : Dm}
end
theorem within_any (n low high : Int) (b : Bool) (hb : b = true ↔ low ≤ n ∧ n ≤ high) (w : World) : Calls Tryz.prog 66 #[.int .i64 n, .int .i64 low, .int .i64 high] w fun e w' => e = .returned (.bool b) ∧ w = w' := by
 have HB := qh hb; clear hb
 by_cases h0 : low ≤ n
 · by_cases h1 : n ≤ high
   · have HE := qh (HB.out.2 ⟨h0, h1⟩)
     go_enter Tryz.func66, Tryz.ntmps66
     go_wp2
     go_ret
     exact ⟨by rw [HE.out]; first | rfl | (simp; omega), rfl⟩
   · have HE := qh (show b = false by rw [Bool.eq_false_iff]; exact fun h => h1 (HB.out.1 h).2)
     go_enter Tryz.func66, Tryz.ntmps66
     go_wp2
     go_ret
     exact ⟨by rw [HE.out]; first | rfl | (simp; omega), rfl⟩
 · have HE := qh (show b = false by rw [Bool.eq_false_iff]; exact fun h => h0 (HB.out.1 h).1)
   have h0' : n < low := by omega
   go_enter Tryz.func66, Tryz.ntmps66
   go_wp2
   go_ret
   exact ⟨by rw [HE.out]; first | rfl | (simp; omega), rfl⟩
end Go.Proofs.YtpnobpligchpiaaGreatDoor
