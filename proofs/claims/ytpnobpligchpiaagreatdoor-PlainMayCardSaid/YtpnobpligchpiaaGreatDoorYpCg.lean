/- texts of YpCg -/
import Derived.Deep.MidRow
import Derived.Test.YtpnobpligchpiaaGreatDoorYpCb
import Derived.Test.YtpnobpligchpiaaGreatDoorYpCd
import Derived.Test.YtpnobpligchpiaaGreatDoorYpCe
import Derived.Test.YtpnobpligchpiaaGreatDoorYpCf
import Derived.Test.YtpnobpligchpiaaGreatDoorYpK
import Derived.Test.YtpnobpligchpiaaGreatDoorYpQ
import Derived.Test.YtpnobpligchpiaaGreatDoorYpV
namespace Go.Proofs.YtpnobpligchpiaaGreatDoor
set_option maxRecDepth 100000
open Go.RowKit
set_option linter.unusedVariables false
set_option linter.unusedSimpArgs false
section
variable {w0 w w' : World} {C : Cf} {c q d : Nat} {s t s' t' : Pl} {O O' : Nat → Prop}
end
section
variable {w0 w : World} {C : Cf} {c q d : Nat} {s t s' t' : Pl} {O : Nat → Prop} {P : Program} {f : Nat} {args : Array Value}
end
open Go.Joins Go.ChangeShapes Go.WideShapes Go.ChangeAt Go.RowKit Go.Deep
section
variable {H : Type} {enc : TypeId × Value → H}
end
abbrev cfZ (n me id dl wi g o br wk ro : Int) : List Value := [.int .i64 n, .int .i64 me, .int .i64 id, .int .i64 dl, .int .i64 wi, .int .i64 g, .int .i64 o, .int .i64 br, .int .i64 wk, .int .i64 ro]
theorem wpList_load_cz {w : World} {ops : Array Oper} {rest : List Oper} {o : Oper} {a : Act} {Q : Exit → Act → World → Prop} (hgd : o.guard = none) (x : Operand) (ho : o.op = .load 23 x)
 (c : Nat) (hx : a.eval x = .pointer (some ⟨c, 0, none⟩)) (cs : List Value) (hcs : cs.length = 10) (h : w.rangeAt c 0 cs)
 (hk : wpList Tryz.prog ops Q rest (a.put o.dst (.agg cs.toArray)) w) : wpList Tryz.prog ops Q (o :: rest) a w :=
 wpList_load_mid hgd 23 x ho c 0 hx cs _ h Tryz.underlying23 rfl (by rw [cf_size, hcs]) hk
theorem cz_range {w : World} {b : Nat} {n me id dl wi g o br wk ro : Int} (h : w.heap[b]? = some (cfO n me id dl wi g o br wk ro)) : w.rangeAt b 0 (cfZ n me id dl wi g o br wk ro) := fun j v hj => by
 rw [Nat.zero_add, cell_of_row w b j _ _ _ h]
 rw [← hj]; simp [cfZ]
theorem cz_below {W W' : World} {b : Nat} {cs : List Value} (h : W.rangeAt b 0 cs) (hb : Below W.heap.size W W') (hlt : b < W.heap.size) : W'.rangeAt b 0 cs := fun j v hj => (hb.cell (p := ⟨b, _, none⟩) hlt).trans (h j v hj)
section
variable {w0 w : World} {C : Cf} {c q d : Nat} {s : Pl} {O : Nat → Prop} {m : Nat}
end
section
variable {w w' : World} {R : Nat} {kd : Int} {bA : Option Addr} {bn bc : Nat} {k f t id fi : Int} {A : Option Addr} {n c : Nat} {ac fr su : Int} {ft : Bool} {sm : Int}
end
theorem press_ms (C : Cf) (s : Pl) (b : UInt8) : (pressP C s b).2.ms = s.ms := by
 unfold pressP; split
 · rfl
 · split
   · rfl
   · split <;> rfl
theorem recv_ms (C : Cf) (s : Pl) (o : Option Pk) : (recvP C s o).2.ms = s.ms := by
 unfold recvP; split
 · rfl
 · split
   · rfl
   · split
     · rename_i p h
       show (heldN (tellP C (hearP s p.f.toNat) p) C.n).ms = s.ms
       rw [(heldN_ms _ _).1]
       unfold tellP; split <;> rfl
     · rfl
theorem told_bounds {l : List UInt8} {o : Option Pk} (h : Told l o) (p : Pk) (e : o = some p) : p.fr ≤ 1000 ∧ p.ac ≤ 1000 ∧ 0 ≤ p.su ∧ p.su ≤ 4294967295 := by
 subst e
 obtain ⟨h1, h2, -⟩ := h
 refine ⟨?_, ?_, h2.1, h2.2⟩ <;> (unfold Pk.may mayC at h1; rcases h1 with ⟨-, h | h⟩ <;> omega)
end Go.Proofs.YtpnobpligchpiaaGreatDoor
