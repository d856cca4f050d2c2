/- texts of YpCh -/
import Derived.Deep.CutBlock
import Derived.Test.YtpnobpligchpiaaGreatDoorYpCg
import Derived.Test.YtpnobpligchpiaaGreatDoorYpK
namespace Go.Proofs.YtpnobpligchpiaaGreatDoor
set_option maxRecDepth 100000
open Go.RowKit
set_option linter.unusedVariables false
set_option linter.unusedSimpArgs false
open Go.Joins Go.ChangeShapes Go.WideShapes Go.ChangeAt Go.RowKit Go.Deep
theorem array10 {cs : Array Value} (h : cs.size = 10) : ∃ a b c d e f g i j k, cs = #[a, b, c, d, e, f, g, i, j, k] := by
 obtain ⟨l⟩ := cs
 match l, h with
 | [a, b, c, d, e, f, g, i, j, k], _ => exact ⟨a, b, c, d, e, f, g, i, j, k, rfl⟩
section
variable {H : Type} {enc : TypeId × Value → H}
theorem open_conf {W : World} {base : Nat} {v : Value} {d : DataW H} {p : List MemPlace} (hval : Value.okWide Tryz.prog W .any base 23 v) (h : DataW.Trod enc Tryz.prog W 0 (fun _ => true) true 23 v d p) :
 ∃ (n me id dl wi g o br wk ro : Int), v = cfV n me id dl wi g o br wk ro ∧ (in64 n ∧ in64 dl) := by
 obtain ⟨cs, rfl, hsz, hf⟩ := open_struct_val Tryz.underlying23 (by kernel_rfl) (by kernel_rfl) hval h
 obtain ⟨v0, v1, v2, v3, v4, v5, v6, v7, v8, v9, rfl⟩ := array10 hsz
 obtain ⟨u0, y0, n0, e0, t0⟩ := hf 0 _ rfl
 obtain ⟨u1, y1, n1, e1, t1⟩ := hf 1 _ rfl
 obtain ⟨u2, y2, n2, e2, t2⟩ := hf 2 _ rfl
 obtain ⟨u3, y3, n3, e3, t3⟩ := hf 3 _ rfl
 obtain ⟨u4, y4, n4, e4, t4⟩ := hf 4 _ rfl
 obtain ⟨u5, y5, n5, e5, t5⟩ := hf 5 _ rfl
 obtain ⟨u6, y6, n6, e6, t6⟩ := hf 6 _ rfl
 obtain ⟨u7, y7, n7, e7, t7⟩ := hf 7 _ rfl
 obtain ⟨u8, y8, n8, e8, t8⟩ := hf 8 _ rfl
 obtain ⟨u9, y9, n9, e9, t9⟩ := hf 9 _ rfl
 obtain rfl : v0 = u0 := Option.some.inj e0
 obtain rfl : v1 = u1 := Option.some.inj e1
 obtain rfl : v2 = u2 := Option.some.inj e2
 obtain rfl : v3 = u3 := Option.some.inj e3
 obtain rfl : v4 = u4 := Option.some.inj e4
 obtain rfl : v5 = u5 := Option.some.inj e5
 obtain rfl : v6 = u6 := Option.some.inj e6
 obtain rfl : v7 = u7 := Option.some.inj e7
 obtain rfl : v8 = u8 := Option.some.inj e8
 obtain rfl : v9 = u9 := Option.some.inj e9
 have hu := Tryz.underlying3
 have h64 := Tryz.underlying2
 obtain ⟨n, g0, _, w0⟩ := DataW.trod_int hu t0
 obtain ⟨me, g1, _, _⟩ := DataW.trod_int hu t1
 obtain ⟨id, g2, _, _⟩ := DataW.trod_int h64 t2
 obtain ⟨dl, g3, _, w3⟩ := DataW.trod_int hu t3
 obtain ⟨wi, g4, _, _⟩ := DataW.trod_int hu t4
 obtain ⟨g, g5, _, _⟩ := DataW.trod_int hu t5
 obtain ⟨o, g6, _, _⟩ := DataW.trod_int hu t6
 obtain ⟨br, g7, _, _⟩ := DataW.trod_int hu t7
 obtain ⟨wk, g8, _, _⟩ := DataW.trod_int hu t8
 obtain ⟨ro, g9, _, _⟩ := DataW.trod_int hu t9
 simp only [List.cons.injEq, and_true] at g0 g1 g2 g3 g4 g5 g6 g7 g8 g9
 subst g0 g1 g2 g3 g4 g5 g6 g7 g8 g9
 exact ⟨n, me, id, dl, wi, g, o, br, wk, ro, rfl, bounds_i64 w0, bounds_i64 w3⟩
end
theorem cf_of {n me id dl wi g o br wk ro : Int} (h : MayC n me id dl wi g o br wk ro) : ∃ C : Cf, C.may ∧ C.v = cfV n me id dl wi g o br wk ro := by
 have h2 := h
 unfold MayC at h2
 obtain ⟨N, rfl⟩ : ∃ N : Nat, n = N := ⟨n.toNat, by omega⟩
 obtain ⟨M, rfl⟩ : ∃ N : Nat, me = N := ⟨me.toNat, by omega⟩
 obtain ⟨D, rfl⟩ : ∃ N : Nat, dl = N := ⟨dl.toNat, by omega⟩
 obtain ⟨V, rfl⟩ : ∃ N : Nat, wi = N := ⟨wi.toNat, by omega⟩
 exact ⟨⟨N, M, id, D, V, g, o, br, wk, ro⟩, h, rfl⟩
end Go.Proofs.YtpnobpligchpiaaGreatDoor
