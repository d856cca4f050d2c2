/- For every two programs, every list of numbers, every frame and every list of presses quintainlaw9.VmTwice returns true, and its arguments read as they did: no condition. -/
import Derived.Test.YtkfbepkejdmaeaaRows
import Derived.Test.YtkfbepkejdmaeaaKb
import Derived.Test.YtkfbepkejdmaeaaKp
import Derived.Test.YtkfbepkejdmaeaaKj
import Derived.Test.YtkfbepkejdmaeaaVb
namespace Go.Proofs.Ytkfbepkejdmaeaa.lawVmTwice
open Go.ChangeShapes Go.WideShapes Go.ChangeAt Go.RowKit
open Go.ChangeMaps (open_string shut_string)
set_option linter.unusedVariables false

set_option maxRecDepth 100000 in
theorem lifted (os : Os) (started : os.Started) (H : Type) (enc : TypeId × Value → H) :
    ReturnsInHanded {} Try.checked os 4 .any (Rows.vmTwiceSpec.pre6 enc Try.prog Try.f4 Rows.vmTwiceRow.domain false) (Rows.vmTwiceSpec.post enc Try.prog Try.f4 false true false false) := by
  refine returnsInHanded_of_change (C := Try.checked) kitOwn started (by kernel_rfl) Try.func4
    (ChangeSpec.witness6 (enc := enc) (C := Try.checked) false ⟨#[], #[.agg #[.string ⟨#[]⟩, .slice none 0 0], .agg #[.string ⟨#[]⟩, .slice none 0 0], .slice none 0 0, .int .i64 0, .slice none 0 0], []⟩ 8 (by kernel_rfl) (by kernel_rfl) (by kernel_rfl) (by kernel_rfl)) ?_
  intro W base args ds gs before hval0 hW hcnd _
  have hval : ∀ (j : Nat) t v, Try.f4.params[j]? = some t → args[j]? = some v → Value.okWide Try.prog W .any base t v := hval0
  have hW' := hW
  obtain ⟨p, q, hA0, hV, hpq, hfz, hnd⟩ := hW
  have hA : DataW.TrodAll enc Try.prog W 0 (fun _ => true) true Try.f4.params.toList args.toList ds p := hA0
  rw [Try.params4] at hA hval
  obtain ⟨v0, vs0, d0, ds0, p0, q0, hargs, rfl, rfl, h0, r_0⟩ := trodAll_cons hA
  obtain ⟨v1, vs1, d1, ds1, p1, q1, rfl, rfl, rfl, h1, r_1⟩ := trodAll_cons r_0
  obtain ⟨v2, vs2, d2, ds2, p2, q2, rfl, rfl, rfl, h2, r_2⟩ := trodAll_cons r_1
  obtain ⟨v3, vs3, d3, ds3, p3, q3, rfl, rfl, rfl, h3, r_3⟩ := trodAll_cons r_2
  obtain ⟨v4, vs4, d4, ds4, p4, q4, rfl, rfl, rfl, h4, r_4⟩ := trodAll_cons r_3
  obtain ⟨rfl, rfl, rfl⟩ := trodAll_nil r_4
  obtain rfl : args = #[v0, v1, v2, v3, v4] := by cases args; simp_all
  obtain ⟨rfl, rfl⟩ := trodVars_none hV
  obtain ⟨t0, A0, l0, cap0, rfl, r0, c0, m0, z0, s0⟩ := open_prog (hval 0 24 v0 rfl rfl) h0
  obtain ⟨t1, A1, l1, cap1, rfl, r1, c1, m1, z1, s1⟩ := open_prog (hval 1 24 v1 rfl rfl) h1
  obtain ⟨A2, l2, cap2, rfl, r2, c2, m2, z2⟩ := open_i32list (hval 2 25 v2 rfl rfl) h2
  obtain ⟨a3, rfl, rfl, rfl, w3⟩ := open_int Try.underlying3 (hval 3 3 v3 rfl rfl) h3
  obtain ⟨A4, l4, cap4, rfl, r4, c4, m4⟩ := open_bytes (hval 4 26 v4 rfl rfl) h4
  refine (twice_law t0 t1 A0 A1 l0 l1 cap0 cap1 A2 l2 cap2 a3 A4 l4 cap4 W r0 r1 c0 c1 m0 m1 r2 c2 m2 z2 r4 c4 m4).mono fun e W' ⟨he, bel⟩ => ?_
  subst he
  exact ⟨_, rfl, law_post hW' rfl (by kernel_rfl) (by kernel_rfl) rfl bel⟩

theorem over : Rows.vmTwiceRow.holds Try.pinned (OpenSpec.ofChange Rows.vmTwiceSpec) :=
  OpenClaim.holds_of_wide 4 Try.f4 rfl rfl rfl rfl rfl rfl rfl ⟨rfl, rfl, rfl, rfl, rfl⟩ rfl rfl rfl rfl rfl (by kernel_rfl) Try.func4 (by kernel_rfl)
    (of_decide_eq_true (by kernel_rfl)) (by unfold Func.isWrapper; first | (rw [if_pos (by decide +kernel)]; kernel_rfl) | (rw [if_neg (by decide +kernel)]; exact ⟨rfl, rfl⟩))
    (fun os started H enc _ => lifted os started H enc)

/-- THE STATEMENT. -/
theorem proved : Rows.VmTwiceSaid := over
#print axioms proved
end Go.Proofs.Ytkfbepkejdmaeaa.lawVmTwice
