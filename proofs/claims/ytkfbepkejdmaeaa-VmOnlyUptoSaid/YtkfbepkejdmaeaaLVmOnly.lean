/- For every program, every list of numbers, every frame and every list of presses that together are of bulk at most 1048576 quintainlaw9.VmOnly returns true, and its arguments read as they did; the one condition: that bulk. -/
import Derived.Test.YtkfbepkejdmaeaaRows
import Derived.JoinedCond
import Derived.Test.YtkfbepkejdmaeaaKb
import Derived.Test.YtkfbepkejdmaeaaKp
import Derived.Test.YtkfbepkejdmaeaaKj
import Derived.Test.YtkfbepkejdmaeaaVc
namespace Go.Proofs.Ytkfbepkejdmaeaa.lawVmOnly
open Go.Joins Go.ChangeShapes Go.WideShapes Go.ChangeAt Go.RowKit
open Go.ChangeMaps (open_string shut_string)
set_option linter.unusedVariables false

section
variable {H : Type} {enc : TypeId × Value → H}
/-- a program opened, and its datum's form -/
theorem open_prog_datum {W : World} {base : Nat} {v : Value} {d : DataW H} {p : List MemPlace} (hval : Value.okWide Try.prog W .any base 24 v) (h : DataW.Trod enc Try.prog W 0 (fun _ => true) true 24 v d p) :
    ∃ t A os cap dl, v = progV t A (os : List O4).length cap ∧ RO W W.heap.size A os ∧ os.length ≤ cap ∧ cap ≤ maxLen ∧ d = .agg [.lit (.string t.data.toList), dl] := by
  obtain ⟨v0, v1, y0, y1, n, rfl, hd, _, h0, h1⟩ := open_agg2 Try.underlying24 (by kernel_rfl) (by kernel_rfl) hval h
  obtain ⟨s, e, hy, hs⟩ := DataW.trod_string Try.underlying9 h0
  simp only [List.cons.injEq, and_true] at e
  subst e
  obtain ⟨A, os, cap, rfl, hr, hc, hm, hi⟩ := open_oplist (base := base) h1
  exact ⟨s, A, os, cap, y1.1, rfl, hr, hc, hm, by rw [hd, hy]⟩
/-- what the bound says of a program's title -/
theorem title_small {t : ByteArray} {dl : DataW H} {r : List (DataW H)} (hk : Rows.uptoSmall H (DataW.agg [.lit (.string t.data.toList), dl] :: r) = true) : t.size ≤ 1048576 := by
  have h := of_decide_eq_true hk
  simp only [Rows.uptoBulkAll, Rows.uptoBulk] at h
  rw [size_len]
  omega
end

theorem contract (H : Type) (enc : TypeId × Value → H) (W : World) (base : Nat) (args : Array Value) (ds gs : List (DataW H)) (before : List MemPlace)
    (hval : ∀ (j : Nat) t v, Try.f11.params[j]? = some t → args[j]? = some v → Value.okWide Try.prog W .any base t v)
    (hW : DataW.Whole enc Try.prog Try.f11.params.toList Rows.vmOnlySpec.vars false W args.toList ds gs before) (hk : Rows.uptoSmall H (ds ++ gs) = true) :
    Calls Try.prog 11 args W fun e W' => ∃ v, e = .returned v ∧ Rows.vmOnlySpec.post enc Try.prog Try.f11 false true false false W args v W' := by
  have hW' := hW
  obtain ⟨p, q, hA0, hV, hpq, hfz, hnd⟩ := hW
  have hA : DataW.TrodAll enc Try.prog W 0 (fun _ => true) true Try.f11.params.toList args.toList ds p := hA0
  rw [Try.params11] at hA hval
  obtain ⟨v0, vs0, d0, ds0, p0, q0, hargs, rfl, rfl, h0, r_0⟩ := trodAll_cons hA
  obtain ⟨v1, vs1, d1, ds1, p1, q1, rfl, rfl, rfl, h1, r_1⟩ := trodAll_cons r_0
  obtain ⟨v2, vs2, d2, ds2, p2, q2, rfl, rfl, rfl, h2, r_2⟩ := trodAll_cons r_1
  obtain ⟨v3, vs3, d3, ds3, p3, q3, rfl, rfl, rfl, h3, r_3⟩ := trodAll_cons r_2
  obtain ⟨rfl, rfl, rfl⟩ := trodAll_nil r_3
  obtain rfl : args = #[v0, v1, v2, v3] := by cases args; simp_all
  obtain ⟨rfl, rfl⟩ := trodVars_none hV
  obtain ⟨t0, A0, l0, cap0, dl, rfl, r0, c0, m0, hd0⟩ := open_prog_datum (hval 0 24 v0 rfl rfl) h0
  obtain ⟨A1, l1, cap1, rfl, r1, c1, m1, z1⟩ := open_i32list (hval 1 25 v1 rfl rfl) h1
  obtain ⟨a2, rfl, rfl, rfl, w2⟩ := open_int Try.underlying3 (hval 2 3 v2 rfl rfl) h2
  obtain ⟨A3, l3, cap3, rfl, r3, c3, m3⟩ := open_bytes (hval 3 26 v3 rfl rfl) h3
  subst hd0
  have ht : t0.size ≤ 1048576 := title_small hk
  refine (only_law t0 A0 l0 cap0 A1 l1 cap1 a2 A3 l3 cap3 W r0 c0 m0 ht r1 c1 m1 z1 r3 c3 m3).mono fun e W' ⟨he, bel⟩ => ?_
  subst he
  exact ⟨_, rfl, law_post hW' rfl (by kernel_rfl) (by kernel_rfl) rfl bel⟩

set_option maxRecDepth 100000 in
theorem lifted (os : Os) (started : os.Started) (H : Type) (enc : TypeId × Value → H) (F : Stop.Interp) :
    ReturnsInHanded {} Try.checked os 11 .any ((Rows.OpenSpec.upto Rows.vmOnlySpec).pre6 enc Try.prog Try.f11 Rows.vmOnlyUptoRow.domain false) (((Rows.OpenSpec.upto Rows.vmOnlySpec).at F).post enc Try.prog Try.f11 false true false false) := by
  refine returnsInHanded_of_cond (C := Try.checked) (s := Rows.OpenSpec.upto Rows.vmOnlySpec) (k := Rows.uptoSmall) rfl kitOwn started (by kernel_rfl) Try.func11
    (OpenSpec.witness (enc := enc) (C := Try.checked) (s := Rows.OpenSpec.upto Rows.vmOnlySpec) (k := Rows.uptoSmall) rfl false ⟨#[], #[.agg #[.string ⟨#[]⟩, .slice none 0 0], .slice none 0 0, .int .i64 0, .slice none 0 0], []⟩ 8 (by kernel_rfl) (by kernel_rfl) (by kernel_rfl)
      (x := ([.agg [.lit (.string []), .nil], .nil, .lit (.int .i64 0), .nil], [], [])) (by kernel_rfl) rfl (by kernel_rfl)) ?_
  intro W base args ds gs before hval hW _ hk _
  exact contract H enc W base args ds gs before hval hW hk

theorem over : Rows.vmOnlyUptoRow.holds Try.pinned (Rows.OpenSpec.upto Rows.vmOnlySpec) :=
  OpenClaim.holds_of_cond 11 Try.f11 rfl rfl rfl rfl rfl rfl rfl ⟨rfl, rfl, rfl, rfl, rfl⟩ rfl rfl rfl rfl rfl (by kernel_rfl) Try.func11 (by kernel_rfl)
    (of_decide_eq_true (by kernel_rfl)) (by unfold Func.isWrapper; first | (rw [if_pos (by decide +kernel)]; kernel_rfl) | (rw [if_neg (by decide +kernel)]; exact ⟨rfl, rfl⟩))
    (fun os started H enc _ F => lifted os started H enc F)

/-- THE STATEMENT. -/
theorem proved : Rows.VmOnlyUptoSaid := over
#print axioms proved
end Go.Proofs.Ytkfbepkejdmaeaa.lawVmOnly
