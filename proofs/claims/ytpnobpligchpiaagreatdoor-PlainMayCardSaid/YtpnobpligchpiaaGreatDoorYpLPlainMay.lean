/- For any Conf, any program and any table quintainlaw22.PlainMay returns true, and its arguments read as they did; its one listed variable, crc.rests, is tied to the program's text: no other condition. -/
import Derived.Test.YtpnobpligchpiaaGreatDoorRows
import Derived.Test.YtpnobpligchpiaaGreatDoorCards
import Derived.Test.YtpnobpligchpiaaGreatDoorTie
import Derived.SevenTiedAt
import Derived.Lay
import Derived.LaidMore
import Derived.MakeChecks
import Derived.Test.YtpnobpligchpiaaGreatDoorYpK
import Derived.Test.YtpnobpligchpiaaGreatDoorYpOa
import Derived.Test.YtpnobpligchpiaaGreatDoorYpPe
import Derived.Test.YtpnobpligchpiaaGreatDoorYpC
namespace Go.Proofs.YtpnobpligchpiaaGreatDoor.lawPlainMay
open Go.ChangeShapes Go.WideShapes Go.ChangeAt Go.RowKit
open Go.ChangeMaps (open_string shut_string)
set_option linter.unusedVariables false

set_option maxRecDepth 100000 in
theorem lifted (os : Os) (started : os.Started) (H : Type) (enc : TypeId × Value → H) :
    ReturnsInHanded {} Tryz.checked os 8 .any (fun w args => (Rows.plainMaySpec.pre enc Tryz.prog Tryz.f8 [] false w args ∧ laidMetH Tryz.prog crcLaid w) ∧ sizedMet enc Tryz.prog Tryz.f8 (OpenSpec.ofChange Rows.plainMaySpec) false w args)
      (Rows.plainMaySpec.post enc Tryz.prog Tryz.f8 false true false false) := by
  refine returnsInHanded_of_change_and (C := Tryz.checked) (X := fun w _ => laidMetH Tryz.prog crcLaid w) (fun _ _ _ hh h => h.of_heap hh) kitOwn started (by kernel_rfl) Tryz.func8
    (ChangeSpec.witness_shaped (enc := enc) (C := Tryz.checked) (os := os) (X := fun w _ => laidMetH Tryz.prog crcLaid w) false (World.doorLaid Tryz.prog 100 os) #[cfV 0 0 0 0 0 0 0 0 0 0, .agg #[.string ⟨#[]⟩, .slice none 0 0], .slice none 0 0] 8 rfl (World.shaped_of_RefB (by kernel_rfl) (by kernel_rfl)) (by kernel_rfl) (by kernel_rfl) (by kernel_rfl) (door_met os _)) ?_
  intro W base args ds gs before hval0 hW _ _ hL _
  have hval : ∀ (j : Nat) t v, Tryz.f8.params[j]? = some t → args[j]? = some v → Value.okWide Tryz.prog W .any base t v := hval0
  have hW' := hW
  obtain ⟨p, q, hA0, hV, hpq, hfz, hnd⟩ := hW
  have hA : DataW.TrodAll enc Tryz.prog W 0 (fun _ => true) true Tryz.f8.params.toList args.toList ds p := hA0
  rw [Tryz.params8] at hA hval
  obtain ⟨v0, vs0, d0, ds0, p0, q0, hargs, rfl, rfl, h0, r_0⟩ := trodAll_cons hA
  obtain ⟨v1, vs1, d1, ds1, p1, q1, rfl, rfl, rfl, h1, r_1⟩ := trodAll_cons r_0
  obtain ⟨v2, vs2, d2, ds2, p2, q2, rfl, rfl, rfl, h2, r_2⟩ := trodAll_cons r_1
  obtain ⟨rfl, rfl, rfl⟩ := trodAll_nil r_2
  obtain rfl : args = #[v0, v1, v2] := by cases args; simp_all
  obtain ⟨rfl, rfl⟩ := trodVars_none hV
  obtain ⟨n0, me0, id0, dl0, wi0, g0, o0, br0, wk0, ro0, rfl, zc0⟩ := open_conf (hval 0 23 v0 rfl rfl) h0
  obtain ⟨t1, A1, l1, cap1, rfl, r1, c1, m1, z1, s1⟩ := open_prog (hval 1 61 v1 rfl rfl) h1
  obtain ⟨A2, l2, cap2, rfl, r2, c2, m2⟩ := open_bytes (hval 2 33 v2 rfl rfl) h2
  have hT := tabW_of_laid hL
  refine (may22_law n0 me0 id0 dl0 wi0 g0 o0 br0 wk0 ro0 t1 A1 l1 cap1 A2 l2 cap2 W hT r1 c1 m1 r2 c2 m2).mono fun e W' ⟨he, bel⟩ => ?_
  subst he
  exact ⟨_, rfl, law_post hW' rfl (by kernel_rfl) (by kernel_rfl) rfl bel⟩

theorem over : Rows.plainMayRow.holds Tryz.pinned (OpenSpec.ofChange Rows.plainMaySpec) :=
  OpenClaim.holds_of_wide 8 Tryz.f8 rfl rfl rfl rfl rfl rfl rfl ⟨rfl, rfl, rfl, rfl, rfl⟩ rfl rfl rfl rfl rfl (by kernel_rfl) Tryz.func8 (by kernel_rfl)
    (of_decide_eq_true (by kernel_rfl)) (by unfold Func.isWrapper; first | (rw [if_pos (by decide +kernel)]; kernel_rfl) | (rw [if_neg (by decide +kernel)]; exact ⟨rfl, rfl⟩))
    (fun os started H enc _ => lifted os started H enc)

/-- THE STATEMENT. -/
theorem proved : Rows.PlainMayCardSaid :=
  Claim7.holds_tied_plain_at .later [] [.data] true (true, "df00787e2e375fc742f1bd73468370d91314910987b412a606ddb4e1de20eb8f") false
    over (fun _ h => by cases h) (by kernel_rfl) (fun _ h => by cases h) plainMay_row_tie rfl ⟨rfl, rfl⟩ (by kernel_rfl) rfl
    (fun f fn hf hfn => by
      obtain rfl : f = 8 := Option.some.inj ((show Tryz.prog.funcNamed "quintain/quintainlaw22.PlainMay" = some 8 by kernel_rfl).symm.trans hf) |>.symm
      obtain rfl : fn = Tryz.f8 := (Option.some.inj (Tryz.func8.symm.trans hfn)).symm
      exact ⟨by kernel_rfl, fun j t ht => by
        rw [Tryz.params8] at ht
        have hm : t ∈ [23, 61, 33] := by simpa using Array.mem_of_getElem? ht
        have hall : ([23, 61, 33].all fun u => !Tryz.prog.wantsStandIn u) = true := by kernel_rfl
        exact (show Tryz.prog.wantsStandIn t = false by simpa using List.all_eq_true.1 hall t hm)⟩)
    (by kernel_rfl)
#print axioms proved
end Go.Proofs.YtpnobpligchpiaaGreatDoor.lawPlainMay
