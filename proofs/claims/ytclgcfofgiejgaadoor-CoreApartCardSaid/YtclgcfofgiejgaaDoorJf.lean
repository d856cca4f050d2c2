/- THE WALK of ref Runs. -/
import Derived.Test.YtclgcfofgiejgaaDoorJe
import Derived.Test.YtclgcfofgiejgaaDoorNc
import Derived.Great.BuildSlice
import Derived.Test.YtclgcfofgiejgaaDoorKr
import Derived.Test.YtclgcfofgiejgaaDoorKv
namespace Go.Proofs.YtclgcfofgiejgaaDoor
set_option maxRecDepth 100000
open Go.RowKit
set_option linter.unusedVariables false

theorem groups_mid (l : List UInt8) (k m : Nat) (x : UInt8) (hm : 1 ≤ m) (hk : k + m ≤ l.length) (hall : ∀ j (h : j < l.length), k ≤ j → j < k + m → l[j] = x) (hne : ∀ h : k + m < l.length, l[k + m] ≠ x) :
    groups (l.drop k) = (m, x) :: groups (l.drop (k + m)) := by
  have h := groups_at (l.drop k) m x hm (by rw [List.length_drop]; omega)
    (fun j h hj => by rw [List.length_drop] at h; rw [List.getElem_drop]; exact hall (k + j) (by omega) (by omega) (by omega))
    (fun h => by rw [List.length_drop] at h; rw [List.getElem_drop]; exact hne (by omega))
  rw [List.drop_drop] at h
  exact h
set_option maxHeartbeats 4000000 in
theorem refruns_any (A : Option Addr) (l : List UInt8) (n cap : Nat) (w : World) (hr : RB w w.heap.size A l) (hn : l.length = n) (hc : n ≤ cap) (hm : cap ≤ maxLen) (hl : n ≤ 4096) :
    Calls Tryd.prog 37 #[.slice A n cap] w fun e w' => ∃ v, e = .returned v ∧ OB w' w.heap.size v (encG 0 (groups l)) ∧ Below w.heap.size w w' := by
  have HR := Lib.hid hr; have HM := Lib.hid hm; have HN := Lib.hid hn; have HL := Lib.hid hl
  clear hr hm hn hl
  go_enter Tryd.func37, Tryd.ntmps37
  go_wp2
  go_loopw [3, 4, 5] (fun out a i wr => ∃ (k : Nat) (av : UInt8) (ai : Int) (p : List UInt8), i = .int .i64 (k : Int) ∧ k ≤ n ∧ a = .int .u8 ai ∧ Hid ((av.toNat : Int) = ai) ∧ Hid (p ++ encG av (groups (l.drop k)) = encG 0 (groups l)) ∧ Hid (OB wr w.heap.size out p) ∧ Hid (Below w.heap.size w wr)) (fun _ _ i _ => n - (intOf i).toNat)
  case atStart => exact ⟨0, 0, 0, [], rfl, by omega, rfl, rfl, rfl, OB.nil _ _, Below.refl _ _⟩
  case round =>
    obtain ⟨k, av, ai, p, rfl, hk, rfl, hav, hp, ho, hb⟩ := hrel
    have hpl : Hid (p.length ≤ 90112) := by
      have h1 := encG_groups_len l (by rw [HN.out]; have := HL.out; omega) 0
      rw [← hp.out, List.length_append] at h1
      show _ ≤ _
      omega
    by_cases hlt : k < n
    · have hrb := HR.out.below hb.out
      obtain ⟨b, off, rfl, hbw, hcell⟩ := hrb (by have := HN.out; omega)
      have HCL := Lib.hid hcell
      have hck := hcell k (by have := HN.out; omega)
      obtain ⟨x, hx⟩ : ∃ x : UInt8, l[k]'(by have := HN.out; omega) = x := ⟨_, rfl⟩
      rw [hx] at hck
      unfold vb at hck
      obtain ⟨xi, hxi⟩ : ∃ xi : Int, Hid ((x.toNat : Int) = xi) := ⟨_, rfl⟩
      rw [hxi.out] at hck
      have HX : Hid (∀ h : k < l.length, l[k] = x) := fun h => hx
      clear hcell hx hrb
      have hkn : (k : Int) < (n : Int) := by omega
      go_wp2_with fail
      obtain ⟨W0, rfl⟩ : ∃ W0, W0 = wr := ⟨wr, rfl⟩
      have HCK := Lib.hid hck; clear hck
      go_loopw [6] (fun c wr => ∃ (m : Nat), c = .int .i64 (m : Int) ∧ 1 ≤ m ∧ k + m ≤ n ∧ Hid (∀ j (h : j < l.length), k ≤ j → j < k + m → l[j] = x) ∧ Hid (Below W0.heap.size W0 wr)) (fun c _ => n - (intOf c).toNat)
      case atStart =>
        have hst : ∀ j (h : j < l.length), k ≤ j → j < k + 1 → l[j] = x := fun j h h1 h2 => by
          have e : j = k := by omega
          subst e
          exact HX.out h
        exact ⟨1, rfl, by omega, by omega, hst, Below.refl _ _⟩
      case round =>
        obtain ⟨m, rfl, hm1, hkm, hall, hbw2⟩ := hrel
        obtain ⟨e, he⟩ : ∃ e : Nat, Hid (e = k + m) := ⟨_, rfl⟩
        have HW1 : Hid (wrap64 ((k : Int) + (m : Int)) = (e : Int)) := by have := he.out; have := HL.out; show _ = _; rw [show wrap64 ((k : Int) + (m : Int)) = (k : Int) + (m : Int) from by unfold wrap64; omega]; omega
        have HW2 : Hid (IntKind.i64.wrap ((k : Int) + (m : Int)) = (e : Int)) := by show _ = _; rw [IntKind.wrap_i64]; have := he.out; have := HL.out; omega
        have hbl : b < W0.heap.size := Nat.lt_of_lt_of_le hbw hb.out.size
        have hck := (hbw2.out.cell (p := ⟨b, off + k, none⟩) hbl).trans HCK.out
        by_cases hen : e < n
        · have hen1 : (e : Int) < (n : Int) := by omega
          have hce := HCL.out e (by have := HN.out; omega)
          obtain ⟨c, hcc⟩ : ∃ c : UInt8, l[e]'(by have := HN.out; omega) = c := ⟨_, rfl⟩
          rw [hcc] at hce
          unfold vb at hce
          obtain ⟨ci, hci⟩ : ∃ ci : Int, Hid ((c.toNat : Int) = ci) := ⟨_, rfl⟩
          rw [hci.out] at hce
          replace hce := (hbw2.out.cell (p := ⟨b, off + e, none⟩) hbl).trans hce
          have HCC : Hid (∀ h : e < l.length, l[e] = c) := fun h => hcc
          clear hcc
          by_cases heq : ci = xi
          · have hb1 : (ci == xi) = true := by simp [heq]
            have hcx : c = x := by
              apply UInt8.toNat.inj
              have h1 := hci.out
              have h2 := hxi.out
              omega
            have hall2 : Hid (∀ j (h : j < l.length), k ≤ j → j < k + (m + 1) → l[j] = x) := fun j h h1 h2 => by
              by_cases h3 : j < k + m
              · exact hall.out j h h1 h3
              · obtain rfl : j = e := by have := he.out; omega
                rw [HCC.out h]; exact hcx
            have HE := Lib.hid heq; clear heq hcx
            have HW3 : Hid (wrap64 ((m : Int) + 1) = ((m + 1 : Nat) : Int)) := by have := HL.out; show _ = _; rw [show wrap64 ((m : Int) + 1) = (m : Int) + 1 from by unfold wrap64; omega]; omega
            have hkm2 : Hid (k + (m + 1) ≤ n) := by have := he.out; show _ ≤ _; omega
            have hms : Hid (n - (m + 1) < n - m) := by have := he.out; show _ < _; omega
            have hw1 := HW1.out
            have hw2 := HW3.out
            have hw1' := HW2.out
            go_wp2_with fail
            go_quiet (fail)
            go_wp2
            clear hw1 hw1' 
            go_roundw
            case rel => exact ⟨m + 1, by rw [hw2], Nat.le_add_left _ _, hkm2.out, hall2, below_drewN hbw2.out _⟩
            case measure => rw [hw2]; simp only [intOf, Int.toNat_natCast]; exact hms.out
          · have hcx : c ≠ x := fun h => heq (by rw [← hci.out, ← hxi.out, h])
            have hb1 : (ci == xi) = false := by simpa using heq
            have hkml : k + m ≤ l.length := by have := HN.out; omega
            have HG : Hid (groups (l.drop k) = (m, x) :: groups (l.drop e)) := by
              have h1 := groups_mid l k m x hm1 hkml hall.out (fun h => by
                have h2 := HCC.out (by have := he.out; omega)
                have h3 := he.out
                subst h3
                rw [h2]; exact hcx)
              rw [← he.out] at h1
              exact h1
            clear hkml hcx
            have HEQ := Lib.hid heq; clear heq
            have hrc := HR.out.below hb.out
            have hpq : Hid ((p ++ putN (m : Int) ++ [x ^^^ av]) ++ encG x (groups (l.drop e)) = encG 0 (groups l)) := by
              show _ = _
              rw [← hp.out, HG.out]
              show _ = p ++ (putN (m : Int) ++ (x ^^^ av) :: encG x (groups (l.drop e)))
              simp [List.append_assoc]
            have HMI : Hid (in64 (m : Int)) := by have := HL.out; show in64 _; unfold in64; omega
            have hml := putN_len _ HMI.out
            have HL1 : Hid (p.length + (putN (m : Int)).length ≤ 140737488355328) := by have := hpl.out; show _ ≤ _; omega
            have HL2 : Hid ((p ++ putN (m : Int)).length + [x ^^^ av].length ≤ 140737488355328) := by have := hpl.out; show _ ≤ _; rw [List.length_append]; show p.length + (putN (m : Int)).length + 1 ≤ _; omega
            obtain ⟨z, hz0⟩ : ∃ z : Int, Hid (((x ^^^ av).toNat : Int) = z) := ⟨_, rfl⟩
            have hxor := b8_xor x av
            rw [hz0.out, hxi.out, hav.out] at hxor
            have hke : Hid (e ≤ n) := by have := he.out; show _ ≤ _; omega
            have hms : Hid (n - e < n - k) := by have := he.out; show _ < _; omega
            have hsz0 := hb.out.size
            clear hml hrc
            have HBL := Lib.hid hbl
            clear hbl
            have hw1 := HW1.out
            have hw1' := HW2.out
            go_wp2_with fail
            go_quiet (fail)
            rename_i nq
            go_wp2_with fail
            obtain ⟨W1, hW1⟩ : ∃ W1, wr.drewN nq = W1 := ⟨_, rfl⟩
            rw [hW1]
            have hbw3 : Below W0.heap.size W0 W1 := by rw [← hW1]; exact below_drewN hbw2.out _
            clear hW1
            have hbt : Below w.heap.size w W1.drew := (hb.out.trans (hbw3.mono hsz0)).drew
            have k0 : W1.drew.cell? ⟨b, off + k, none⟩ = some (.int .u8 xi) := (hbw3.cell (p := ⟨b, off + k, none⟩) HBL.out).trans HCK.out
            have HV : Hid (OB W1.drew w.heap.size u3 p) := (ho.out.below hbw3 (Nat.le_refl _)).below (Below.refl _ _).drew (Nat.le_refl _)
            have HLow : Hid (Low u3 W1.heap.size) := (ho.out.below hbw3 (Nat.le_refl _)).low
            have hG : W1.heap.size ≤ W1.drew.heap.size := Nat.le_refl _
            have hs : w.heap.size ≤ W1.drew.heap.size := hbt.size
            have HBW := Lib.hid hbw
            clear hbw3 hck
            refine wp_region_held_drew (S := (fun w' => w'.cell? ⟨b, off + k, none⟩ = some (.int .u8 xi))) (by kernel_rfl) (k0) (fun hHeld => ?_)
            refine held_take (i := 0) (v := ?_) rfl (by kernel_rfl) (by kernel_rfl) (by kernel_rfl) (fun _ _ _ h => h) (by rfl) hHeld ?_ ?_
            rotate_left 1
            · (intro w hSw; (try dsimp only at hSw); go_simp; try (with_reducible rfl))
            try simp only [Act.put, List.setIfInBounds_toArray, List.set_cons_zero, List.set_cons_succ]
            refine held_take (i := 1) (v := ?_) rfl (by kernel_rfl) (by kernel_rfl) (by kernel_rfl) (fun _ _ _ h => h) (by rfl) hHeld ?_ ?_
            rotate_left 1
            · (intro w hSw; (try dsimp only at hSw); go_simp; try (with_reducible rfl))
            try simp only [Act.put, List.setIfInBounds_toArray, List.set_cons_zero, List.set_cons_succ]
            refine held_take (i := 4) (v := ?_) rfl (by kernel_rfl) (by kernel_rfl) (by kernel_rfl) (fun _ _ _ h => h) (by rfl) hHeld ?_ ?_
            rotate_left 1
            · (intro w hSw; (try dsimp only at hSw); go_simp; try (with_reducible rfl))
            try simp only [Act.put, List.setIfInBounds_toArray, List.set_cons_zero, List.set_cons_succ]
            refine held_take (i := 5) (v := ?_) rfl (by kernel_rfl) (by kernel_rfl) (by kernel_rfl) (fun _ _ _ h => h) (by rfl) hHeld ?_ ?_
            rotate_left 1
            · (intro w hSw; (try dsimp only at hSw); go_simp; try (with_reducible rfl))
            try simp only [Act.put, List.setIfInBounds_toArray, List.set_cons_zero, List.set_cons_succ]
            refine held_take (i := 6) (v := ?_) rfl (by kernel_rfl) (by kernel_rfl) (by kernel_rfl) (fun _ _ _ h => h) (by rfl) hHeld ?_ ?_
            rotate_left 1
            · (intro w hSw; (try dsimp only at hSw); go_simp; try (with_reducible rfl))
            try simp only [Act.put, List.setIfInBounds_toArray, List.set_cons_zero, List.set_cons_succ]
            refine held_take (i := 7) (v := ?_) rfl (by kernel_rfl) (by kernel_rfl) (by kernel_rfl) (fun _ _ _ h => h) (by rfl) hHeld ?_ ?_
            rotate_left 1
            · (intro w hSw; (try dsimp only at hSw); go_simp; try (with_reducible rfl))
            try simp only [Act.put, List.setIfInBounds_toArray, List.set_cons_zero, List.set_cons_succ]
            refine held_take (i := 8) (v := ?_) rfl (by kernel_rfl) (by kernel_rfl) (by kernel_rfl) (fun _ _ _ h => h) (by rfl) hHeld ?_ ?_
            rotate_left 1
            · (intro w hSw; (try dsimp only at hSw); go_simp; try (with_reducible rfl))
            try simp only [Act.put, List.setIfInBounds_toArray, List.set_cons_zero, List.set_cons_succ]
            refine held_take (i := 9) (v := ?_) rfl (by kernel_rfl) (by kernel_rfl) (by kernel_rfl) (fun _ _ _ h => h) (by rfl) hHeld ?_ ?_
            rotate_left 1
            · (intro w hSw; (try dsimp only at hSw); go_simp; try (with_reducible rfl))
            try simp only [Act.put, List.setIfInBounds_toArray, List.set_cons_zero, List.set_cons_succ]
            refine held_two (i := 2) (j := 10) rfl rfl (by kernel_rfl) (by rfl) (by rfl) (fun K hK => ?_) (fun K hK => ?_)
            · go_simp
              (with_reducible refine (refput_any _ _ HMI.out).mono ?_)
              rintro e5 w5 ⟨v5, rfl, h5, b5⟩
              obtain ⟨A5, c5, rfl, _, _, _⟩ := h5.form _ rfl
              replace k0 := (b5.cell (p := ⟨b, off + k, none⟩) (Nat.lt_of_lt_of_le HBW.out hs)).trans k0
              replace HV := Lib.hid (HV.out.below b5 (Nat.le_refl _))
              have HA := Lib.hid (h5.less (b' := W1.heap.size) hG)
              replace hbt := hbt.trans (b5.mono hs)
              replace hG := Nat.le_trans hG b5.size
              replace hs := Nat.le_trans hs b5.size
              clear h5 b5
              refine hK.out _ _ (k0) (fun hHeld2 => ?_)
              clear hK K hHeld; have hHeld := hHeld2; clear hHeld2
              try simp only [Act.put, List.setIfInBounds_toArray, List.set_cons_zero, List.set_cons_succ]
              refine held_two (i := 3) (j := 10) rfl rfl (by kernel_rfl) (by rfl) (by rfl) (fun K hK => ?_) (fun K hK => ?_)
              · refine wp_append_bytes (.tmp 32) (.tmp 34) (by rfl) w.heap.size _ p (putN (m : Int)) (by rfl) HV.out _ _ _ (by rfl) HA.out.cells HL1.out hs ?_
                intro v7 w7 o7 g7 e7
                replace k0 := g7.cell k0 (not_row HV.out.ge HBW.out)
                have HV1 := Lib.hid o7
                replace hbt := hbt.grown g7 hs HV.out.ge
                replace hG := Nat.le_trans hG g7.size
                replace hs := Nat.le_trans hs g7.size
                clear o7 g7 e7 HV HA
                refine hK.out _ _ (k0) (fun hHeld2 => ?_)
                clear hK K hHeld; have hHeld := hHeld2; clear hHeld2
                try simp only [Act.put, List.setIfInBounds_toArray, List.set_cons_zero, List.set_cons_succ]
                refine held_one (i := 10) rfl (by kernel_rfl) (by rfl) (fun K hK => ?_)
                refine wp_one (.tmp 41) (by rfl) z (x ^^^ av) (by rfl) hz0.out ?_
                intro w6 h6 b6 s6
                replace k0 := (b6.cell (p := ⟨b, off + k, none⟩) (Nat.lt_of_lt_of_le HBW.out hs)).trans k0
                replace HV1 := Lib.hid (HV1.out.below b6 (Nat.le_refl _))
                have HB := Lib.hid (h6.less (b' := W1.heap.size) hG)
                replace hbt := hbt.trans (b6.mono hs)
                replace hG := Nat.le_trans hG b6.size
                replace hs := Nat.le_trans hs b6.size
                clear h6 b6 s6
                refine hK.out _ _ (k0) (fun hHeld2 => ?_)
                clear hK K hHeld; have hHeld := hHeld2; clear hHeld2
                try simp only [Act.put, List.setIfInBounds_toArray, List.set_cons_zero, List.set_cons_succ]
                refine held_one (i := 11) rfl (by kernel_rfl) (by rfl) (fun K hK => ?_)
                refine wp_append_bytes (.tmp 35) (.tmp 42) (by rfl) w.heap.size _ (p ++ putN (m : Int)) [x ^^^ av] (by rfl) HV1.out _ _ _ (by rfl) HB.out.cells HL2.out hs ?_
                intro v8 w8 o8 g8 e8
                replace k0 := g8.cell k0 (not_row HV1.out.ge HBW.out)
                have HV2 := Lib.hid o8
                replace hbt := hbt.grown g8 hs HV1.out.ge
                replace hG := Nat.le_trans hG g8.size
                replace hs := Nat.le_trans hs g8.size
                clear o8 g8 e8 HV1 HB
                refine hK.out _ _ (k0) (fun hHeld2 => ?_)
                clear hK K hHeld; have hHeld := hHeld2; clear hHeld2
                try simp only [Act.put, List.setIfInBounds_toArray, List.set_cons_zero, List.set_cons_succ]
                refine held_take (i := 12) (v := ?_) rfl (by kernel_rfl) (by kernel_rfl) (by kernel_rfl) (fun _ _ _ h => h) (by rfl) hHeld ?_ ?_
                rotate_left 1
                · (intro w hSw; (try dsimp only at hSw); go_simp; try (with_reducible rfl))
                try simp only [Act.put, List.setIfInBounds_toArray, List.set_cons_zero, List.set_cons_succ]
                refine wpAnyH_done (by kernel_rfl) ?_ _
                skip
                go_wp2_with fail
                clear hw1 hw1'
                have hw1 := HW1.out
                go_wp2
                clear hw1
                have HB3 := Lib.hid hbt
                go_roundw
                case rel => exact ⟨e, x, xi, _, rfl, hke.out, rfl, hxi, hpq.out, HV2.out, HB3.out⟩
                case measure => simp only [intOf, Int.toNat_natCast]; exact hms.out
              · refine wp_one (.tmp 41) (by rfl) z (x ^^^ av) (by rfl) hz0.out ?_
                intro w6 h6 b6 s6
                replace k0 := (b6.cell (p := ⟨b, off + k, none⟩) (Nat.lt_of_lt_of_le HBW.out hs)).trans k0
                replace HV := Lib.hid (HV.out.below b6 (Nat.le_refl _))
                replace HA := Lib.hid (HA.out.below b6 (Nat.le_refl _))
                have HB := Lib.hid (h6.less (b' := W1.heap.size) hG)
                replace hbt := hbt.trans (b6.mono hs)
                replace hG := Nat.le_trans hG b6.size
                replace hs := Nat.le_trans hs b6.size
                clear h6 b6 s6
                refine hK.out _ _ (k0) (fun hHeld2 => ?_)
                clear hK K hHeld; have hHeld := hHeld2; clear hHeld2
                try simp only [Act.put, List.setIfInBounds_toArray, List.set_cons_zero, List.set_cons_succ]
                refine held_one (i := 3) rfl (by kernel_rfl) (by rfl) (fun K hK => ?_)
                refine wp_append_bytes (.tmp 32) (.tmp 34) (by rfl) w.heap.size _ p (putN (m : Int)) (by rfl) HV.out _ _ _ (by rfl) HA.out.cells HL1.out hs ?_
                intro v7 w7 o7 g7 e7
                replace k0 := g7.cell k0 (not_row HV.out.ge HBW.out)
                replace HB := Lib.hid (HB.out.apart (Nat.le_refl _) HLow.out g7)
                have HV1 := Lib.hid o7
                replace hbt := hbt.grown g7 hs HV.out.ge
                replace hG := Nat.le_trans hG g7.size
                replace hs := Nat.le_trans hs g7.size
                clear o7 g7 e7 HV HA
                refine hK.out _ _ (k0) (fun hHeld2 => ?_)
                clear hK K hHeld; have hHeld := hHeld2; clear hHeld2
                try simp only [Act.put, List.setIfInBounds_toArray, List.set_cons_zero, List.set_cons_succ]
                refine held_one (i := 11) rfl (by kernel_rfl) (by rfl) (fun K hK => ?_)
                refine wp_append_bytes (.tmp 35) (.tmp 42) (by rfl) w.heap.size _ (p ++ putN (m : Int)) [x ^^^ av] (by rfl) HV1.out _ _ _ (by rfl) HB.out.cells HL2.out hs ?_
                intro v8 w8 o8 g8 e8
                replace k0 := g8.cell k0 (not_row HV1.out.ge HBW.out)
                have HV2 := Lib.hid o8
                replace hbt := hbt.grown g8 hs HV1.out.ge
                replace hG := Nat.le_trans hG g8.size
                replace hs := Nat.le_trans hs g8.size
                clear o8 g8 e8 HV1 HB
                refine hK.out _ _ (k0) (fun hHeld2 => ?_)
                clear hK K hHeld; have hHeld := hHeld2; clear hHeld2
                try simp only [Act.put, List.setIfInBounds_toArray, List.set_cons_zero, List.set_cons_succ]
                refine held_take (i := 12) (v := ?_) rfl (by kernel_rfl) (by kernel_rfl) (by kernel_rfl) (fun _ _ _ h => h) (by rfl) hHeld ?_ ?_
                rotate_left 1
                · (intro w hSw; (try dsimp only at hSw); go_simp; try (with_reducible rfl))
                try simp only [Act.put, List.setIfInBounds_toArray, List.set_cons_zero, List.set_cons_succ]
                refine wpAnyH_done (by kernel_rfl) ?_ _
                skip
                go_wp2_with fail
                clear hw1 hw1'
                have hw1 := HW1.out
                go_wp2
                clear hw1
                have HB3 := Lib.hid hbt
                go_roundw
                case rel => exact ⟨e, x, xi, _, rfl, hke.out, rfl, hxi, hpq.out, HV2.out, HB3.out⟩
                case measure => simp only [intOf, Int.toNat_natCast]; exact hms.out
            · refine wp_one (.tmp 41) (by rfl) z (x ^^^ av) (by rfl) hz0.out ?_
              intro w6 h6 b6 s6
              replace k0 := (b6.cell (p := ⟨b, off + k, none⟩) (Nat.lt_of_lt_of_le HBW.out hs)).trans k0
              replace HV := Lib.hid (HV.out.below b6 (Nat.le_refl _))
              have HB := Lib.hid (h6.less (b' := W1.heap.size) hG)
              replace hbt := hbt.trans (b6.mono hs)
              replace hG := Nat.le_trans hG b6.size
              replace hs := Nat.le_trans hs b6.size
              clear h6 b6 s6
              refine hK.out _ _ (k0) (fun hHeld2 => ?_)
              clear hK K hHeld; have hHeld := hHeld2; clear hHeld2
              try simp only [Act.put, List.setIfInBounds_toArray, List.set_cons_zero, List.set_cons_succ]
              refine held_one (i := 2) rfl (by kernel_rfl) (by rfl) (fun K hK => ?_)
              go_simp
              (with_reducible refine (refput_any _ _ HMI.out).mono ?_)
              rintro e5 w5 ⟨v5, rfl, h5, b5⟩
              obtain ⟨A5, c5, rfl, _, _, _⟩ := h5.form _ rfl
              replace k0 := (b5.cell (p := ⟨b, off + k, none⟩) (Nat.lt_of_lt_of_le HBW.out hs)).trans k0
              replace HV := Lib.hid (HV.out.below b5 (Nat.le_refl _))
              replace HB := Lib.hid (HB.out.below b5 (Nat.le_refl _))
              have HA := Lib.hid (h5.less (b' := W1.heap.size) hG)
              replace hbt := hbt.trans (b5.mono hs)
              replace hG := Nat.le_trans hG b5.size
              replace hs := Nat.le_trans hs b5.size
              clear h5 b5
              refine hK.out _ _ (k0) (fun hHeld2 => ?_)
              clear hK K hHeld; have hHeld := hHeld2; clear hHeld2
              try simp only [Act.put, List.setIfInBounds_toArray, List.set_cons_zero, List.set_cons_succ]
              refine held_one (i := 3) rfl (by kernel_rfl) (by rfl) (fun K hK => ?_)
              refine wp_append_bytes (.tmp 32) (.tmp 34) (by rfl) w.heap.size _ p (putN (m : Int)) (by rfl) HV.out _ _ _ (by rfl) HA.out.cells HL1.out hs ?_
              intro v7 w7 o7 g7 e7
              replace k0 := g7.cell k0 (not_row HV.out.ge HBW.out)
              replace HB := Lib.hid (HB.out.apart (Nat.le_refl _) HLow.out g7)
              have HV1 := Lib.hid o7
              replace hbt := hbt.grown g7 hs HV.out.ge
              replace hG := Nat.le_trans hG g7.size
              replace hs := Nat.le_trans hs g7.size
              clear o7 g7 e7 HV HA
              refine hK.out _ _ (k0) (fun hHeld2 => ?_)
              clear hK K hHeld; have hHeld := hHeld2; clear hHeld2
              try simp only [Act.put, List.setIfInBounds_toArray, List.set_cons_zero, List.set_cons_succ]
              refine held_one (i := 11) rfl (by kernel_rfl) (by rfl) (fun K hK => ?_)
              refine wp_append_bytes (.tmp 35) (.tmp 42) (by rfl) w.heap.size _ (p ++ putN (m : Int)) [x ^^^ av] (by rfl) HV1.out _ _ _ (by rfl) HB.out.cells HL2.out hs ?_
              intro v8 w8 o8 g8 e8
              replace k0 := g8.cell k0 (not_row HV1.out.ge HBW.out)
              have HV2 := Lib.hid o8
              replace hbt := hbt.grown g8 hs HV1.out.ge
              replace hG := Nat.le_trans hG g8.size
              replace hs := Nat.le_trans hs g8.size
              clear o8 g8 e8 HV1 HB
              refine hK.out _ _ (k0) (fun hHeld2 => ?_)
              clear hK K hHeld; have hHeld := hHeld2; clear hHeld2
              try simp only [Act.put, List.setIfInBounds_toArray, List.set_cons_zero, List.set_cons_succ]
              refine held_take (i := 12) (v := ?_) rfl (by kernel_rfl) (by kernel_rfl) (by kernel_rfl) (fun _ _ _ h => h) (by rfl) hHeld ?_ ?_
              rotate_left 1
              · (intro w hSw; (try dsimp only at hSw); go_simp; try (with_reducible rfl))
              try simp only [Act.put, List.setIfInBounds_toArray, List.set_cons_zero, List.set_cons_succ]
              refine wpAnyH_done (by kernel_rfl) ?_ _
              skip
              go_wp2_with fail
              clear hw1 hw1'
              have hw1 := HW1.out
              go_wp2
              clear hw1
              have HB3 := Lib.hid hbt
              go_roundw
              case rel => exact ⟨e, x, xi, _, rfl, hke.out, rfl, hxi, hpq.out, HV2.out, HB3.out⟩
              case measure => simp only [intOf, Int.toNat_natCast]; exact hms.out
        · have hen1 : e = n := by have := he.out; omega
          subst hen1
          have hkml : k + m ≤ l.length := by have := HN.out; omega
          have HG : Hid (groups (l.drop k) = (m, x) :: groups (l.drop e)) := by
            have h1 := groups_mid l k m x hm1 hkml hall.out (fun h => absurd h (by have := HN.out; have := he.out; omega))
            rw [← he.out] at h1
            exact h1
          clear hkml
          have hrc := HR.out.below hb.out
          have hpq : Hid ((p ++ putN (m : Int) ++ [x ^^^ av]) ++ encG x (groups (l.drop e)) = encG 0 (groups l)) := by
            show _ = _
            rw [← hp.out, HG.out]
            show _ = p ++ (putN (m : Int) ++ (x ^^^ av) :: encG x (groups (l.drop e)))
            simp [List.append_assoc]
          have HMI : Hid (in64 (m : Int)) := by have := HL.out; show in64 _; unfold in64; omega
          have hml := putN_len _ HMI.out
          have HL1 : Hid (p.length + (putN (m : Int)).length ≤ 140737488355328) := by have := hpl.out; show _ ≤ _; omega
          have HL2 : Hid ((p ++ putN (m : Int)).length + [x ^^^ av].length ≤ 140737488355328) := by have := hpl.out; show _ ≤ _; rw [List.length_append]; show p.length + (putN (m : Int)).length + 1 ≤ _; omega
          obtain ⟨z, hz0⟩ : ∃ z : Int, Hid (((x ^^^ av).toNat : Int) = z) := ⟨_, rfl⟩
          have hxor := b8_xor x av
          rw [hz0.out, hxi.out, hav.out] at hxor
          have hke : Hid (e ≤ e) := by have := he.out; show _ ≤ _; omega
          have hms : Hid (e - e < e - k) := by have := he.out; show _ < _; omega
          have hsz0 := hb.out.size
          clear hml hrc
          have HBL := Lib.hid hbl
          clear hbl
          have hw1 := HW1.out
          have hw1' := HW2.out
          go_wp2_with fail
          go_region
          go_wp2_with fail
          obtain ⟨W1, hW1⟩ : ∃ W1, wr.drew = W1 := ⟨_, rfl⟩
          rw [hW1]
          have hbw3 : Below W0.heap.size W0 W1 := by rw [← hW1]; exact hbw2.out.drew
          clear hW1
          have hbt : Below w.heap.size w W1.drew := (hb.out.trans (hbw3.mono hsz0)).drew
          have k0 : W1.drew.cell? ⟨b, off + k, none⟩ = some (.int .u8 xi) := (hbw3.cell (p := ⟨b, off + k, none⟩) HBL.out).trans HCK.out
          have HV : Hid (OB W1.drew w.heap.size u3 p) := (ho.out.below hbw3 (Nat.le_refl _)).below (Below.refl _ _).drew (Nat.le_refl _)
          have HLow : Hid (Low u3 W1.heap.size) := (ho.out.below hbw3 (Nat.le_refl _)).low
          have hG : W1.heap.size ≤ W1.drew.heap.size := Nat.le_refl _
          have hs : w.heap.size ≤ W1.drew.heap.size := hbt.size
          have HBW := Lib.hid hbw
          clear hbw3 hck
          refine wp_region_held_drew (S := (fun w' => w'.cell? ⟨b, off + k, none⟩ = some (.int .u8 xi))) (by kernel_rfl) (k0) (fun hHeld => ?_)
          refine held_take (i := 0) (v := ?_) rfl (by kernel_rfl) (by kernel_rfl) (by kernel_rfl) (fun _ _ _ h => h) (by rfl) hHeld ?_ ?_
          rotate_left 1
          · (intro w hSw; (try dsimp only at hSw); go_simp; try (with_reducible rfl))
          try simp only [Act.put, List.setIfInBounds_toArray, List.set_cons_zero, List.set_cons_succ]
          refine held_take (i := 1) (v := ?_) rfl (by kernel_rfl) (by kernel_rfl) (by kernel_rfl) (fun _ _ _ h => h) (by rfl) hHeld ?_ ?_
          rotate_left 1
          · (intro w hSw; (try dsimp only at hSw); go_simp; try (with_reducible rfl))
          try simp only [Act.put, List.setIfInBounds_toArray, List.set_cons_zero, List.set_cons_succ]
          refine held_take (i := 4) (v := ?_) rfl (by kernel_rfl) (by kernel_rfl) (by kernel_rfl) (fun _ _ _ h => h) (by rfl) hHeld ?_ ?_
          rotate_left 1
          · (intro w hSw; (try dsimp only at hSw); go_simp; try (with_reducible rfl))
          try simp only [Act.put, List.setIfInBounds_toArray, List.set_cons_zero, List.set_cons_succ]
          refine held_take (i := 5) (v := ?_) rfl (by kernel_rfl) (by kernel_rfl) (by kernel_rfl) (fun _ _ _ h => h) (by rfl) hHeld ?_ ?_
          rotate_left 1
          · (intro w hSw; (try dsimp only at hSw); go_simp; try (with_reducible rfl))
          try simp only [Act.put, List.setIfInBounds_toArray, List.set_cons_zero, List.set_cons_succ]
          refine held_take (i := 6) (v := ?_) rfl (by kernel_rfl) (by kernel_rfl) (by kernel_rfl) (fun _ _ _ h => h) (by rfl) hHeld ?_ ?_
          rotate_left 1
          · (intro w hSw; (try dsimp only at hSw); go_simp; try (with_reducible rfl))
          try simp only [Act.put, List.setIfInBounds_toArray, List.set_cons_zero, List.set_cons_succ]
          refine held_take (i := 7) (v := ?_) rfl (by kernel_rfl) (by kernel_rfl) (by kernel_rfl) (fun _ _ _ h => h) (by rfl) hHeld ?_ ?_
          rotate_left 1
          · (intro w hSw; (try dsimp only at hSw); go_simp; try (with_reducible rfl))
          try simp only [Act.put, List.setIfInBounds_toArray, List.set_cons_zero, List.set_cons_succ]
          refine held_take (i := 8) (v := ?_) rfl (by kernel_rfl) (by kernel_rfl) (by kernel_rfl) (fun _ _ _ h => h) (by rfl) hHeld ?_ ?_
          rotate_left 1
          · (intro w hSw; (try dsimp only at hSw); go_simp; try (with_reducible rfl))
          try simp only [Act.put, List.setIfInBounds_toArray, List.set_cons_zero, List.set_cons_succ]
          refine held_take (i := 9) (v := ?_) rfl (by kernel_rfl) (by kernel_rfl) (by kernel_rfl) (fun _ _ _ h => h) (by rfl) hHeld ?_ ?_
          rotate_left 1
          · (intro w hSw; (try dsimp only at hSw); go_simp; try (with_reducible rfl))
          try simp only [Act.put, List.setIfInBounds_toArray, List.set_cons_zero, List.set_cons_succ]
          refine held_two (i := 2) (j := 10) rfl rfl (by kernel_rfl) (by rfl) (by rfl) (fun K hK => ?_) (fun K hK => ?_)
          · go_simp
            (with_reducible refine (refput_any _ _ HMI.out).mono ?_)
            rintro e5 w5 ⟨v5, rfl, h5, b5⟩
            obtain ⟨A5, c5, rfl, _, _, _⟩ := h5.form _ rfl
            replace k0 := (b5.cell (p := ⟨b, off + k, none⟩) (Nat.lt_of_lt_of_le HBW.out hs)).trans k0
            replace HV := Lib.hid (HV.out.below b5 (Nat.le_refl _))
            have HA := Lib.hid (h5.less (b' := W1.heap.size) hG)
            replace hbt := hbt.trans (b5.mono hs)
            replace hG := Nat.le_trans hG b5.size
            replace hs := Nat.le_trans hs b5.size
            clear h5 b5
            refine hK.out _ _ (k0) (fun hHeld2 => ?_)
            clear hK K hHeld; have hHeld := hHeld2; clear hHeld2
            try simp only [Act.put, List.setIfInBounds_toArray, List.set_cons_zero, List.set_cons_succ]
            refine held_two (i := 3) (j := 10) rfl rfl (by kernel_rfl) (by rfl) (by rfl) (fun K hK => ?_) (fun K hK => ?_)
            · refine wp_append_bytes (.tmp 32) (.tmp 34) (by rfl) w.heap.size _ p (putN (m : Int)) (by rfl) HV.out _ _ _ (by rfl) HA.out.cells HL1.out hs ?_
              intro v7 w7 o7 g7 e7
              replace k0 := g7.cell k0 (not_row HV.out.ge HBW.out)
              have HV1 := Lib.hid o7
              replace hbt := hbt.grown g7 hs HV.out.ge
              replace hG := Nat.le_trans hG g7.size
              replace hs := Nat.le_trans hs g7.size
              clear o7 g7 e7 HV HA
              refine hK.out _ _ (k0) (fun hHeld2 => ?_)
              clear hK K hHeld; have hHeld := hHeld2; clear hHeld2
              try simp only [Act.put, List.setIfInBounds_toArray, List.set_cons_zero, List.set_cons_succ]
              refine held_one (i := 10) rfl (by kernel_rfl) (by rfl) (fun K hK => ?_)
              refine wp_one (.tmp 41) (by rfl) z (x ^^^ av) (by rfl) hz0.out ?_
              intro w6 h6 b6 s6
              replace k0 := (b6.cell (p := ⟨b, off + k, none⟩) (Nat.lt_of_lt_of_le HBW.out hs)).trans k0
              replace HV1 := Lib.hid (HV1.out.below b6 (Nat.le_refl _))
              have HB := Lib.hid (h6.less (b' := W1.heap.size) hG)
              replace hbt := hbt.trans (b6.mono hs)
              replace hG := Nat.le_trans hG b6.size
              replace hs := Nat.le_trans hs b6.size
              clear h6 b6 s6
              refine hK.out _ _ (k0) (fun hHeld2 => ?_)
              clear hK K hHeld; have hHeld := hHeld2; clear hHeld2
              try simp only [Act.put, List.setIfInBounds_toArray, List.set_cons_zero, List.set_cons_succ]
              refine held_one (i := 11) rfl (by kernel_rfl) (by rfl) (fun K hK => ?_)
              refine wp_append_bytes (.tmp 35) (.tmp 42) (by rfl) w.heap.size _ (p ++ putN (m : Int)) [x ^^^ av] (by rfl) HV1.out _ _ _ (by rfl) HB.out.cells HL2.out hs ?_
              intro v8 w8 o8 g8 e8
              replace k0 := g8.cell k0 (not_row HV1.out.ge HBW.out)
              have HV2 := Lib.hid o8
              replace hbt := hbt.grown g8 hs HV1.out.ge
              replace hG := Nat.le_trans hG g8.size
              replace hs := Nat.le_trans hs g8.size
              clear o8 g8 e8 HV1 HB
              refine hK.out _ _ (k0) (fun hHeld2 => ?_)
              clear hK K hHeld; have hHeld := hHeld2; clear hHeld2
              try simp only [Act.put, List.setIfInBounds_toArray, List.set_cons_zero, List.set_cons_succ]
              refine held_take (i := 12) (v := ?_) rfl (by kernel_rfl) (by kernel_rfl) (by kernel_rfl) (fun _ _ _ h => h) (by rfl) hHeld ?_ ?_
              rotate_left 1
              · (intro w hSw; (try dsimp only at hSw); go_simp; try (with_reducible rfl))
              try simp only [Act.put, List.setIfInBounds_toArray, List.set_cons_zero, List.set_cons_succ]
              refine wpAnyH_done (by kernel_rfl) ?_ _
              skip
              go_wp2_with fail
              clear hw1 hw1'
              have hw1 := HW1.out
              go_wp2
              clear hw1
              have HB3 := Lib.hid hbt
              go_roundw
              case rel => exact ⟨e, x, xi, _, rfl, hke.out, rfl, hxi, hpq.out, HV2.out, HB3.out⟩
              case measure => simp only [intOf, Int.toNat_natCast]; exact hms.out
            · refine wp_one (.tmp 41) (by rfl) z (x ^^^ av) (by rfl) hz0.out ?_
              intro w6 h6 b6 s6
              replace k0 := (b6.cell (p := ⟨b, off + k, none⟩) (Nat.lt_of_lt_of_le HBW.out hs)).trans k0
              replace HV := Lib.hid (HV.out.below b6 (Nat.le_refl _))
              replace HA := Lib.hid (HA.out.below b6 (Nat.le_refl _))
              have HB := Lib.hid (h6.less (b' := W1.heap.size) hG)
              replace hbt := hbt.trans (b6.mono hs)
              replace hG := Nat.le_trans hG b6.size
              replace hs := Nat.le_trans hs b6.size
              clear h6 b6 s6
              refine hK.out _ _ (k0) (fun hHeld2 => ?_)
              clear hK K hHeld; have hHeld := hHeld2; clear hHeld2
              try simp only [Act.put, List.setIfInBounds_toArray, List.set_cons_zero, List.set_cons_succ]
              refine held_one (i := 3) rfl (by kernel_rfl) (by rfl) (fun K hK => ?_)
              refine wp_append_bytes (.tmp 32) (.tmp 34) (by rfl) w.heap.size _ p (putN (m : Int)) (by rfl) HV.out _ _ _ (by rfl) HA.out.cells HL1.out hs ?_
              intro v7 w7 o7 g7 e7
              replace k0 := g7.cell k0 (not_row HV.out.ge HBW.out)
              replace HB := Lib.hid (HB.out.apart (Nat.le_refl _) HLow.out g7)
              have HV1 := Lib.hid o7
              replace hbt := hbt.grown g7 hs HV.out.ge
              replace hG := Nat.le_trans hG g7.size
              replace hs := Nat.le_trans hs g7.size
              clear o7 g7 e7 HV HA
              refine hK.out _ _ (k0) (fun hHeld2 => ?_)
              clear hK K hHeld; have hHeld := hHeld2; clear hHeld2
              try simp only [Act.put, List.setIfInBounds_toArray, List.set_cons_zero, List.set_cons_succ]
              refine held_one (i := 11) rfl (by kernel_rfl) (by rfl) (fun K hK => ?_)
              refine wp_append_bytes (.tmp 35) (.tmp 42) (by rfl) w.heap.size _ (p ++ putN (m : Int)) [x ^^^ av] (by rfl) HV1.out _ _ _ (by rfl) HB.out.cells HL2.out hs ?_
              intro v8 w8 o8 g8 e8
              replace k0 := g8.cell k0 (not_row HV1.out.ge HBW.out)
              have HV2 := Lib.hid o8
              replace hbt := hbt.grown g8 hs HV1.out.ge
              replace hG := Nat.le_trans hG g8.size
              replace hs := Nat.le_trans hs g8.size
              clear o8 g8 e8 HV1 HB
              refine hK.out _ _ (k0) (fun hHeld2 => ?_)
              clear hK K hHeld; have hHeld := hHeld2; clear hHeld2
              try simp only [Act.put, List.setIfInBounds_toArray, List.set_cons_zero, List.set_cons_succ]
              refine held_take (i := 12) (v := ?_) rfl (by kernel_rfl) (by kernel_rfl) (by kernel_rfl) (fun _ _ _ h => h) (by rfl) hHeld ?_ ?_
              rotate_left 1
              · (intro w hSw; (try dsimp only at hSw); go_simp; try (with_reducible rfl))
              try simp only [Act.put, List.setIfInBounds_toArray, List.set_cons_zero, List.set_cons_succ]
              refine wpAnyH_done (by kernel_rfl) ?_ _
              skip
              go_wp2_with fail
              clear hw1 hw1'
              have hw1 := HW1.out
              go_wp2
              clear hw1
              have HB3 := Lib.hid hbt
              go_roundw
              case rel => exact ⟨e, x, xi, _, rfl, hke.out, rfl, hxi, hpq.out, HV2.out, HB3.out⟩
              case measure => simp only [intOf, Int.toNat_natCast]; exact hms.out
          · refine wp_one (.tmp 41) (by rfl) z (x ^^^ av) (by rfl) hz0.out ?_
            intro w6 h6 b6 s6
            replace k0 := (b6.cell (p := ⟨b, off + k, none⟩) (Nat.lt_of_lt_of_le HBW.out hs)).trans k0
            replace HV := Lib.hid (HV.out.below b6 (Nat.le_refl _))
            have HB := Lib.hid (h6.less (b' := W1.heap.size) hG)
            replace hbt := hbt.trans (b6.mono hs)
            replace hG := Nat.le_trans hG b6.size
            replace hs := Nat.le_trans hs b6.size
            clear h6 b6 s6
            refine hK.out _ _ (k0) (fun hHeld2 => ?_)
            clear hK K hHeld; have hHeld := hHeld2; clear hHeld2
            try simp only [Act.put, List.setIfInBounds_toArray, List.set_cons_zero, List.set_cons_succ]
            refine held_one (i := 2) rfl (by kernel_rfl) (by rfl) (fun K hK => ?_)
            go_simp
            (with_reducible refine (refput_any _ _ HMI.out).mono ?_)
            rintro e5 w5 ⟨v5, rfl, h5, b5⟩
            obtain ⟨A5, c5, rfl, _, _, _⟩ := h5.form _ rfl
            replace k0 := (b5.cell (p := ⟨b, off + k, none⟩) (Nat.lt_of_lt_of_le HBW.out hs)).trans k0
            replace HV := Lib.hid (HV.out.below b5 (Nat.le_refl _))
            replace HB := Lib.hid (HB.out.below b5 (Nat.le_refl _))
            have HA := Lib.hid (h5.less (b' := W1.heap.size) hG)
            replace hbt := hbt.trans (b5.mono hs)
            replace hG := Nat.le_trans hG b5.size
            replace hs := Nat.le_trans hs b5.size
            clear h5 b5
            refine hK.out _ _ (k0) (fun hHeld2 => ?_)
            clear hK K hHeld; have hHeld := hHeld2; clear hHeld2
            try simp only [Act.put, List.setIfInBounds_toArray, List.set_cons_zero, List.set_cons_succ]
            refine held_one (i := 3) rfl (by kernel_rfl) (by rfl) (fun K hK => ?_)
            refine wp_append_bytes (.tmp 32) (.tmp 34) (by rfl) w.heap.size _ p (putN (m : Int)) (by rfl) HV.out _ _ _ (by rfl) HA.out.cells HL1.out hs ?_
            intro v7 w7 o7 g7 e7
            replace k0 := g7.cell k0 (not_row HV.out.ge HBW.out)
            replace HB := Lib.hid (HB.out.apart (Nat.le_refl _) HLow.out g7)
            have HV1 := Lib.hid o7
            replace hbt := hbt.grown g7 hs HV.out.ge
            replace hG := Nat.le_trans hG g7.size
            replace hs := Nat.le_trans hs g7.size
            clear o7 g7 e7 HV HA
            refine hK.out _ _ (k0) (fun hHeld2 => ?_)
            clear hK K hHeld; have hHeld := hHeld2; clear hHeld2
            try simp only [Act.put, List.setIfInBounds_toArray, List.set_cons_zero, List.set_cons_succ]
            refine held_one (i := 11) rfl (by kernel_rfl) (by rfl) (fun K hK => ?_)
            refine wp_append_bytes (.tmp 35) (.tmp 42) (by rfl) w.heap.size _ (p ++ putN (m : Int)) [x ^^^ av] (by rfl) HV1.out _ _ _ (by rfl) HB.out.cells HL2.out hs ?_
            intro v8 w8 o8 g8 e8
            replace k0 := g8.cell k0 (not_row HV1.out.ge HBW.out)
            have HV2 := Lib.hid o8
            replace hbt := hbt.grown g8 hs HV1.out.ge
            replace hG := Nat.le_trans hG g8.size
            replace hs := Nat.le_trans hs g8.size
            clear o8 g8 e8 HV1 HB
            refine hK.out _ _ (k0) (fun hHeld2 => ?_)
            clear hK K hHeld; have hHeld := hHeld2; clear hHeld2
            try simp only [Act.put, List.setIfInBounds_toArray, List.set_cons_zero, List.set_cons_succ]
            refine held_take (i := 12) (v := ?_) rfl (by kernel_rfl) (by kernel_rfl) (by kernel_rfl) (fun _ _ _ h => h) (by rfl) hHeld ?_ ?_
            rotate_left 1
            · (intro w hSw; (try dsimp only at hSw); go_simp; try (with_reducible rfl))
            try simp only [Act.put, List.setIfInBounds_toArray, List.set_cons_zero, List.set_cons_succ]
            refine wpAnyH_done (by kernel_rfl) ?_ _
            skip
            go_wp2_with fail
            clear hw1 hw1'
            have hw1 := HW1.out
            go_wp2
            clear hw1
            have HB3 := Lib.hid hbt
            go_roundw
            case rel => exact ⟨e, x, xi, _, rfl, hke.out, rfl, hxi, hpq.out, HV2.out, HB3.out⟩
            case measure => simp only [intOf, Int.toNat_natCast]; exact hms.out
    · have hkn : k = n := by omega
      have hfin := hp.out
      rw [hkn, ← HN.out, List.drop_length] at hfin
      have hfin : p = encG 0 (groups l) := by rw [← hfin]; show p = p ++ []; rw [List.append_nil]
      have HF := Lib.hid hfin
      clear hfin
      subst hkn
      go_wp2
      go_ret
      exact ⟨_, rfl, by rw [← HF.out]; exact ho.out, hb.out⟩
end Go.Proofs.YtclgcfofgiejgaaDoor
