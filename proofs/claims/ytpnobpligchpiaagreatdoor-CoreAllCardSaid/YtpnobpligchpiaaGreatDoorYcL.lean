/- texts of YcL -/
import Derived.Great.BuildSlice
import Derived.Laws.BytesString
import Derived.Test.YtpnobpligchpiaaGreatDoorYcJ
import Derived.Test.YtpnobpligchpiaaGreatDoorYcK
import Derived.Test.YtpnobpligchpiaaGreatDoorYcO
namespace Go.Proofs.YtpnobpligchpiaaGreatDoor
set_option maxRecDepth 100000
open Go.RowKit
set_option linter.unusedVariables false
set_option maxHeartbeats 2000000 in
theorem first_any (b off : Nat) (l : List UInt8) (n cap B : Nat) (w : World) (x : UInt8) (hr : RB w B (some ⟨b, off, none⟩) l) (hn : l.length = n) (h0 : 0 < n) (hx : ∀ h : 0 < l.length, l[0] = x) (hc : n ≤ cap) (hm : cap ≤ maxLen) :
    Calls Tryz.prog 188 #[.slice (some ⟨b, off, none⟩) n cap] w fun e w' => (∃ k : Nat, e = .returned (.int .i64 (k : Int)) ∧ 0 < k ∧ k ≤ n ∧ groups l = (k, x) :: groups (l.drop k)) ∧ w = w' := by
  unfold maxLen at hm
  have hcell : ∀ j (h : j < l.length), w.cell? ⟨b, off + j, none⟩ = some (vb l[j]) := fun j h => by
    obtain ⟨b', off', e, _, hc'⟩ := hr (by omega)
    have e := Option.some.inj e
    injection e with e1 e2
    subst e1 e2
    exact hc' j h
  have HCL := Lib.hid hcell
  have hc0 := hcell 0 (by omega)
  rw [hx (by omega), Nat.add_zero] at hc0
  unfold vb at hc0
  obtain ⟨xi, hxi⟩ : ∃ xi : Int, Hid ((x.toNat : Int) = xi) := ⟨_, rfl⟩
  rw [hxi.out] at hc0
  have HX := Lib.hid hx
  have HN := Lib.hid hn
  clear hcell hr hx hn
  go_enter Tryz.func188, Tryz.ntmps188
  go_wp2
  go_loop [7] (fun i => ∃ (k : Nat), i = .int .i64 (k : Int) ∧ k ≤ n ∧ Hid (∀ j (h : j < l.length), j < k → l[j] = x)) (fun i => n - (intOf i).toNat)
  case atStart => exact ⟨0, rfl, by omega, fun j h h2 => absurd h2 (by omega)⟩
  case round =>
    obtain ⟨k, rfl, hk, hj⟩ := hrel
    by_cases hlt : k < n
    · have hlt' : k < l.length := by have := HN.out; omega
      have hck := HCL.out k hlt'
      obtain ⟨c, hcc⟩ : ∃ c : UInt8, l[k] = c := ⟨_, rfl⟩
      rw [hcc] at hck
      unfold vb at hck
      obtain ⟨m, hmm⟩ : ∃ m : Int, Hid ((c.toNat : Int) = m) := ⟨_, rfl⟩
      rw [hmm.out] at hck
      have HCC := Lib.hid hcc; clear hcc
      by_cases he : m = xi
      · have hb1 : (m == xi) = true := by simp [he]
        have hcx : c = x := by
          apply UInt8.toNat.inj
          have h1 := hmm.out
          have h2 := hxi.out
          omega
        have hj2 : Hid (∀ j (h : j < l.length), j < k + 1 → l[j] = x) := fun j h h2 => by
          by_cases h3 : j = k
          · subst h3; rw [HCC.out]; exact hcx
          · exact hj.out j h (by omega)
        have HE := Lib.hid he; clear he hcx
        go_wp2
        go_round
        case rel => exact ⟨k + 1, by go_num, by omega, hj2⟩
        case measure => simp [intOf]; omega
      · have hb1 : (m == xi) = false := by simpa using he
        have hcx : c ≠ x := fun e => he (by rw [← hmm.out, ← hxi.out, e])
        have hk0 : 0 < k := by
          rcases Nat.eq_zero_or_pos k with h | h
          · subst h; exact absurd (HCC.out.symm.trans (HX.out _)) hcx
          · exact h
        have hg := groups_at l k x hk0 (by have := HN.out; omega) hj.out (fun h => by rw [HCC.out]; exact hcx)
        have HG := Lib.hid hg; have HE := Lib.hid he; clear hg he hcx
        go_wp2
        go_ret
        exact ⟨⟨k, rfl, hk0, by omega, HG.out⟩, rfl⟩
    · obtain rfl : k = n := by omega
      have hg := groups_at l k x h0 (by have := HN.out; omega) hj.out (fun h => absurd h (by have := HN.out; omega))
      have HG := Lib.hid hg; clear hg
      go_wp2
      go_ret
      exact ⟨⟨k, rfl, h0, Nat.le_refl _, HG.out⟩, rfl⟩
theorem put_nil (n : Int) (w : World) (hn : in64 n) :
    Calls Tryz.prog 147 #[.slice none 0 0, .int .i64 n] w fun e w' => ∃ v, e = .returned v ∧ OB w' w.heap.size v (putN n) ∧ Below w.heap.size w w' :=
  put_any none [] 0 0 n w (RB.nil _ _ _) (Nat.zero_le _) hn (by simp)
def lenV : Value → Nat
  | .slice _ n _ => n
  | _ => 0
set_option maxHeartbeats 4000000 in
theorem encode_any (A : Option Addr) (l : List UInt8) (n cap B : Nat) (w : World) (hr : RB w w.heap.size A l) (hn : l.length = n) (hc : n ≤ cap) (hm : cap ≤ maxLen) (hl : n ≤ 8192) :
    Calls Tryz.prog 173 #[.slice A n cap] w fun e w' => ∃ v, e = .returned v ∧ OB w' w.heap.size v (encG 0 (groups l)) ∧ Below w.heap.size w w' := by
  have HR := Lib.hid hr; have HM := Lib.hid hm; have HN := Lib.hid hn; have HL := Lib.hid hl
  clear hr hm hn hl
  go_enter Tryz.func173, Tryz.ntmps173
  go_wp2
  go_loopw [0, 3, 4] (fun b0 out a wr => ∃ (A : Option Addr) (r : List UInt8) (m cap : Nat) (av : UInt8) (ai : Int) (p : List UInt8), b0 = .slice A m cap ∧ Hid (r.length = m) ∧ m ≤ cap ∧ Hid (cap ≤ maxLen) ∧ Hid (m ≤ 8192) ∧ a = .int .u8 ai ∧ Hid ((av.toNat : Int) = ai) ∧ Hid (p ++ encG av (groups r) = encG 0 (groups l)) ∧ Hid (RB wr w.heap.size A r) ∧ Hid (OB wr w.heap.size out p) ∧ Hid (Below w.heap.size w wr)) (fun b0 _ _ _ => lenV b0)
  case atStart => exact ⟨A, l, n, cap, 0, 0, [], rfl, HN, hc, HM, HL, rfl, rfl, by simp [Hid], HR, OB.nil _ _, Below.refl _ _⟩
  case round =>
    obtain ⟨A, r, m, cap, av, ai, p, rfl, hrm, hmc, hcm, hm4, rfl, hav, hp, hrb, ho, hb⟩ := hrel
    have hpl : Hid (p.length ≤ 90112) := by
      have h1 := encG_groups_len l (by rw [HN.out]; exact HL.out) 0
      rw [← hp.out, List.length_append] at h1
      show _ ≤ _
      omega
    by_cases h0 : 0 < m
    · obtain ⟨b, off, rfl, hbw, hcell⟩ := hrb.out (by have := hrm.out; omega)
      have hc0 := hcell 0 (by have := hrm.out; omega)
      obtain ⟨x, hx⟩ : ∃ x : UInt8, r[0]'(by have := hrm.out; omega) = x := ⟨_, rfl⟩
      rw [hx, Nat.add_zero] at hc0
      unfold vb at hc0
      have HX : Hid (∀ h : 0 < r.length, r[0] = x) := fun h => hx
      clear hcell hx
      have hlt0 : (0 : Int) < (m : Int) := by omega
      have hF := first_any b off r m cap w.heap.size wr x hrb.out hrm.out h0 HX.out hmc hcm.out
      have HF := Lib.hid hF; clear hF
      go_wp2_with fail
      (with_reducible refine HF.out.mono ?_)
      rintro e w0 ⟨⟨k, rfl, hk0, hkm, hg⟩, rfl⟩
      have HG := Lib.hid hg; clear hg HF
      have hin : in64 (k : Int) := by have := hm4.out; unfold in64; omega
      have HIN := Lib.hid hin; clear hin
      go_wp2_with fail
      (with_reducible refine (put_nil _ _ HIN.out).mono ?_)
      rintro e w1 ⟨v1, rfl, ov, hb1⟩
      obtain ⟨c, hcq⟩ : ∃ c, c = putN (k : Int) := ⟨_, rfl⟩
      obtain ⟨A1, cap1, rfl, hc1, hm1, hr1⟩ := ov.form c hcq
      have hcl : Hid (c.length ≤ 10) := by rw [hcq]; exact putN_len _ HIN.out
      have HCQ := Lib.hid hcq
      have o1 := ho.out.below hb1 (Nat.le_refl _)
      have hbs := hb.out.size
      have hb1s := hb1.size
      have hbw1 : Below w.heap.size wr w1 := hb1.mono hbs
      have HB1 := Lib.hid hbw1; have O1 := Lib.hid o1; have R1 := Lib.hid hr1
      have hlen1 : p.length + c.length ≤ 140737488355328 := by have := hpl.out; have := hcl.out; omega
      have HL1 := Lib.hid hlen1; have HS1 := Lib.hid (Nat.le_trans hbs hb1s)
      have hlen2 : (p ++ c).length + [x ^^^ av].length ≤ 140737488355328 := by have := hpl.out; have := hcl.out; rw [List.length_append]; show p.length + c.length + 1 ≤ _; omega
      have HL2 := Lib.hid hlen2
      obtain ⟨xi, hxi⟩ : ∃ xi : Int, Hid ((x.toNat : Int) = xi) := ⟨_, rfl⟩
      obtain ⟨z, hz⟩ : ∃ z : Int, Hid (((x ^^^ av).toNat : Int) = z) := ⟨_, rfl⟩
      have hxor := b8_xor x av
      rw [hz.out, hxi.out, hav.out] at hxor
      rw [hxi.out] at hc0
      clear hcq ov o1 hr1 hb1 hbw1 hb1s hlen1 hm1 hlen2
      go_wp2_with first
        | (at_builtin; refine wpList_append_bytes rfl (.tmp 15) (.tmp 21) rfl w.heap.size v2 (p ++ c) [x ^^^ av] rfl O3.out (w2.heap.size + 1) _ 1 rfl HONE.out HL2.out HS3.out ?_; intro v3 w3 o4 g4 e4; have hbw3 := (HB2.out.alloc HS2.out (bOne z)).grown g4 HS3.out O3.out.ge; have c3 := (hbw3.cell (p := ⟨b, off, none⟩) hbw).trans hc0; have O4 := Lib.hid o4; have HB3 := Lib.hid hbw3; clear o4 hbw3 g4 e4 c2)
        | (at_builtin; refine wpList_append_bytes rfl (.tmp 11) (.tmp 13) rfl w.heap.size _ p c rfl O1.out w1.heap.size A1 cap1 rfl R1.out HL1.out HS1.out ?_; intro v2 w2 o2 g2 e2; have hbw2 := HB1.out.grown g2 HS1.out O1.out.ge; have c2 := (hbw2.cell (p := ⟨b, off, none⟩) hbw).trans hc0; have hone := one_reads w2 z (x ^^^ av) hz.out; have hs2 := Nat.le_trans HS1.out g2.size; have hs3 : w.heap.size ≤ (w2.alloc (bOne z)).heap.size := (by rw [World.size_alloc]; omega); have o3 : OB (w2.alloc (bOne z)) w.heap.size v2 (p ++ c) := o2.alloc _; have HONE := Lib.hid hone; have O2 := Lib.hid o2; have O3 := Lib.hid o3; have HB2 := Lib.hid hbw2; have HS2 := Lib.hid hs2; have HS3 := Lib.hid hs3; clear hone o2 o3 hbw2 hs2 hs3 g2 e2)
      have hpq : (p ++ c ++ [x ^^^ av]) ++ encG x (groups (r.drop k)) = encG 0 (groups l) := by
        rw [← hp.out, HG.out, HCQ.out]
        show _ = p ++ (putN (k : Int) ++ (x ^^^ av) :: encG x (groups (r.drop k)))
        simp [List.append_assoc]
      have HPQ := Lib.hid hpq; clear hpq
      have HRD : Hid ((r.drop k).length = m - k) := by show _ = _; rw [List.length_drop, hrm.out]
      have hrc := hrb.out.cut k cap (by have := hrm.out; omega) (by have := hrm.out; omega)
      have k0 : (0 : Int) ≤ (k : Int) := by omega
      have k1 : (k : Int) ≤ (m : Int) := by omega
      have k2 : (m : Int) ≤ (cap : Int) := by omega
      have k3 : (k : Int) ≤ (cap : Int) := by omega
      by_cases hcap : cap = k
      · rw [if_pos hcap] at hrc
        have HRC := Lib.hid hrc; clear hrc
        go_quiet (fail)
        go_wp2
        go_roundw
        case rel => exact ⟨some ⟨b, off, none⟩, r.drop k, m - k, 0, x, xi, p ++ c ++ [x ^^^ av], rfl, HRD.out, by omega, by have := hcm.out; unfold maxLen at *; show _ ≤ _; omega, by have := hm4.out; show _ ≤ _; omega, rfl, hxi, HPQ.out, HRC.out.below (below_drewN HB3.out _), O4.out.below (below_drewN (Below.refl _ _) _) (Nat.le_refl _), below_drewN (hb.out.trans HB3.out) _⟩
        case measure => show m - k < m; omega
      · rw [if_neg hcap] at hrc
        simp only [Option.map_some, Addr.add_lit] at hrc
        have HRC := Lib.hid hrc; clear hrc
        go_quiet (fail)
        go_wp2
        go_roundw
        case rel => exact ⟨some ⟨b, off + k, none⟩, r.drop k, m - k, cap - k, x, xi, p ++ c ++ [x ^^^ av], rfl, HRD.out, by omega, by have := hcm.out; unfold maxLen at *; show _ ≤ _; omega, by have := hm4.out; show _ ≤ _; omega, rfl, hxi, HPQ.out, HRC.out.below (below_drewN HB3.out _), O4.out.below (below_drewN (Below.refl _ _) _) (Nat.le_refl _), below_drewN (hb.out.trans HB3.out) _⟩
        case measure => show m - k < m; omega
    · have hm0 : m = 0 := by omega
      have hre : r = [] := List.eq_nil_of_length_eq_zero (by have := hrm.out; omega)
      have hfin := hp.out
      rw [hre] at hfin
      have hfin : p = encG 0 (groups l) := by rw [← hfin]; show p = p ++ []; rw [List.append_nil]
      have HF := Lib.hid hfin
      clear hfin hre
      subst hm0
      go_wp2
      go_ret
      exact ⟨_, rfl, by rw [← HF.out]; exact ho.out, hb.out⟩
theorem groups_mid (l : List UInt8) (k m : Nat) (x : UInt8) (hm : 1 ≤ m) (hk : k + m ≤ l.length) (hall : ∀ j (h : j < l.length), k ≤ j → j < k + m → l[j] = x) (hne : ∀ h : k + m < l.length, l[k + m] ≠ x) :
    groups (l.drop k) = (m, x) :: groups (l.drop (k + m)) := by
  have h := groups_at (l.drop k) m x hm (by rw [List.length_drop]; omega)
    (fun j h hj => by rw [List.length_drop] at h; rw [List.getElem_drop]; exact hall (k + j) (by omega) (by omega) (by omega))
    (fun h => by rw [List.length_drop] at h; rw [List.getElem_drop]; exact hne (by omega))
  rw [List.drop_drop] at h
  exact h
set_option maxHeartbeats 4000000 in
theorem refruns_any (A : Option Addr) (l : List UInt8) (n cap : Nat) (w : World) (hr : RB w w.heap.size A l) (hn : l.length = n) (hc : n ≤ cap) (hm : cap ≤ maxLen) (hl : n ≤ 4096) :
    Calls Tryz.prog 80 #[.slice A n cap] w fun e w' => ∃ v, e = .returned v ∧ OB w' w.heap.size v (encG 0 (groups l)) ∧ Below w.heap.size w w' := by
  have HR := Lib.hid hr; have HM := Lib.hid hm; have HN := Lib.hid hn; have HL := Lib.hid hl
  clear hr hm hn hl
  go_enter Tryz.func80, Tryz.ntmps80
  go_wp2
  go_loopw [3, 4, 5] (fun out a i wr => ∃ (k : Nat) (av : UInt8) (ai : Int) (p : List UInt8), i = .int .i64 (k : Int) ∧ k ≤ n ∧ a = .int .u8 ai ∧ Hid ((av.toNat : Int) = ai) ∧ Hid (p ++ encG av (groups (l.drop k)) = encG 0 (groups l)) ∧ Hid (OB wr w.heap.size out p) ∧ Hid (Below w.heap.size w wr)) (fun _ _ i _ => n - (intOf i).toNat)
  case atStart => exact ⟨0, 0, 0, [], rfl, by omega, rfl, rfl, rfl, OB.nil _ _, Below.refl _ _⟩
  case round =>
    obtain ⟨k, av, ai, p, rfl, hk, rfl, hav, hp, ho, hb⟩ := hrel
    have hpl : Hid (p.length ≤ 90112) := by
      have h1 := encG_groups_len l (by rw [HN.out]; have := HL.out; omega) 0
      rw [← hp.out, List.length_append] at h1
      show _ ≤ _
      omega
    by_cases hlt : k < n
    · have hrb := HR.out.below hb.out
      obtain ⟨b, off, rfl, hbw, hcell⟩ := hrb (by have := HN.out; omega)
      have HCL := Lib.hid hcell
      have hck := hcell k (by have := HN.out; omega)
      obtain ⟨x, hx⟩ : ∃ x : UInt8, l[k]'(by have := HN.out; omega) = x := ⟨_, rfl⟩
      rw [hx] at hck
      unfold vb at hck
      obtain ⟨xi, hxi⟩ : ∃ xi : Int, Hid ((x.toNat : Int) = xi) := ⟨_, rfl⟩
      rw [hxi.out] at hck
      have HX : Hid (∀ h : k < l.length, l[k] = x) := fun h => hx
      clear hcell hx hrb
      have hkn : (k : Int) < (n : Int) := by omega
      go_wp2_with fail
      obtain ⟨W0, rfl⟩ : ∃ W0, W0 = wr := ⟨wr, rfl⟩
      have HCK := Lib.hid hck; clear hck
      go_loopw [6] (fun c wr => ∃ (m : Nat), c = .int .i64 (m : Int) ∧ 1 ≤ m ∧ k + m ≤ n ∧ Hid (∀ j (h : j < l.length), k ≤ j → j < k + m → l[j] = x) ∧ Hid (Below W0.heap.size W0 wr)) (fun c _ => n - (intOf c).toNat)
      case atStart =>
        have hst : ∀ j (h : j < l.length), k ≤ j → j < k + 1 → l[j] = x := fun j h h1 h2 => by
          have e : j = k := by omega
          subst e
          exact HX.out h
        exact ⟨1, rfl, by omega, by omega, hst, Below.refl _ _⟩
      case round =>
        obtain ⟨m, rfl, hm1, hkm, hall, hbw2⟩ := hrel
        obtain ⟨e, he⟩ : ∃ e : Nat, Hid (e = k + m) := ⟨_, rfl⟩
        have HW1 : Hid (wrap64 ((k : Int) + (m : Int)) = (e : Int)) := by have := he.out; have := HL.out; show _ = _; rw [show wrap64 ((k : Int) + (m : Int)) = (k : Int) + (m : Int) from by unfold wrap64; omega]; omega
        have HW2 : Hid (IntKind.i64.wrap ((k : Int) + (m : Int)) = (e : Int)) := by show _ = _; rw [IntKind.wrap_i64]; have := he.out; have := HL.out; omega
        have hbl : b < W0.heap.size := Nat.lt_of_lt_of_le hbw hb.out.size
        have hck := (hbw2.out.cell (p := ⟨b, off + k, none⟩) hbl).trans HCK.out
        by_cases hen : e < n
        · have hen1 : (e : Int) < (n : Int) := by omega
          have hce := HCL.out e (by have := HN.out; omega)
          obtain ⟨c, hcc⟩ : ∃ c : UInt8, l[e]'(by have := HN.out; omega) = c := ⟨_, rfl⟩
          rw [hcc] at hce
          unfold vb at hce
          obtain ⟨ci, hci⟩ : ∃ ci : Int, Hid ((c.toNat : Int) = ci) := ⟨_, rfl⟩
          rw [hci.out] at hce
          replace hce := (hbw2.out.cell (p := ⟨b, off + e, none⟩) hbl).trans hce
          have HCC : Hid (∀ h : e < l.length, l[e] = c) := fun h => hcc
          clear hcc
          by_cases heq : ci = xi
          · have hb1 : (ci == xi) = true := by simp [heq]
            have hcx : c = x := by
              apply UInt8.toNat.inj
              have h1 := hci.out
              have h2 := hxi.out
              omega
            have hall2 : Hid (∀ j (h : j < l.length), k ≤ j → j < k + (m + 1) → l[j] = x) := fun j h h1 h2 => by
              by_cases h3 : j < k + m
              · exact hall.out j h h1 h3
              · obtain rfl : j = e := by have := he.out; omega
                rw [HCC.out h]; exact hcx
            have HE := Lib.hid heq; clear heq hcx
            have HW3 : Hid (wrap64 ((m : Int) + 1) = ((m + 1 : Nat) : Int)) := by have := HL.out; show _ = _; rw [show wrap64 ((m : Int) + 1) = (m : Int) + 1 from by unfold wrap64; omega]; omega
            have hkm2 : Hid (k + (m + 1) ≤ n) := by have := he.out; show _ ≤ _; omega
            have hms : Hid (n - (m + 1) < n - m) := by have := he.out; show _ < _; omega
            have hw1 := HW1.out
            have hw2 := HW3.out
            have hw1' := HW2.out
            go_wp2_with fail
            go_quiet (fail)
            go_wp2
            clear hw1 hw1'
            go_roundw
            case rel => exact ⟨m + 1, by rw [hw2], Nat.le_add_left _ _, hkm2.out, hall2, below_drewN hbw2.out _⟩
            case measure => rw [hw2]; simp only [intOf, Int.toNat_natCast]; exact hms.out
          · have hcx : c ≠ x := fun h => heq (by rw [← hci.out, ← hxi.out, h])
            have hb1 : (ci == xi) = false := by simpa using heq
            have hkml : k + m ≤ l.length := by have := HN.out; omega
            have HG : Hid (groups (l.drop k) = (m, x) :: groups (l.drop e)) := by
              have h1 := groups_mid l k m x hm1 hkml hall.out (fun h => by
                have h2 := HCC.out (by have := he.out; omega)
                have h3 := he.out
                subst h3
                rw [h2]; exact hcx)
              rw [← he.out] at h1
              exact h1
            clear hkml hcx
            have HEQ := Lib.hid heq; clear heq
            have hrc := HR.out.below hb.out
            have hpq : Hid ((p ++ putN (m : Int) ++ [x ^^^ av]) ++ encG x (groups (l.drop e)) = encG 0 (groups l)) := by
              show _ = _
              rw [← hp.out, HG.out]
              show _ = p ++ (putN (m : Int) ++ (x ^^^ av) :: encG x (groups (l.drop e)))
              simp [List.append_assoc]
            have HMI : Hid (in64 (m : Int)) := by have := HL.out; show in64 _; unfold in64; omega
            have hml := putN_len _ HMI.out
            have HL1 : Hid (p.length + (putN (m : Int)).length ≤ 140737488355328) := by have := hpl.out; show _ ≤ _; omega
            have HL2 : Hid ((p ++ putN (m : Int)).length + [x ^^^ av].length ≤ 140737488355328) := by have := hpl.out; show _ ≤ _; rw [List.length_append]; show p.length + (putN (m : Int)).length + 1 ≤ _; omega
            obtain ⟨z, hz0⟩ : ∃ z : Int, Hid (((x ^^^ av).toNat : Int) = z) := ⟨_, rfl⟩
            have hxor := b8_xor x av
            rw [hz0.out, hxi.out, hav.out] at hxor
            have hke : Hid (e ≤ n) := by have := he.out; show _ ≤ _; omega
            have hms : Hid (n - e < n - k) := by have := he.out; show _ < _; omega
            have hsz0 := hb.out.size
            clear hml hrc
            have HBL := Lib.hid hbl
            clear hbl
            have hw1 := HW1.out
            have hw1' := HW2.out
            go_wp2_with fail
            go_quiet (fail)
            rename_i nq
            go_wp2_with fail
            obtain ⟨W1, hW1⟩ : ∃ W1, wr.drewN nq = W1 := ⟨_, rfl⟩
            rw [hW1]
            have hbw3 : Below W0.heap.size W0 W1 := by rw [← hW1]; exact below_drewN hbw2.out _
            clear hW1
            have hbt : Below w.heap.size w W1.drew := (hb.out.trans (hbw3.mono hsz0)).drew
            have k0 : W1.drew.cell? ⟨b, off + k, none⟩ = some (.int .u8 xi) := (hbw3.cell (p := ⟨b, off + k, none⟩) HBL.out).trans HCK.out
            have HV : Hid (OB W1.drew w.heap.size u3 p) := (ho.out.below hbw3 (Nat.le_refl _)).below (Below.refl _ _).drew (Nat.le_refl _)
            have HLow : Hid (Low u3 W1.heap.size) := (ho.out.below hbw3 (Nat.le_refl _)).low
            have hG : W1.heap.size ≤ W1.drew.heap.size := Nat.le_refl _
            have hs : w.heap.size ≤ W1.drew.heap.size := hbt.size
            have HBW := Lib.hid hbw
            clear hbw3 hck
            refine wp_region_held_drew (S := (fun w' => w'.cell? ⟨b, off + k, none⟩ = some (.int .u8 xi))) (by kernel_rfl) (k0) (fun hHeld => ?_)
            refine held_take (i := 0) (v := ?_) rfl (by kernel_rfl) (by kernel_rfl) (by kernel_rfl) (fun _ _ _ h => h) (by rfl) hHeld ?_ ?_
            rotate_left 1
            · (intro w hSw; (try dsimp only at hSw); go_simp; try (with_reducible rfl))
            try simp only [Act.put, nB, nC, nD]
            refine held_take (i := 1) (v := ?_) rfl (by kernel_rfl) (by kernel_rfl) (by kernel_rfl) (fun _ _ _ h => h) (by rfl) hHeld ?_ ?_
            rotate_left 1
            · (intro w hSw; (try dsimp only at hSw); go_simp; try (with_reducible rfl))
            try simp only [Act.put, nB, nC, nD]
            refine held_take (i := 4) (v := ?_) rfl (by kernel_rfl) (by kernel_rfl) (by kernel_rfl) (fun _ _ _ h => h) (by rfl) hHeld ?_ ?_
            rotate_left 1
            · (intro w hSw; (try dsimp only at hSw); go_simp; try (with_reducible rfl))
            try simp only [Act.put, nB, nC, nD]
            refine held_take (i := 5) (v := ?_) rfl (by kernel_rfl) (by kernel_rfl) (by kernel_rfl) (fun _ _ _ h => h) (by rfl) hHeld ?_ ?_
            rotate_left 1
            · (intro w hSw; (try dsimp only at hSw); go_simp; try (with_reducible rfl))
            try simp only [Act.put, nB, nC, nD]
            refine held_take (i := 6) (v := ?_) rfl (by kernel_rfl) (by kernel_rfl) (by kernel_rfl) (fun _ _ _ h => h) (by rfl) hHeld ?_ ?_
            rotate_left 1
            · (intro w hSw; (try dsimp only at hSw); go_simp; try (with_reducible rfl))
            try simp only [Act.put, nB, nC, nD]
            refine held_take (i := 7) (v := ?_) rfl (by kernel_rfl) (by kernel_rfl) (by kernel_rfl) (fun _ _ _ h => h) (by rfl) hHeld ?_ ?_
            rotate_left 1
            · (intro w hSw; (try dsimp only at hSw); go_simp; try (with_reducible rfl))
            try simp only [Act.put, nB, nC, nD]
            refine held_take (i := 8) (v := ?_) rfl (by kernel_rfl) (by kernel_rfl) (by kernel_rfl) (fun _ _ _ h => h) (by rfl) hHeld ?_ ?_
            rotate_left 1
            · (intro w hSw; (try dsimp only at hSw); go_simp; try (with_reducible rfl))
            try simp only [Act.put, nB, nC, nD]
            refine held_take (i := 9) (v := ?_) rfl (by kernel_rfl) (by kernel_rfl) (by kernel_rfl) (fun _ _ _ h => h) (by rfl) hHeld ?_ ?_
            rotate_left 1
            · (intro w hSw; (try dsimp only at hSw); go_simp; try (with_reducible rfl))
            try simp only [Act.put, nB, nC, nD]
            refine held_two (i := 2) (j := 10) rfl rfl (by kernel_rfl) (by rfl) (by rfl) (fun K hK => ?_) (fun K hK => ?_)
            · go_simp
              (with_reducible refine (refput_any _ _ HMI.out).mono ?_)
              rintro e5 w5 ⟨v5, rfl, h5, b5⟩
              obtain ⟨A5, c5, rfl, _, _, _⟩ := h5.form _ rfl
              replace k0 := (b5.cell (p := ⟨b, off + k, none⟩) (Nat.lt_of_lt_of_le HBW.out hs)).trans k0
              replace HV := Lib.hid (HV.out.below b5 (Nat.le_refl _))
              have HA := Lib.hid (h5.less (b' := W1.heap.size) hG)
              replace hbt := hbt.trans (b5.mono hs)
              replace hG := Nat.le_trans hG b5.size
              replace hs := Nat.le_trans hs b5.size
              clear h5 b5
              refine hK.out _ _ (k0) (fun hHeld2 => ?_)
              clear hK K hHeld; have hHeld := hHeld2; clear hHeld2
              try simp only [Act.put, nB, nC, nD]
              refine held_two (i := 3) (j := 10) rfl rfl (by kernel_rfl) (by rfl) (by rfl) (fun K hK => ?_) (fun K hK => ?_)
              · refine wp_append_bytes (.tmp 32) (.tmp 34) (by rfl) w.heap.size _ p (putN (m : Int)) (by rfl) HV.out _ _ _ (by rfl) HA.out.cells HL1.out hs ?_
                intro v7 w7 o7 g7 e7
                replace k0 := g7.cell k0 (not_row HV.out.ge HBW.out)
                have HV1 := Lib.hid o7
                replace hbt := hbt.grown g7 hs HV.out.ge
                replace hG := Nat.le_trans hG g7.size
                replace hs := Nat.le_trans hs g7.size
                clear o7 g7 e7 HV HA
                refine hK.out _ _ (k0) (fun hHeld2 => ?_)
                clear hK K hHeld; have hHeld := hHeld2; clear hHeld2
                try simp only [Act.put, nB, nC, nD]
                refine held_one (i := 10) rfl (by kernel_rfl) (by rfl) (fun K hK => ?_)
                refine wp_one (.tmp 41) (by rfl) z (x ^^^ av) (by rfl) hz0.out ?_
                intro w6 h6 b6 s6
                replace k0 := (b6.cell (p := ⟨b, off + k, none⟩) (Nat.lt_of_lt_of_le HBW.out hs)).trans k0
                replace HV1 := Lib.hid (HV1.out.below b6 (Nat.le_refl _))
                have HB := Lib.hid (h6.less (b' := W1.heap.size) hG)
                replace hbt := hbt.trans (b6.mono hs)
                replace hG := Nat.le_trans hG b6.size
                replace hs := Nat.le_trans hs b6.size
                clear h6 b6 s6
                refine hK.out _ _ (k0) (fun hHeld2 => ?_)
                clear hK K hHeld; have hHeld := hHeld2; clear hHeld2
                try simp only [Act.put, nB, nC, nD]
                refine held_one (i := 11) rfl (by kernel_rfl) (by rfl) (fun K hK => ?_)
                refine wp_append_bytes (.tmp 35) (.tmp 42) (by rfl) w.heap.size _ (p ++ putN (m : Int)) [x ^^^ av] (by rfl) HV1.out _ _ _ (by rfl) HB.out.cells HL2.out hs ?_
                intro v8 w8 o8 g8 e8
                replace k0 := g8.cell k0 (not_row HV1.out.ge HBW.out)
                have HV2 := Lib.hid o8
                replace hbt := hbt.grown g8 hs HV1.out.ge
                replace hG := Nat.le_trans hG g8.size
                replace hs := Nat.le_trans hs g8.size
                clear o8 g8 e8 HV1 HB
                refine hK.out _ _ (k0) (fun hHeld2 => ?_)
                clear hK K hHeld; have hHeld := hHeld2; clear hHeld2
                try simp only [Act.put, nB, nC, nD]
                refine held_take (i := 12) (v := ?_) rfl (by kernel_rfl) (by kernel_rfl) (by kernel_rfl) (fun _ _ _ h => h) (by rfl) hHeld ?_ ?_
                rotate_left 1
                · (intro w hSw; (try dsimp only at hSw); go_simp; try (with_reducible rfl))
                try simp only [Act.put, nB, nC, nD]
                refine wpAnyH_done (by kernel_rfl) ?_ _
                skip
                go_wp2_with fail
                clear hw1 hw1'
                have hw1 := HW1.out
                go_wp2
                clear hw1
                have HB3 := Lib.hid hbt
                go_roundw
                case rel => exact ⟨e, x, xi, _, rfl, hke.out, rfl, hxi, hpq.out, HV2.out, HB3.out⟩
                case measure => simp only [intOf, Int.toNat_natCast]; exact hms.out
              · refine wp_one (.tmp 41) (by rfl) z (x ^^^ av) (by rfl) hz0.out ?_
                intro w6 h6 b6 s6
                replace k0 := (b6.cell (p := ⟨b, off + k, none⟩) (Nat.lt_of_lt_of_le HBW.out hs)).trans k0
                replace HV := Lib.hid (HV.out.below b6 (Nat.le_refl _))
                replace HA := Lib.hid (HA.out.below b6 (Nat.le_refl _))
                have HB := Lib.hid (h6.less (b' := W1.heap.size) hG)
                replace hbt := hbt.trans (b6.mono hs)
                replace hG := Nat.le_trans hG b6.size
                replace hs := Nat.le_trans hs b6.size
                clear h6 b6 s6
                refine hK.out _ _ (k0) (fun hHeld2 => ?_)
                clear hK K hHeld; have hHeld := hHeld2; clear hHeld2
                try simp only [Act.put, nB, nC, nD]
                refine held_one (i := 3) rfl (by kernel_rfl) (by rfl) (fun K hK => ?_)
                refine wp_append_bytes (.tmp 32) (.tmp 34) (by rfl) w.heap.size _ p (putN (m : Int)) (by rfl) HV.out _ _ _ (by rfl) HA.out.cells HL1.out hs ?_
                intro v7 w7 o7 g7 e7
                replace k0 := g7.cell k0 (not_row HV.out.ge HBW.out)
                replace HB := Lib.hid (HB.out.apart (Nat.le_refl _) HLow.out g7)
                have HV1 := Lib.hid o7
                replace hbt := hbt.grown g7 hs HV.out.ge
                replace hG := Nat.le_trans hG g7.size
                replace hs := Nat.le_trans hs g7.size
                clear o7 g7 e7 HV HA
                refine hK.out _ _ (k0) (fun hHeld2 => ?_)
                clear hK K hHeld; have hHeld := hHeld2; clear hHeld2
                try simp only [Act.put, nB, nC, nD]
                refine held_one (i := 11) rfl (by kernel_rfl) (by rfl) (fun K hK => ?_)
                refine wp_append_bytes (.tmp 35) (.tmp 42) (by rfl) w.heap.size _ (p ++ putN (m : Int)) [x ^^^ av] (by rfl) HV1.out _ _ _ (by rfl) HB.out.cells HL2.out hs ?_
                intro v8 w8 o8 g8 e8
                replace k0 := g8.cell k0 (not_row HV1.out.ge HBW.out)
                have HV2 := Lib.hid o8
                replace hbt := hbt.grown g8 hs HV1.out.ge
                replace hG := Nat.le_trans hG g8.size
                replace hs := Nat.le_trans hs g8.size
                clear o8 g8 e8 HV1 HB
                refine hK.out _ _ (k0) (fun hHeld2 => ?_)
                clear hK K hHeld; have hHeld := hHeld2; clear hHeld2
                try simp only [Act.put, nB, nC, nD]
                refine held_take (i := 12) (v := ?_) rfl (by kernel_rfl) (by kernel_rfl) (by kernel_rfl) (fun _ _ _ h => h) (by rfl) hHeld ?_ ?_
                rotate_left 1
                · (intro w hSw; (try dsimp only at hSw); go_simp; try (with_reducible rfl))
                try simp only [Act.put, nB, nC, nD]
                refine wpAnyH_done (by kernel_rfl) ?_ _
                skip
                go_wp2_with fail
                clear hw1 hw1'
                have hw1 := HW1.out
                go_wp2
                clear hw1
                have HB3 := Lib.hid hbt
                go_roundw
                case rel => exact ⟨e, x, xi, _, rfl, hke.out, rfl, hxi, hpq.out, HV2.out, HB3.out⟩
                case measure => simp only [intOf, Int.toNat_natCast]; exact hms.out
            · refine wp_one (.tmp 41) (by rfl) z (x ^^^ av) (by rfl) hz0.out ?_
              intro w6 h6 b6 s6
              replace k0 := (b6.cell (p := ⟨b, off + k, none⟩) (Nat.lt_of_lt_of_le HBW.out hs)).trans k0
              replace HV := Lib.hid (HV.out.below b6 (Nat.le_refl _))
              have HB := Lib.hid (h6.less (b' := W1.heap.size) hG)
              replace hbt := hbt.trans (b6.mono hs)
              replace hG := Nat.le_trans hG b6.size
              replace hs := Nat.le_trans hs b6.size
              clear h6 b6 s6
              refine hK.out _ _ (k0) (fun hHeld2 => ?_)
              clear hK K hHeld; have hHeld := hHeld2; clear hHeld2
              try simp only [Act.put, nB, nC, nD]
              refine held_one (i := 2) rfl (by kernel_rfl) (by rfl) (fun K hK => ?_)
              go_simp
              (with_reducible refine (refput_any _ _ HMI.out).mono ?_)
              rintro e5 w5 ⟨v5, rfl, h5, b5⟩
              obtain ⟨A5, c5, rfl, _, _, _⟩ := h5.form _ rfl
              replace k0 := (b5.cell (p := ⟨b, off + k, none⟩) (Nat.lt_of_lt_of_le HBW.out hs)).trans k0
              replace HV := Lib.hid (HV.out.below b5 (Nat.le_refl _))
              replace HB := Lib.hid (HB.out.below b5 (Nat.le_refl _))
              have HA := Lib.hid (h5.less (b' := W1.heap.size) hG)
              replace hbt := hbt.trans (b5.mono hs)
              replace hG := Nat.le_trans hG b5.size
              replace hs := Nat.le_trans hs b5.size
              clear h5 b5
              refine hK.out _ _ (k0) (fun hHeld2 => ?_)
              clear hK K hHeld; have hHeld := hHeld2; clear hHeld2
              try simp only [Act.put, nB, nC, nD]
              refine held_one (i := 3) rfl (by kernel_rfl) (by rfl) (fun K hK => ?_)
              refine wp_append_bytes (.tmp 32) (.tmp 34) (by rfl) w.heap.size _ p (putN (m : Int)) (by rfl) HV.out _ _ _ (by rfl) HA.out.cells HL1.out hs ?_
              intro v7 w7 o7 g7 e7
              replace k0 := g7.cell k0 (not_row HV.out.ge HBW.out)
              replace HB := Lib.hid (HB.out.apart (Nat.le_refl _) HLow.out g7)
              have HV1 := Lib.hid o7
              replace hbt := hbt.grown g7 hs HV.out.ge
              replace hG := Nat.le_trans hG g7.size
              replace hs := Nat.le_trans hs g7.size
              clear o7 g7 e7 HV HA
              refine hK.out _ _ (k0) (fun hHeld2 => ?_)
              clear hK K hHeld; have hHeld := hHeld2; clear hHeld2
              try simp only [Act.put, nB, nC, nD]
              refine held_one (i := 11) rfl (by kernel_rfl) (by rfl) (fun K hK => ?_)
              refine wp_append_bytes (.tmp 35) (.tmp 42) (by rfl) w.heap.size _ (p ++ putN (m : Int)) [x ^^^ av] (by rfl) HV1.out _ _ _ (by rfl) HB.out.cells HL2.out hs ?_
              intro v8 w8 o8 g8 e8
              replace k0 := g8.cell k0 (not_row HV1.out.ge HBW.out)
              have HV2 := Lib.hid o8
              replace hbt := hbt.grown g8 hs HV1.out.ge
              replace hG := Nat.le_trans hG g8.size
              replace hs := Nat.le_trans hs g8.size
              clear o8 g8 e8 HV1 HB
              refine hK.out _ _ (k0) (fun hHeld2 => ?_)
              clear hK K hHeld; have hHeld := hHeld2; clear hHeld2
              try simp only [Act.put, nB, nC, nD]
              refine held_take (i := 12) (v := ?_) rfl (by kernel_rfl) (by kernel_rfl) (by kernel_rfl) (fun _ _ _ h => h) (by rfl) hHeld ?_ ?_
              rotate_left 1
              · (intro w hSw; (try dsimp only at hSw); go_simp; try (with_reducible rfl))
              try simp only [Act.put, nB, nC, nD]
              refine wpAnyH_done (by kernel_rfl) ?_ _
              skip
              go_wp2_with fail
              clear hw1 hw1'
              have hw1 := HW1.out
              go_wp2
              clear hw1
              have HB3 := Lib.hid hbt
              go_roundw
              case rel => exact ⟨e, x, xi, _, rfl, hke.out, rfl, hxi, hpq.out, HV2.out, HB3.out⟩
              case measure => simp only [intOf, Int.toNat_natCast]; exact hms.out
        · have hen1 : e = n := by have := he.out; omega
          subst hen1
          have hkml : k + m ≤ l.length := by have := HN.out; omega
          have HG : Hid (groups (l.drop k) = (m, x) :: groups (l.drop e)) := by
            have h1 := groups_mid l k m x hm1 hkml hall.out (fun h => absurd h (by have := HN.out; have := he.out; omega))
            rw [← he.out] at h1
            exact h1
          clear hkml
          have hrc := HR.out.below hb.out
          have hpq : Hid ((p ++ putN (m : Int) ++ [x ^^^ av]) ++ encG x (groups (l.drop e)) = encG 0 (groups l)) := by
            show _ = _
            rw [← hp.out, HG.out]
            show _ = p ++ (putN (m : Int) ++ (x ^^^ av) :: encG x (groups (l.drop e)))
            simp [List.append_assoc]
          have HMI : Hid (in64 (m : Int)) := by have := HL.out; show in64 _; unfold in64; omega
          have hml := putN_len _ HMI.out
          have HL1 : Hid (p.length + (putN (m : Int)).length ≤ 140737488355328) := by have := hpl.out; show _ ≤ _; omega
          have HL2 : Hid ((p ++ putN (m : Int)).length + [x ^^^ av].length ≤ 140737488355328) := by have := hpl.out; show _ ≤ _; rw [List.length_append]; show p.length + (putN (m : Int)).length + 1 ≤ _; omega
          obtain ⟨z, hz0⟩ : ∃ z : Int, Hid (((x ^^^ av).toNat : Int) = z) := ⟨_, rfl⟩
          have hxor := b8_xor x av
          rw [hz0.out, hxi.out, hav.out] at hxor
          have hke : Hid (e ≤ e) := by have := he.out; show _ ≤ _; omega
          have hms : Hid (e - e < e - k) := by have := he.out; show _ < _; omega
          have hsz0 := hb.out.size
          clear hml hrc
          have HBL := Lib.hid hbl
          clear hbl
          have hw1 := HW1.out
          have hw1' := HW2.out
          go_wp2_with fail
          go_region
          go_wp2_with fail
          obtain ⟨W1, hW1⟩ : ∃ W1, wr.drew = W1 := ⟨_, rfl⟩
          rw [hW1]
          have hbw3 : Below W0.heap.size W0 W1 := by rw [← hW1]; exact hbw2.out.drew
          clear hW1
          have hbt : Below w.heap.size w W1.drew := (hb.out.trans (hbw3.mono hsz0)).drew
          have k0 : W1.drew.cell? ⟨b, off + k, none⟩ = some (.int .u8 xi) := (hbw3.cell (p := ⟨b, off + k, none⟩) HBL.out).trans HCK.out
          have HV : Hid (OB W1.drew w.heap.size u3 p) := (ho.out.below hbw3 (Nat.le_refl _)).below (Below.refl _ _).drew (Nat.le_refl _)
          have HLow : Hid (Low u3 W1.heap.size) := (ho.out.below hbw3 (Nat.le_refl _)).low
          have hG : W1.heap.size ≤ W1.drew.heap.size := Nat.le_refl _
          have hs : w.heap.size ≤ W1.drew.heap.size := hbt.size
          have HBW := Lib.hid hbw
          clear hbw3 hck
          refine wp_region_held_drew (S := (fun w' => w'.cell? ⟨b, off + k, none⟩ = some (.int .u8 xi))) (by kernel_rfl) (k0) (fun hHeld => ?_)
          refine held_take (i := 0) (v := ?_) rfl (by kernel_rfl) (by kernel_rfl) (by kernel_rfl) (fun _ _ _ h => h) (by rfl) hHeld ?_ ?_
          rotate_left 1
          · (intro w hSw; (try dsimp only at hSw); go_simp; try (with_reducible rfl))
          try simp only [Act.put, nB, nC, nD]
          refine held_take (i := 1) (v := ?_) rfl (by kernel_rfl) (by kernel_rfl) (by kernel_rfl) (fun _ _ _ h => h) (by rfl) hHeld ?_ ?_
          rotate_left 1
          · (intro w hSw; (try dsimp only at hSw); go_simp; try (with_reducible rfl))
          try simp only [Act.put, nB, nC, nD]
          refine held_take (i := 4) (v := ?_) rfl (by kernel_rfl) (by kernel_rfl) (by kernel_rfl) (fun _ _ _ h => h) (by rfl) hHeld ?_ ?_
          rotate_left 1
          · (intro w hSw; (try dsimp only at hSw); go_simp; try (with_reducible rfl))
          try simp only [Act.put, nB, nC, nD]
          refine held_take (i := 5) (v := ?_) rfl (by kernel_rfl) (by kernel_rfl) (by kernel_rfl) (fun _ _ _ h => h) (by rfl) hHeld ?_ ?_
          rotate_left 1
          · (intro w hSw; (try dsimp only at hSw); go_simp; try (with_reducible rfl))
          try simp only [Act.put, nB, nC, nD]
          refine held_take (i := 6) (v := ?_) rfl (by kernel_rfl) (by kernel_rfl) (by kernel_rfl) (fun _ _ _ h => h) (by rfl) hHeld ?_ ?_
          rotate_left 1
          · (intro w hSw; (try dsimp only at hSw); go_simp; try (with_reducible rfl))
          try simp only [Act.put, nB, nC, nD]
          refine held_take (i := 7) (v := ?_) rfl (by kernel_rfl) (by kernel_rfl) (by kernel_rfl) (fun _ _ _ h => h) (by rfl) hHeld ?_ ?_
          rotate_left 1
          · (intro w hSw; (try dsimp only at hSw); go_simp; try (with_reducible rfl))
          try simp only [Act.put, nB, nC, nD]
          refine held_take (i := 8) (v := ?_) rfl (by kernel_rfl) (by kernel_rfl) (by kernel_rfl) (fun _ _ _ h => h) (by rfl) hHeld ?_ ?_
          rotate_left 1
          · (intro w hSw; (try dsimp only at hSw); go_simp; try (with_reducible rfl))
          try simp only [Act.put, nB, nC, nD]
          refine held_take (i := 9) (v := ?_) rfl (by kernel_rfl) (by kernel_rfl) (by kernel_rfl) (fun _ _ _ h => h) (by rfl) hHeld ?_ ?_
          rotate_left 1
          · (intro w hSw; (try dsimp only at hSw); go_simp; try (with_reducible rfl))
          try simp only [Act.put, nB, nC, nD]
          refine held_two (i := 2) (j := 10) rfl rfl (by kernel_rfl) (by rfl) (by rfl) (fun K hK => ?_) (fun K hK => ?_)
          · go_simp
            (with_reducible refine (refput_any _ _ HMI.out).mono ?_)
            rintro e5 w5 ⟨v5, rfl, h5, b5⟩
            obtain ⟨A5, c5, rfl, _, _, _⟩ := h5.form _ rfl
            replace k0 := (b5.cell (p := ⟨b, off + k, none⟩) (Nat.lt_of_lt_of_le HBW.out hs)).trans k0
            replace HV := Lib.hid (HV.out.below b5 (Nat.le_refl _))
            have HA := Lib.hid (h5.less (b' := W1.heap.size) hG)
            replace hbt := hbt.trans (b5.mono hs)
            replace hG := Nat.le_trans hG b5.size
            replace hs := Nat.le_trans hs b5.size
            clear h5 b5
            refine hK.out _ _ (k0) (fun hHeld2 => ?_)
            clear hK K hHeld; have hHeld := hHeld2; clear hHeld2
            try simp only [Act.put, nB, nC, nD]
            refine held_two (i := 3) (j := 10) rfl rfl (by kernel_rfl) (by rfl) (by rfl) (fun K hK => ?_) (fun K hK => ?_)
            · refine wp_append_bytes (.tmp 32) (.tmp 34) (by rfl) w.heap.size _ p (putN (m : Int)) (by rfl) HV.out _ _ _ (by rfl) HA.out.cells HL1.out hs ?_
              intro v7 w7 o7 g7 e7
              replace k0 := g7.cell k0 (not_row HV.out.ge HBW.out)
              have HV1 := Lib.hid o7
              replace hbt := hbt.grown g7 hs HV.out.ge
              replace hG := Nat.le_trans hG g7.size
              replace hs := Nat.le_trans hs g7.size
              clear o7 g7 e7 HV HA
              refine hK.out _ _ (k0) (fun hHeld2 => ?_)
              clear hK K hHeld; have hHeld := hHeld2; clear hHeld2
              try simp only [Act.put, nB, nC, nD]
              refine held_one (i := 10) rfl (by kernel_rfl) (by rfl) (fun K hK => ?_)
              refine wp_one (.tmp 41) (by rfl) z (x ^^^ av) (by rfl) hz0.out ?_
              intro w6 h6 b6 s6
              replace k0 := (b6.cell (p := ⟨b, off + k, none⟩) (Nat.lt_of_lt_of_le HBW.out hs)).trans k0
              replace HV1 := Lib.hid (HV1.out.below b6 (Nat.le_refl _))
              have HB := Lib.hid (h6.less (b' := W1.heap.size) hG)
              replace hbt := hbt.trans (b6.mono hs)
              replace hG := Nat.le_trans hG b6.size
              replace hs := Nat.le_trans hs b6.size
              clear h6 b6 s6
              refine hK.out _ _ (k0) (fun hHeld2 => ?_)
              clear hK K hHeld; have hHeld := hHeld2; clear hHeld2
              try simp only [Act.put, nB, nC, nD]
              refine held_one (i := 11) rfl (by kernel_rfl) (by rfl) (fun K hK => ?_)
              refine wp_append_bytes (.tmp 35) (.tmp 42) (by rfl) w.heap.size _ (p ++ putN (m : Int)) [x ^^^ av] (by rfl) HV1.out _ _ _ (by rfl) HB.out.cells HL2.out hs ?_
              intro v8 w8 o8 g8 e8
              replace k0 := g8.cell k0 (not_row HV1.out.ge HBW.out)
              have HV2 := Lib.hid o8
              replace hbt := hbt.grown g8 hs HV1.out.ge
              replace hG := Nat.le_trans hG g8.size
              replace hs := Nat.le_trans hs g8.size
              clear o8 g8 e8 HV1 HB
              refine hK.out _ _ (k0) (fun hHeld2 => ?_)
              clear hK K hHeld; have hHeld := hHeld2; clear hHeld2
              try simp only [Act.put, nB, nC, nD]
              refine held_take (i := 12) (v := ?_) rfl (by kernel_rfl) (by kernel_rfl) (by kernel_rfl) (fun _ _ _ h => h) (by rfl) hHeld ?_ ?_
              rotate_left 1
              · (intro w hSw; (try dsimp only at hSw); go_simp; try (with_reducible rfl))
              try simp only [Act.put, nB, nC, nD]
              refine wpAnyH_done (by kernel_rfl) ?_ _
              skip
              go_wp2_with fail
              clear hw1 hw1'
              have hw1 := HW1.out
              go_wp2
              clear hw1
              have HB3 := Lib.hid hbt
              go_roundw
              case rel => exact ⟨e, x, xi, _, rfl, hke.out, rfl, hxi, hpq.out, HV2.out, HB3.out⟩
              case measure => simp only [intOf, Int.toNat_natCast]; exact hms.out
            · refine wp_one (.tmp 41) (by rfl) z (x ^^^ av) (by rfl) hz0.out ?_
              intro w6 h6 b6 s6
              replace k0 := (b6.cell (p := ⟨b, off + k, none⟩) (Nat.lt_of_lt_of_le HBW.out hs)).trans k0
              replace HV := Lib.hid (HV.out.below b6 (Nat.le_refl _))
              replace HA := Lib.hid (HA.out.below b6 (Nat.le_refl _))
              have HB := Lib.hid (h6.less (b' := W1.heap.size) hG)
              replace hbt := hbt.trans (b6.mono hs)
              replace hG := Nat.le_trans hG b6.size
              replace hs := Nat.le_trans hs b6.size
              clear h6 b6 s6
              refine hK.out _ _ (k0) (fun hHeld2 => ?_)
              clear hK K hHeld; have hHeld := hHeld2; clear hHeld2
              try simp only [Act.put, nB, nC, nD]
              refine held_one (i := 3) rfl (by kernel_rfl) (by rfl) (fun K hK => ?_)
              refine wp_append_bytes (.tmp 32) (.tmp 34) (by rfl) w.heap.size _ p (putN (m : Int)) (by rfl) HV.out _ _ _ (by rfl) HA.out.cells HL1.out hs ?_
              intro v7 w7 o7 g7 e7
              replace k0 := g7.cell k0 (not_row HV.out.ge HBW.out)
              replace HB := Lib.hid (HB.out.apart (Nat.le_refl _) HLow.out g7)
              have HV1 := Lib.hid o7
              replace hbt := hbt.grown g7 hs HV.out.ge
              replace hG := Nat.le_trans hG g7.size
              replace hs := Nat.le_trans hs g7.size
              clear o7 g7 e7 HV HA
              refine hK.out _ _ (k0) (fun hHeld2 => ?_)
              clear hK K hHeld; have hHeld := hHeld2; clear hHeld2
              try simp only [Act.put, nB, nC, nD]
              refine held_one (i := 11) rfl (by kernel_rfl) (by rfl) (fun K hK => ?_)
              refine wp_append_bytes (.tmp 35) (.tmp 42) (by rfl) w.heap.size _ (p ++ putN (m : Int)) [x ^^^ av] (by rfl) HV1.out _ _ _ (by rfl) HB.out.cells HL2.out hs ?_
              intro v8 w8 o8 g8 e8
              replace k0 := g8.cell k0 (not_row HV1.out.ge HBW.out)
              have HV2 := Lib.hid o8
              replace hbt := hbt.grown g8 hs HV1.out.ge
              replace hG := Nat.le_trans hG g8.size
              replace hs := Nat.le_trans hs g8.size
              clear o8 g8 e8 HV1 HB
              refine hK.out _ _ (k0) (fun hHeld2 => ?_)
              clear hK K hHeld; have hHeld := hHeld2; clear hHeld2
              try simp only [Act.put, nB, nC, nD]
              refine held_take (i := 12) (v := ?_) rfl (by kernel_rfl) (by kernel_rfl) (by kernel_rfl) (fun _ _ _ h => h) (by rfl) hHeld ?_ ?_
              rotate_left 1
              · (intro w hSw; (try dsimp only at hSw); go_simp; try (with_reducible rfl))
              try simp only [Act.put, nB, nC, nD]
              refine wpAnyH_done (by kernel_rfl) ?_ _
              skip
              go_wp2_with fail
              clear hw1 hw1'
              have hw1 := HW1.out
              go_wp2
              clear hw1
              have HB3 := Lib.hid hbt
              go_roundw
              case rel => exact ⟨e, x, xi, _, rfl, hke.out, rfl, hxi, hpq.out, HV2.out, HB3.out⟩
              case measure => simp only [intOf, Int.toNat_natCast]; exact hms.out
          · refine wp_one (.tmp 41) (by rfl) z (x ^^^ av) (by rfl) hz0.out ?_
            intro w6 h6 b6 s6
            replace k0 := (b6.cell (p := ⟨b, off + k, none⟩) (Nat.lt_of_lt_of_le HBW.out hs)).trans k0
            replace HV := Lib.hid (HV.out.below b6 (Nat.le_refl _))
            have HB := Lib.hid (h6.less (b' := W1.heap.size) hG)
            replace hbt := hbt.trans (b6.mono hs)
            replace hG := Nat.le_trans hG b6.size
            replace hs := Nat.le_trans hs b6.size
            clear h6 b6 s6
            refine hK.out _ _ (k0) (fun hHeld2 => ?_)
            clear hK K hHeld; have hHeld := hHeld2; clear hHeld2
            try simp only [Act.put, nB, nC, nD]
            refine held_one (i := 2) rfl (by kernel_rfl) (by rfl) (fun K hK => ?_)
            go_simp
            (with_reducible refine (refput_any _ _ HMI.out).mono ?_)
            rintro e5 w5 ⟨v5, rfl, h5, b5⟩
            obtain ⟨A5, c5, rfl, _, _, _⟩ := h5.form _ rfl
            replace k0 := (b5.cell (p := ⟨b, off + k, none⟩) (Nat.lt_of_lt_of_le HBW.out hs)).trans k0
            replace HV := Lib.hid (HV.out.below b5 (Nat.le_refl _))
            replace HB := Lib.hid (HB.out.below b5 (Nat.le_refl _))
            have HA := Lib.hid (h5.less (b' := W1.heap.size) hG)
            replace hbt := hbt.trans (b5.mono hs)
            replace hG := Nat.le_trans hG b5.size
            replace hs := Nat.le_trans hs b5.size
            clear h5 b5
            refine hK.out _ _ (k0) (fun hHeld2 => ?_)
            clear hK K hHeld; have hHeld := hHeld2; clear hHeld2
            try simp only [Act.put, nB, nC, nD]
            refine held_one (i := 3) rfl (by kernel_rfl) (by rfl) (fun K hK => ?_)
            refine wp_append_bytes (.tmp 32) (.tmp 34) (by rfl) w.heap.size _ p (putN (m : Int)) (by rfl) HV.out _ _ _ (by rfl) HA.out.cells HL1.out hs ?_
            intro v7 w7 o7 g7 e7
            replace k0 := g7.cell k0 (not_row HV.out.ge HBW.out)
            replace HB := Lib.hid (HB.out.apart (Nat.le_refl _) HLow.out g7)
            have HV1 := Lib.hid o7
            replace hbt := hbt.grown g7 hs HV.out.ge
            replace hG := Nat.le_trans hG g7.size
            replace hs := Nat.le_trans hs g7.size
            clear o7 g7 e7 HV HA
            refine hK.out _ _ (k0) (fun hHeld2 => ?_)
            clear hK K hHeld; have hHeld := hHeld2; clear hHeld2
            try simp only [Act.put, nB, nC, nD]
            refine held_one (i := 11) rfl (by kernel_rfl) (by rfl) (fun K hK => ?_)
            refine wp_append_bytes (.tmp 35) (.tmp 42) (by rfl) w.heap.size _ (p ++ putN (m : Int)) [x ^^^ av] (by rfl) HV1.out _ _ _ (by rfl) HB.out.cells HL2.out hs ?_
            intro v8 w8 o8 g8 e8
            replace k0 := g8.cell k0 (not_row HV1.out.ge HBW.out)
            have HV2 := Lib.hid o8
            replace hbt := hbt.grown g8 hs HV1.out.ge
            replace hG := Nat.le_trans hG g8.size
            replace hs := Nat.le_trans hs g8.size
            clear o8 g8 e8 HV1 HB
            refine hK.out _ _ (k0) (fun hHeld2 => ?_)
            clear hK K hHeld; have hHeld := hHeld2; clear hHeld2
            try simp only [Act.put, nB, nC, nD]
            refine held_take (i := 12) (v := ?_) rfl (by kernel_rfl) (by kernel_rfl) (by kernel_rfl) (fun _ _ _ h => h) (by rfl) hHeld ?_ ?_
            rotate_left 1
            · (intro w hSw; (try dsimp only at hSw); go_simp; try (with_reducible rfl))
            try simp only [Act.put, nB, nC, nD]
            refine wpAnyH_done (by kernel_rfl) ?_ _
            skip
            go_wp2_with fail
            clear hw1 hw1'
            have hw1 := HW1.out
            go_wp2
            clear hw1
            have HB3 := Lib.hid hbt
            go_roundw
            case rel => exact ⟨e, x, xi, _, rfl, hke.out, rfl, hxi, hpq.out, HV2.out, HB3.out⟩
            case measure => simp only [intOf, Int.toNat_natCast]; exact hms.out
    · have hkn : k = n := by omega
      have hfin := hp.out
      rw [hkn, ← HN.out, List.drop_length] at hfin
      have hfin : p = encG 0 (groups l) := by rw [← hfin]; show p = p ++ []; rw [List.append_nil]
      have HF := Lib.hid hfin
      clear hfin
      subst hkn
      go_wp2
      go_ret
      exact ⟨_, rfl, by rw [← HF.out]; exact ho.out, hb.out⟩
theorem mul_step (k x c : Nat) (y z m : Int) (hy : y = x) (hm : m = c) (hz : z = ((128 ^ k : Nat) : Int)) (hc : x + c * 128 ^ k < 18446744073709551616) :
    IntKind.u64.wrap (m * z) = ((c * 128 ^ k : Nat) : Int) ∧ IntKind.u64.wrap (y + ((c * 128 ^ k : Nat) : Int)) = ((x + c * 128 ^ k : Nat) : Int) ∧ y + ((c * 128 ^ k : Nat) : Int) = ((x + c * 128 ^ k : Nat) : Int) := by
  subst hy hm hz
  have e : (c : Int) * ((128 ^ k : Nat) : Int) = ((c * 128 ^ k : Nat) : Int) := by simp
  have h2 : (x : Int) + ((c * 128 ^ k : Nat) : Int) = ((x + c * 128 ^ k : Nat) : Int) := by simp
  rw [e]
  refine ⟨?_, ?_, h2⟩
  · rw [IntKind.wrap_u64, Int.emod_eq_of_lt (by omega) (by omega)]
  · rw [h2, IntKind.wrap_u64, Int.emod_eq_of_lt (by omega) (by omega)]
theorem zag_odd (x : Nat) (r : Int) (h : r = x) (h1 : r % 2 = 1) : zag x = -(r / 2) - 1 := by unfold zag; rw [if_pos (by omega)]; omega
theorem zag_even (x : Nat) (r : Int) (h : r = x) (h1 : ¬ r % 2 = 1) : zag x = r / 2 := by unfold zag; rw [if_neg (by omega)]; omega
set_option maxHeartbeats 2000000 in
theorem refget_any (A : Option Addr) (l : List UInt8) (n cap B : Nat) (w : World) (hr : RB w B A l) (hn : l.length = n) (hc : n ≤ cap) (hm : cap ≤ maxLen) :
    Calls Tryz.prog 126 #[.slice A n cap] w fun e w' => e = .returned (gotV (getN l)) ∧ w = w' := by
  subst hn
  unfold maxLen at hm
  have HR := Lib.hid hr; clear hr
  go_enter Tryz.func126, Tryz.ntmps126
  go_wp2
  go_loop [5, 6, 7] (fun u s i => ∃ (k x : Nat) (y z : Int), i = .int .i64 (k : Int) ∧ k ≤ l.length ∧ k ≤ 9 ∧ u = .int .u64 y ∧ Hid (y = x) ∧ 0 ≤ y ∧ y ≤ 18446744073709551615 ∧ s = .int .u64 z ∧ 0 ≤ z ∧ z ≤ 18446744073709551615 ∧ Hid (z = ((128 ^ k : Nat) : Int)) ∧ Hid (x < 128 ^ k) ∧ Hid (getN l = gLoop k x (l.drop k))) (fun _ _ i => l.length - (intOf i).toNat)
  case atStart => exact ⟨0, 0, 0, 1, rfl, by omega, by omega, rfl, rfl, by omega, by omega, rfl, by omega, by omega, by simp [Hid], by simp [Hid], rfl⟩
  case round =>
    obtain ⟨k, x, y, z, rfl, hk, hk9, rfl, hy, hy0, hy1, rfl, hz0, hz1, hz, hx, hg⟩ := hrel
    by_cases hlt : k < l.length
    · obtain ⟨b, off, rfl, hb, hcell⟩ := HR.out (by omega)
      have hc1 := hcell k hlt
      clear hcell
      have hd : l.drop k = l[k] :: l.drop (k + 1) := by rw [List.drop_eq_getElem_cons hlt]
      obtain ⟨c, hcc⟩ : ∃ c : UInt8, l[k] = c := ⟨_, rfl⟩
      rw [hcc] at hc1 hd
      have HD := Lib.hid hd; clear hd hcc
      unfold vb at hc1
      have h256 := c.toNat_lt
      obtain ⟨m, hmm⟩ : ∃ m : Int, (c.toNat : Int) = m := ⟨_, rfl⟩
      rw [hmm] at hc1
      have hm0 : 0 ≤ m := by omega
      have hm1 : m ≤ 255 := by omega
      have HM := Lib.hid hmm; clear hmm h256
      by_cases hbad : (k = 9 ∧ 1 < m) ∨ (0 < k ∧ m = 0)
      · have hgg := gLoop_bad k x c (l.drop (k + 1)) (by have := HM.out; omega)
        have HG := Lib.hid (show getN l = .form by rw [hg.out, HD.out]; exact hgg)
        clear hgg
        by_cases h9 : k = 9 ∧ 1 < m
        · obtain ⟨h9, hb1⟩ := h9
          have t9 : ((k : Int) == 9) = true := by simp [h9]
          have H9 := Lib.hid h9; have HB := Lib.hid hbad; clear h9 hbad
          go_wp2
          go_ret3
          exact ⟨by rw [HG.out]; rfl, rfl⟩
        · have tm : (m == 0) = true := by simp; omega
          have tk : (0 : Int) < (k : Int) := by omega
          have tm1 : m ≤ 1 := by omega
          have t9 : ((k : Int) == 9) = true ∨ ((k : Int) == 9) = false := by cases ((k : Int) == 9) <;> simp
          have H9 := Lib.hid h9; have HB := Lib.hid hbad; clear h9 hbad
          rcases t9 with t9 | t9
          all_goals
            go_wp2
            go_ret3
            exact ⟨by rw [HG.out]; rfl, rfl⟩
      · have hq2 := acc_lt k x (c.toNat % 128) hk9 hx.out (by omega) (fun h => by have := HM.out; omega)
        have hst := mul_step k x (c.toNat % 128) y z (m % 128) hy.out (by have := HM.out; omega) hz.out hq2
        obtain ⟨q, hqq⟩ : ∃ q : Nat, x + c.toNat % 128 * 128 ^ k = q := ⟨_, rfl⟩
        obtain ⟨t, ht⟩ : ∃ t : Int, ((c.toNat % 128 * 128 ^ k : Nat) : Int) = t := ⟨_, rfl⟩
        rw [hqq] at hq2
        rw [hqq, ht] at hst
        obtain ⟨s1, s2, s3⟩ := hst
        obtain ⟨r, hr⟩ : ∃ r : Int, (q : Int) = r := ⟨_, rfl⟩
        rw [hr] at s2 s3
        have hr0 : 0 ≤ r := by omega
        have hr1 : r ≤ 18446744073709551615 := by omega
        have ht0 : 0 ≤ t := by omega
        have HR2 := Lib.hid hr.symm; clear hr hq2
        have HQ := Lib.hid hqq; clear hqq
        have HT := Lib.hid ht; clear ht
        have S1 := Lib.hid s1; have S2 := Lib.hid s2; have S3 := Lib.hid s3; clear s1 s2 s3
        obtain ⟨z2, hz2⟩ : ∃ z2 : Int, Hid (IntKind.u64.wrap (z * 128) = z2) := ⟨_, rfl⟩
        have hw0 : 0 ≤ z2 ∧ z2 ≤ 18446744073709551615 := by rw [← hz2.out, IntKind.wrap_u64]; omega
        have ht : (((k : Int) == 9) = true ∧ m ≤ 1) ∨ ((k : Int) == 9) = false := by
          by_cases h : k = 9
          · exact .inl ⟨by simp [h], by omega⟩
          · exact .inr (by simp; omega)
        have ht2 : (¬ (0 : Int) < (k : Int)) ∨ ((0 : Int) < (k : Int) ∧ (m == 0) = false) := by
          by_cases h : 0 < k
          · exact .inr ⟨by omega, by simp; omega⟩
          · exact .inl (by omega)
        have hk2 : Hid (k + 1 ≤ l.length) := hlt
        have hms : Hid (l.length - (k + 1) < l.length - k) := by show _ < _; omega
        by_cases h128 : 128 ≤ m
        · have hgg := gLoop_go k x c (l.drop (k + 1)) (by have := HM.out; omega) (by have := HM.out; omega)
          have hx2 := acc_next k x (c.toNat % 128) hx.out (by omega)
          rw [HQ.out] at hx2
          have hcm : c.toNat - 128 = c.toNat % 128 := by have := HM.out; have := c.toNat_lt; omega
          rw [hcm, HQ.out] at hgg
          have HG := Lib.hid (show getN l = gLoop (k + 1) q (l.drop (k + 1)) by rw [hg.out, HD.out]; exact hgg)
          have HX := Lib.hid hx2
          have hk8 : k + 1 ≤ 9 := by omega
          have hz3 : Hid (z2 = ((128 ^ (k + 1) : Nat) : Int)) := by
            have h1 : (128 : Nat) ^ (k + 1) ≤ 128 ^ 9 := Nat.pow_le_pow_right (by omega) hk8
            have e9 : (128 : Nat) ^ 9 = 9223372036854775808 := by decide
            show _ = _
            rw [← hz2.out, hz.out, IntKind.wrap_u64, Nat.pow_succ] at *
            have e : ((128 ^ k : Nat) : Int) * 128 = ((128 ^ k * 128 : Nat) : Int) := by simp
            rw [e, Int.emod_eq_of_lt (by omega) (by omega)]
          have HB := Lib.hid hbad; clear hgg hx2 hcm hbad
          have HK8 := Lib.hid hk8; clear hk8
          rcases ht with ⟨t9, tm1⟩ | t9
          · omega
          rcases ht2 with t0 | ⟨t0, t1⟩
          all_goals
            have s1 := S1.out; have s2 := S2.out; have s3 := S3.out; have s4 := hz2.out
            go_wp2
            clear s1 s2 s3 s4
            go_round
            case rel => exact ⟨k + 1, q, r, z2, by go_num, hk2.out, HK8.out, rfl, HR2, hr0, hr1, rfl, hw0.1, hw0.2, hz3, HX, HG⟩
            case measure => simp only [intOf]; have := hms.out; omega
        · have hgg := gLoop_end k x c (l.drop (k + 1)) (by have := HM.out; omega) (by have := HM.out; omega)
          have hcm : c.toNat = c.toNat % 128 := by have := HM.out; omega
          rw [show x + c.toNat * 128 ^ k = q by rw [hcm]; exact HQ.out] at hgg
          have HG := Lib.hid (show getN l = .ok q (k + 1) by rw [hg.out, HD.out]; exact hgg)
          clear hgg hcm
          have HB := Lib.hid hbad; clear hbad
          have hrr : (Hid (gotV (getN l) = .tuple #[.int .i64 (-(r / 2) - 1), .int .i64 ((k : Int) + 1), .int .i64 0]) ∧ (r % 2 == 1) = true) ∨ (Hid (gotV (getN l) = .tuple #[.int .i64 (r / 2), .int .i64 ((k : Int) + 1), .int .i64 0]) ∧ (r % 2 == 1) = false) := by
            by_cases h : r % 2 = 1
            · exact .inl ⟨by show _ = _; rw [HG.out, gotV, zag_odd q r HR2.out h]; rfl, by simpa using h⟩
            · exact .inr ⟨by show _ = _; rw [HG.out, gotV, zag_even q r HR2.out h]; rfl, by simpa using h⟩
          rcases ht with ⟨t9, tm1⟩ | t9 <;> rcases ht2 with t0 | ⟨t0, t1⟩ <;> rcases hrr with ⟨HZ, hrr⟩ | ⟨HZ, hrr⟩
          all_goals
            have s1 := S1.out; have s2 := S2.out; have s3 := S3.out; have s4 := hz2.out
            go_wp2
            go_ret3
            exact ⟨by rw [HZ.out]; rfl, rfl⟩
    · obtain rfl : k = l.length := by omega
      have HG := Lib.hid (show getN l = .more by rw [hg.out, List.drop_length, gLoop_nil])
      go_wp2
      go_ret3
      exact ⟨by rw [HG.out]; rfl, rfl⟩
def UnAns (c : Cnt) (xs : List UInt8) (w w' : World) (e : Ending) : Prop :=
  match c with
  | .form => e = .returned (.tuple #[.slice none 0 0, .int .i64 1])
  | .full => e = .returned (.tuple #[.slice none 0 0, .int .i64 4])
  | .ok _ => ∃ v, e = .returned (.tuple #[v, .int .i64 0]) ∧ OB w' w.heap.size v xs
theorem w64_id (n : Int) (h : -9223372036854775808 ≤ n ∧ n ≤ 9223372036854775807) : wrap64 n = n := by unfold wrap64; omega
theorem app_one (L : List UInt8) (k nn : Nat) (x : UInt8) (h1 : L.length ≤ 2147483647) (h2 : k < nn) (h3 : nn ≤ 2147483647) : (L ++ List.replicate k x).length + [x].length ≤ 140737488355328 := by
  rw [List.length_append, List.length_replicate]
  show L.length + k + 1 ≤ 140737488355328
  omega
set_option maxHeartbeats 4000000 in
theorem refun_pos (A : Option Addr) (l : List UInt8) (n cap : Nat) (m0 : Int) (w : World) (hM : 0 < m0) (hM1 : m0 ≤ 2147483647) (hr : RB w w.heap.size A l) (hn : l.length = n) (hc : n ≤ cap) (hm : cap ≤ maxLen) :
    Calls Tryz.prog 127 #[.slice A n cap, .int .i64 m0] w fun e w' => UnAns (cnt m0 0 (items true l)) (expand 0 (items true l)) w w' e ∧ Below w.heap.size w w' := by
  have HM0 : Hid ((0 : Int) ≤ m0) := by show (0 : Int) ≤ m0; omega
  have HR := Lib.hid hr; have HM := Lib.hid hm; have HN := Lib.hid hn; have HM1 := Lib.hid hM1
  clear hr hm hn hM1
  go_enter Tryz.func127, Tryz.ntmps127
  go_wp2
  go_loopw [0, 6, 7, 8] (fun b0 out a f wr => ∃ (A : Option Addr) (r : List UInt8) (m cap : Nat) (pre : List It) (lv : UInt8) (li : Int) (fb : Bool), b0 = .slice A m cap ∧ Hid (r.length = m) ∧ m ≤ cap ∧ Hid (cap ≤ maxLen) ∧ a = .int .u8 li ∧ f = .bool fb ∧ Hid ((lv.toNat : Int) = li) ∧ Hid (lastV 0 pre = lv) ∧ Hid (pre ++ items fb r = items true l) ∧ Hid (cnt m0 0 pre = .ok ((expand 0 pre).length : Int)) ∧ Hid (OB wr w.heap.size out (expand 0 pre)) ∧ Hid (RB wr w.heap.size A r) ∧ Hid (Below w.heap.size w wr)) (fun b0 _ _ _ _ => lenV b0)
  case atStart => exact ⟨A, l, n, cap, [], 0, 0, true, rfl, HN, hc, HM, rfl, rfl, rfl, rfl, rfl, by show _ = _; rw [cnt_nil]; rfl, OB.nil _ _, HR, Below.refl _ _⟩
  case round =>
    obtain ⟨A, r, m, cap, pre, lv, li, fb, rfl, hrm, hmc, hcm, rfl, rfl, hlv, hlp, hit, hcn, ho, hrb, hb⟩ := hrel
    have hpos : Hid (∀ x ∈ pre, (0 : Int) ≤ x.1) := fun x hx => (items_in l true x (by rw [← hit.out]; simp [hx])).1
    by_cases h0 : 0 < m
    · obtain ⟨b, off, rfl, hbw, hcell⟩ := hrb.out (by have := hrm.out; omega)
      have HCL := Lib.hid hcell
      have HG := Lib.hid (refget_any _ r m cap w.heap.size wr hrb.out hrm.out hmc hcm.out)
      have hlt0 : (0 : Int) < (m : Int) := by omega
      clear hcell
      cases hgd : getN r with
      | more =>
        have HG2 : Hid (Calls Tryz.prog 126 #[.slice (some ⟨b, off, none⟩) m cap] wr fun e w' => e = .returned (.tuple #[.int .i64 0, .int .i64 0, .int .i64 2]) ∧ wr = w') := by rw [hgd] at HG; exact HG
        have hst : stepR fb r = none := by unfold stepR; rw [hgd]
        have hfin : cnt m0 0 (items true l) = .form := by
          have h1 := hit.out
          rw [items_bad (by have := hrm.out; omega) hst] at h1
          rw [← h1, cnt_app, hcn.out]
          exact cnt_form _ _ _ _ rfl
        have HFIN := Lib.hid hfin
        clear hfin hst
        go_wp2_with (go_at_call 126; (with_reducible refine HG2.out.mono ?_); rintro e w' ⟨rfl, rfl⟩)
        go_ret2
        exact ⟨by rw [HFIN.out]; exact rfl, hb.out⟩
      | form =>
        have HG2 : Hid (Calls Tryz.prog 126 #[.slice (some ⟨b, off, none⟩) m cap] wr fun e w' => e = .returned (.tuple #[.int .i64 0, .int .i64 0, .int .i64 1]) ∧ wr = w') := by rw [hgd] at HG; exact HG
        have hst : stepR fb r = none := by unfold stepR; rw [hgd]
        have hfin : cnt m0 0 (items true l) = .form := by
          have h1 := hit.out
          rw [items_bad (by have := hrm.out; omega) hst] at h1
          rw [← h1, cnt_app, hcn.out]
          exact cnt_form _ _ _ _ rfl
        have HFIN := Lib.hid hfin
        clear hfin hst
        go_wp2_with (go_at_call 126; (with_reducible refine HG2.out.mono ?_); rintro e w' ⟨rfl, rfl⟩)
        go_ret2
        exact ⟨by rw [HFIN.out]; exact rfl, hb.out⟩
      | ok u kk =>
        obtain ⟨hu, hkp, _, hkl, hkk⟩ := getN_got r u kk hgd
        have hkm : kk ≤ m := by rw [← hrm.out]; exact hkl
        have HIN : Hid (in64 (zag u)) := zag_in u hu
        obtain ⟨y, hyy⟩ : ∃ y : Int, zag u = y := ⟨_, rfl⟩
        have HG3 : Hid (Calls Tryz.prog 126 #[.slice (some ⟨b, off, none⟩) m cap] wr fun e w' => e = .returned (gotV (.ok u kk)) ∧ wr = w') := by rw [hgd] at HG; exact HG
        have HG2 : Hid (Calls Tryz.prog 126 #[.slice (some ⟨b, off, none⟩) m cap] wr fun e w' => e = .returned (.tuple #[.int .i64 y, .int .i64 (kk : Int), .int .i64 0]) ∧ wr = w') := by rw [← hyy]; exact HG3
        clear HG3 HG hu hkp hkl
        by_cases hy1 : y < 1
        · have hyl := hyy
          have hst : stepR fb r = none := stepR_small _ hgd (by omega)
          have hfin : cnt m0 0 (items true l) = .form := by
            have h1 := hit.out
            rw [items_bad (by have := hrm.out; omega) hst] at h1
            rw [← h1, cnt_app, hcn.out]
            exact cnt_form _ _ _ _ rfl
          have HFIN := Lib.hid hfin
          clear hfin hst
          go_wp2_with (go_at_call 126; (with_reducible refine HG2.out.mono ?_); rintro e w' ⟨rfl, rfl⟩)
          go_ret2
          exact ⟨by rw [HFIN.out]; exact rfl, hb.out⟩
        · by_cases hend : m ≤ kk
          · have heq : kk = m := by omega
            have heq2 : ((m : Int) == (kk : Int)) = true := by simp [heq]
            have HEQ := Lib.hid heq; clear heq
            have hst : stepR fb r = none := stepR_stop _ hgd (by have := hrm.out; omega)
            have hfin : cnt m0 0 (items true l) = .form := by
              have h1 := hit.out
              rw [items_bad (by have := hrm.out; omega) hst] at h1
              rw [← h1, cnt_app, hcn.out]
              exact cnt_form _ _ _ _ rfl
            have HFIN := Lib.hid hfin
            clear hfin hst
            go_wp2_with (go_at_call 126; (with_reducible refine HG2.out.mono ?_); rintro e w' ⟨rfl, rfl⟩)
            go_ret2
            exact ⟨by rw [HFIN.out]; exact rfl, hb.out⟩
          · have hlt3 : (kk : Int) < (m : Int) := by omega
            have hltn : kk < m := by omega
            have heq2 : ((m : Int) == (kk : Int)) = false := by simp; omega
            obtain ⟨c, hcc⟩ : ∃ c : UInt8, r[kk]'(by have := hrm.out; omega) = c := ⟨_, rfl⟩
            have hcell := HCL.out kk (by have := hrm.out; omega)
            rw [hcc] at hcell
            unfold vb at hcell
            obtain ⟨ci, hmm⟩ : ∃ ci : Int, Hid ((c.toNat : Int) = ci) := ⟨_, rfl⟩
            rw [hmm.out] at hcell
            clear HCL
            by_cases hbz : ci = 0 ∧ fb = false
            · obtain ⟨hc0, hfb⟩ := hbz
              have hz1 : (ci == 0) = true := by simp [hc0]
              have hcz : c = 0 := by
                apply UInt8.toNat.inj
                have := hmm.out
                show c.toNat = 0
                omega
              have HC0 := Lib.hid hc0; clear hc0
              have hst : stepR fb r = none := by rw [hfb]; exact stepR_zero hgd (by have := hrm.out; omega) (by rw [hcc]; exact hcz)
              have hfin : cnt m0 0 (items true l) = .form := by
                have h1 := hit.out
                rw [items_bad (by have := hrm.out; omega) hst] at h1
                rw [← h1, cnt_app, hcn.out]
                exact cnt_form _ _ _ _ rfl
              have HFIN := Lib.hid hfin
              clear hfin hst
              go_wp2_with (go_at_call 126; (with_reducible refine HG2.out.mono ?_); rintro e w' ⟨rfl, rfl⟩)
              go_ret2
              exact ⟨by rw [HFIN.out]; exact rfl, hb.out⟩
            · have HFB : Hid (fb = true ∨ r[kk]'(by have := hrm.out; omega) ≠ 0) := by
                by_cases h : fb = true
                · exact .inl h
                · refine .inr ?_
                  rw [hcc]
                  intro e
                  have h2 := hmm.out
                  rw [e] at h2
                  exact hbz ⟨h2.symm, by simpa using h⟩
              have hcs : (ci == 0) = false ∨ ((ci == 0) = true ∧ fb = true) := by
                by_cases h : ci = 0
                · exact .inr ⟨by simp [h], by simpa [h] using hbz⟩
                · exact .inl (by simpa using h)
              have HBZ := Lib.hid hbz; clear hbz
              rcases hcs with hz1 | ⟨hz1, hfb⟩
              all_goals
                have hin := HIN.out
                have hst : stepR fb r = some (y, c, kk) := by rw [← hyy, ← hcc]; exact stepR_good _ hgd (by have := hrm.out; omega) (by omega) HFB.out
                have hit2 := hit.out
                rw [items_ok hst] at hit2
                obtain ⟨L, hL⟩ : ∃ L, Hid (L = expand 0 pre) := ⟨_, rfl⟩
                obtain ⟨lz, hlz⟩ : ∃ lz : Int, Hid ((L.length : Int) = lz) := ⟨_, rfl⟩
                have hcl : Hid (L.length ≤ 2147483647) := by
                  have h2 := (cnt_le m0 pre 0 _ HM0.out hpos.out hcn.out).2
                  have := HM1.out
                  have h3 := hL.out
                  rw [← h3] at h2
                  show _ ≤ _
                  omega
                have hlz2 : 0 ≤ lz ∧ lz ≤ m0 := by
                  have h2 := (cnt_le m0 pre 0 _ HM0.out hpos.out hcn.out).2
                  rw [← hL.out, hlz.out] at h2
                  have := hlz.out
                  omega
                obtain ⟨q, hq⟩ : ∃ q : Int, Hid (m0 - lz = q) := ⟨_, rfl⟩
                have HQ1 : Hid (wrap64 (m0 - lz) = q) := by have := HM1.out; show _ = _; rw [w64_id _ (by omega)]; exact hq.out
                obtain ⟨A6, cap6, rfl, hl6, hm6, _⟩ := ho.out.form L hL.out
                clear hm6 hl6
                by_cases hfull : q < y
                · have hfin : cnt m0 0 (items true l) = .full := by
                    rw [← hit2, cnt_app, hcn.out]
                    refine cnt_full _ _ _ _ rfl ?_
                    show m0 - ((expand 0 pre).length : Int) < y
                    rw [← hL.out, hlz.out, hq.out]
                    exact hfull
                  have HFIN := Lib.hid hfin
                  have hq1 := HQ1.out
                  have hlz' := hlz.out
                  clear hfin hst hit2
                  go_wp2_with (go_at_call 126; (with_reducible refine HG2.out.mono ?_); rintro e w' ⟨rfl, rfl⟩)
                  go_ret2
                  exact ⟨by rw [HFIN.out]; exact rfl, hb.out⟩
                · obtain ⟨x, hx⟩ : ∃ x : UInt8, Hid (x = lv ^^^ c) := ⟨_, rfl⟩
                  obtain ⟨z, hz⟩ : ∃ z : Int, Hid ((x.toNat : Int) = z) := ⟨_, rfl⟩
                  have hxor := b8_xor lv c
                  rw [← hx.out, hz.out, hlv.out, hmm.out] at hxor
                  have HCN : Hid (cnt m0 0 (pre ++ [(y, c, true)]) = .ok ((expand 0 (pre ++ [(y, c, true)])).length : Int)) := by
                    have h2 : cnt m0 0 (pre ++ [(y, c, true)]) = .ok (((expand 0 pre).length : Int) + y) := by
                      rw [cnt_app, hcn.out]
                      show cnt m0 _ [_] = _
                      rw [cnt_on _ _ _ _ rfl (by show ¬ m0 - ((expand 0 pre).length : Int) < y; rw [← hL.out, hlz.out, hq.out]; exact hfull), cnt_nil]
                    show _ = _
                    rw [h2, expand_app, expand_one, List.length_append, List.length_replicate]
                    congr 1
                    show _ + y = (((expand 0 pre).length + y.toNat : Nat) : Int)
                    omega
                  have HLV : Hid (lastV 0 (pre ++ [(y, c, true)]) = x) := by show _ = _; rw [lastV_app, hlp.out]; exact hx.out.symm
                  obtain ⟨nn, hnn⟩ : ∃ nn : Nat, Hid (y = (nn : Int)) := ⟨y.toNat, by show _ = _; omega⟩
                  have HRP : Hid (L ++ List.replicate nn x = expand 0 (pre ++ [(y, c, true)])) := by
                    show _ = _
                    rw [expand_app, expand_one, hlp.out, ← hL.out, ← hx.out]
                    show L ++ _ = L ++ List.replicate y.toNat x
                    rw [show y.toNat = nn by have := hnn.out; omega]
                  have HNM : Hid (nn ≤ 2147483647) := by have := hnn.out; have := hq.out; have := HM1.out; show _ ≤ _; omega
                  obtain ⟨k2, hk2⟩ : ∃ k2 : Nat, Hid (k2 = kk + 1) := ⟨_, rfl⟩
                  have hk2m : k2 ≤ m := by have := hk2.out; omega
                  have HIT : Hid ((pre ++ [(y, c, true)]) ++ items false (r.drop k2) = items true l) := by show _ = _; rw [hk2.out, List.append_assoc]; exact hit2
                  have HRD : Hid ((r.drop k2).length = m - k2) := by show _ = _; rw [List.length_drop, hrm.out]
                  have hrc := hrb.out.cut k2 cap (by have := hrm.out; omega) (by have := hrm.out; omega)
                  have HMS : Hid (m - k2 < m) := by have := hk2.out; show _ < _; omega
                  have HW : Hid (wrap64 ((kk : Int) + 1) = (k2 : Int)) := by have := hk2.out; have := hcm.out; unfold maxLen at this; show _ = _; rw [w64_id _ (by omega)]; omega
                  have k0 : (0 : Int) ≤ (k2 : Int) := by omega
                  have k1 : (k2 : Int) ≤ (m : Int) := by omega
                  have k3 : (m : Int) ≤ (cap : Int) := by omega
                  have k4 : (k2 : Int) ≤ (cap : Int) := by omega
                  have HY : Hid (y ≤ 2147483647) := by have := hnn.out; have := HNM.out; show _ ≤ _; omega
                  have hbs := hb.out.size
                  have hq1 := HQ1.out
                  have hlz' := hlz.out
                  clear hst hit2
                  go_wp2_with (go_at_call 126; (with_reducible refine HG2.out.mono ?_); rintro e w' ⟨rfl, rfl⟩)
                  clear hq1 hlz'
                  have HCNQ := Lib.hid hcn.out
                  obtain ⟨W0, rfl⟩ : ∃ W0, W0 = wr := ⟨wr, rfl⟩
                  go_loopw [6, 12] (fun out i wr => ∃ (k : Nat) (yi : Int), i = .int .i64 yi ∧ Hid (yi = (k : Int)) ∧ 0 ≤ yi ∧ yi ≤ y ∧ Hid (OB wr w.heap.size out (L ++ List.replicate k x)) ∧ Hid (Below w.heap.size W0 wr)) (fun _ i _ => (y - intOf i).toNat)
                  case atStart => exact ⟨0, 0, rfl, rfl, by omega, by omega, by show OB _ _ _ _; rw [List.replicate_zero, List.append_nil]; have := ho.out; rw [← hL.out] at this; exact this, Below.refl _ _⟩
                  case round =>
                    obtain ⟨k, yi, rfl, hyk, hy0, hyn, ho2, hb3⟩ := hrel
                    have hb2 := Lib.hid (hb.out.trans hb3.out)
                    by_cases hlt3 : yi < y
                    · have HLEN := Lib.hid (app_one L k nn x hcl.out (by have := hyk.out; have := hnn.out; omega) HNM.out)
                      have HONE := Lib.hid (one_reads wr z x hz.out)
                      have HBS : Hid (w.heap.size ≤ (wr.alloc (bOne z)).heap.size) := by have := hb2.out.size; show _ ≤ _; rw [World.size_alloc]; omega
                      have HB3 := Lib.hid (hb3.out.alloc hb2.out.size (bOne z))
                      have ho3 : OB (wr.alloc (bOne z)) w.heap.size _ (L ++ List.replicate k x) := ho2.out.alloc _
                      have HO3 := Lib.hid ho3; clear ho3
                      have hyk2 : Hid (yi + 1 = ((k + 1 : Nat) : Int)) := by have := hyk.out; show _ = _; omega
                      have hms : Hid ((y - (yi + 1)).toNat < (y - yi).toNat) := by show _ < _; omega
                      have hyn2 : Hid (yi + 1 ≤ y) := by show _ ≤ _; omega
                      have hy02 : Hid (0 ≤ yi + 1) := by show _ ≤ _; omega
                      have HWY : Hid (wrap64 (yi + 1) = yi + 1) := by have := HY.out; show _ = _; rw [w64_id _ (by omega)]
                      have hwy := HWY.out
                      go_wp2_with (at_builtin; refine wpList_append_bytes rfl (.tmp 63) (.tmp 65) rfl w.heap.size _ (L ++ List.replicate k x) [x] rfl HO3.out (wr.heap.size + 1) _ 1 rfl HONE.out HLEN.out HBS.out ?_; intro v2 w2 o2 g2 e2; have hb4 := HB3.out.grown g2 HBS.out HO3.out.ge; have O2 := Lib.hid o2; have HB4 := Lib.hid hb4; clear o2 g2 e2 hb4)
                      clear hwy
                      go_roundw
                      case rel => exact ⟨k + 1, yi + 1, by rw [HWY.out], hyk2, hy02.out, hyn2.out, by show OB _ _ _ _; rw [List.replicate_succ', ← List.append_assoc]; exact O2.out, HB4.out⟩
                      case measure => rw [HWY.out]; exact hms.out
                    · have hke : k = nn := by have := hyk.out; have := hnn.out; omega
                      subst hke
                      by_cases hcap : cap = k2
                      · rw [if_pos hcap] at hrc
                        have HRC := Lib.hid hrc; clear hrc
                        have HMC : Hid (m - k2 ≤ 0) := by show _ ≤ _; omega
                        have HCC2 : Hid (0 ≤ maxLen) := by have := hcm.out; unfold maxLen at *; show _ ≤ _; omega
                        have hw := HW.out
                        go_wp2
                        clear hw
                        go_roundw
                        case rel => exact ⟨some ⟨b, off, none⟩, r.drop k2, m - k2, 0, pre ++ [(y, c, true)], x, z, false, rfl, HRD.out, HMC.out, HCC2.out, rfl, rfl, hz, HLV.out, HIT.out, HCN.out, by rw [← HRP.out]; exact ho2.out, HRC.out.below hb3.out, hb2.out⟩
                        case measure => exact HMS.out
                      · rw [if_neg hcap] at hrc
                        simp only [Option.map_some, Addr.add_lit] at hrc
                        have HRC := Lib.hid hrc; clear hrc
                        have HMC : Hid (m - k2 ≤ cap - k2) := by show _ ≤ _; omega
                        have HCC2 : Hid (cap - k2 ≤ maxLen) := by have := hcm.out; unfold maxLen at *; show _ ≤ _; omega
                        have hw := HW.out
                        go_wp2
                        clear hw
                        go_roundw
                        case rel => exact ⟨some ⟨b, off + k2, none⟩, r.drop k2, m - k2, cap - k2, pre ++ [(y, c, true)], x, z, false, rfl, HRD.out, HMC.out, HCC2.out, rfl, rfl, hz, HLV.out, HIT.out, HCN.out, by rw [← HRP.out]; exact ho2.out, HRC.out.below hb3.out, hb2.out⟩
                        case measure => exact HMS.out
    · have hm0 : m = 0 := by omega
      have hre : r = [] := List.eq_nil_of_length_eq_zero (by have := hrm.out; omega)
      have hfin := hit.out
      rw [hre, items_nil, List.append_nil] at hfin
      have HF := Lib.hid hfin
      have HCN := Lib.hid hcn.out
      clear hfin hre
      subst hm0
      go_wp2
      go_ret2
      refine ⟨?_, hb.out⟩
      rw [← HF.out, HCN.out]
      exact ⟨_, rfl, ho.out⟩
set_option linter.unusedSimpArgs false
theorem RB.next {w w' : World} {A : Option Addr} {l : List UInt8} (h : RB w w.heap.size A l) (hb : Below w.heap.size w w') : RB w' w'.heap.size A l := (h.below hb).more hb.size
theorem dec_any (A : Option Addr) (l : List UInt8) (n cap : Nat) (m M : Int) (w : World) (hM : (m < 0 ∧ M = 0) ∨ (0 ≤ m ∧ M = m)) (hM1 : M ≤ 9223372036854775807) (hr : RB w w.heap.size A l) (hn : l.length = n) (hc : n ≤ cap) (hm : cap ≤ maxLen) (hl : n ≤ 4096)
    (ht : ∀ t, cnt M 0 (items true l) = .ok t → t ≤ 2147483647) :
    Calls Tryz.prog 176 #[.slice A n cap, .int .i64 m] w fun e w' => UnAns (cnt M 0 (items true l)) (expand 0 (items true l)) w w' e ∧ Below w.heap.size w w' := by
  subst hn
  cases h : cnt M 0 (items true l) with
  | form => exact dec_err A l cap m M 1 w hM hM1 hr hc hm (by rw [h]; rfl) (.inl rfl)
  | full => exact dec_err A l cap m M 4 w hM hM1 hr hc hm (by rw [h]; rfl) (.inr rfl)
  | ok t => exact (dec_ok A l cap m M t w hM hM1 hr hc hm h (ht t h) hl).mono fun e w' ⟨v, h1, h2, h3⟩ => ⟨⟨v, h1, h2⟩, h3⟩
end Go.Proofs.YtpnobpligchpiaaGreatDoor
