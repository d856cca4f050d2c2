/- texts of YpL -/
import Derived.Great.BuildSlice
import Derived.Laws.BytesString
import Derived.Test.YtpnobpligchpiaaGreatDoorYpJ
import Derived.Test.YtpnobpligchpiaaGreatDoorYpK
import Derived.Test.YtpnobpligchpiaaGreatDoorYpO
namespace Go.Proofs.YtpnobpligchpiaaGreatDoor
set_option maxRecDepth 100000
open Go.RowKit
set_option linter.unusedVariables false
set_option maxHeartbeats 2000000 in
theorem first_any (b off : Nat) (l : List UInt8) (n cap B : Nat) (w : World) (x : UInt8) (hr : RB w B (some ⟨b, off, none⟩) l) (hn : l.length = n) (h0 : 0 < n) (hx : ∀ h : 0 < l.length, l[0] = x) (hc : n ≤ cap) (hm : cap ≤ maxLen) :
 Calls Tryz.prog 188 #[.slice (some ⟨b, off, none⟩) n cap] w fun e w' => (∃ k : Nat, e = .returned (.int .i64 (k : Int)) ∧ 0 < k ∧ k ≤ n ∧ groups l = (k, x) :: groups (l.drop k)) ∧ w = w' := by
 unfold maxLen at hm
 have hcell : ∀ j (h : j < l.length), w.cell? ⟨b, off + j, none⟩ = some (vb l[j]) := fun j h => by
  obtain ⟨b', off', e, _, hc'⟩ := hr (by omega)
  have e := Option.some.inj e
  injection e with e1 e2
  subst e1 e2
  exact hc' j h
 have HCL := qh hcell
 have hc0 := hcell 0 (by omega)
 rw [hx (by omega), Nat.add_zero] at hc0
 unfold vb at hc0
 obtain ⟨xi, hxi⟩ : ∃ xi : Int, Hid ((x.toNat : Int) = xi) := ⟨_, rfl⟩
 rw [hxi.out] at hc0
 have HX := qh hx
 have HN := qh hn
 clear hcell hr hx hn
 go_enter Tryz.func188, Tryz.ntmps188
 go_wp2
 go_loop [7] (fun i => ∃ (k : Nat), i = .int .i64 (k : Int) ∧ k ≤ n ∧ Hid (∀ j (h : j < l.length), j < k → l[j] = x)) (fun i => n - (intOf i).toNat)
 case atStart => exact ⟨0, rfl, by omega, fun j h h2 => absurd h2 (by omega)⟩
 case round =>
  obtain ⟨k, rfl, hk, hj⟩ := hrel
  by_cases hlt : k < n
  · have hlt' : k < l.length := by have := HN.out; omega
    have hck := HCL.out k hlt'
    obtain ⟨c, hcc⟩ : ∃ c : UInt8, l[k] = c := ⟨_, rfl⟩
    rw [hcc] at hck
    unfold vb at hck
    obtain ⟨m, hmm⟩ : ∃ m : Int, Hid ((c.toNat : Int) = m) := ⟨_, rfl⟩
    rw [hmm.out] at hck
    have HCC := qh hcc; clear hcc
    by_cases he : m = xi
    · have hb1 : (m == xi) = true := by simp [he]
      have hcx : c = x := by
       apply UInt8.toNat.inj
       have h1 := hmm.out
       have h2 := hxi.out
       omega
      have hj2 : Hid (∀ j (h : j < l.length), j < k + 1 → l[j] = x) := fun j h h2 => by
       by_cases h3 : j = k
       · subst h3; rw [HCC.out]; exact hcx
       · exact hj.out j h (by omega)
      have HE := qh he; clear he hcx
      go_wp2
      go_round
      case rel => exact ⟨k + 1, by go_num, by omega, hj2⟩
      case measure => simp [intOf]; omega
    · have hb1 : (m == xi) = false := by simpa using he
      have hcx : c ≠ x := fun e => he (by rw [← hmm.out, ← hxi.out, e])
      have hk0 : 0 < k := by
       rcases Nat.eq_zero_or_pos k with h | h
       · subst h; exact absurd (HCC.out.symm.trans (HX.out _)) hcx
       · exact h
      have hg := groups_at l k x hk0 (by have := HN.out; omega) hj.out (fun h => by rw [HCC.out]; exact hcx)
      have HG := qh hg; have HE := qh he; clear hg he hcx
      go_wp2
      go_ret
      exact ⟨⟨k, rfl, hk0, by omega, HG.out⟩, rfl⟩
  · obtain rfl : k = n := by omega
    have hg := groups_at l k x h0 (by have := HN.out; omega) hj.out (fun h => absurd h (by have := HN.out; omega))
    have HG := qh hg; clear hg
    go_wp2
    go_ret
    exact ⟨⟨k, rfl, h0, nl _, HG.out⟩, rfl⟩
theorem put_nil (n : Int) (w : World) (hn : in64 n) :
 Calls Tryz.prog 147 #[.slice none 0 0, .int .i64 n] w fun e w' => ∃ v, e = .returned v ∧ OB w' w.heap.size v (putN n) ∧ Below w.heap.size w w' :=
 put_any none [] 0 0 n w (RB.nil _ _ _) (Nat.zero_le _) hn (by simp)
def lenV : Value → Nat
 | .slice _ n _ => n
 | _ => 0
set_option maxHeartbeats 4000000 in
theorem encode_any (A : Option Addr) (l : List UInt8) (n cap B : Nat) (w : World) (hr : RB w w.heap.size A l) (hn : l.length = n) (hc : n ≤ cap) (hm : cap ≤ maxLen) (hl : n ≤ 8192) :
 Calls Tryz.prog 173 #[.slice A n cap] w fun e w' => ∃ v, e = .returned v ∧ OB w' w.heap.size v (encG 0 (groups l)) ∧ Below w.heap.size w w' := by
 have HR := qh hr; have HM := qh hm; have HN := qh hn; have HL := qh hl
 clear hr hm hn hl
 go_enter Tryz.func173, Tryz.ntmps173
 go_wp2
 go_loopw [0, 3, 4] (fun b0 out a wr => ∃ (A : Option Addr) (r : List UInt8) (m cap : Nat) (av : UInt8) (ai : Int) (p : List UInt8), b0 = .slice A m cap ∧ Hid (r.length = m) ∧ m ≤ cap ∧ Hid (cap ≤ maxLen) ∧ Hid (m ≤ 8192) ∧ a = .int .u8 ai ∧ Hid ((av.toNat : Int) = ai) ∧ Hid (p ++ encG av (groups r) = encG 0 (groups l)) ∧ Hid (RB wr w.heap.size A r) ∧ Hid (OB wr w.heap.size out p) ∧ Hid (Below w.heap.size w wr)) (fun b0 _ _ _ => lenV b0)
 case atStart => exact ⟨A, l, n, cap, 0, 0, [], rfl, HN, hc, HM, HL, rfl, rfl, by simp [Hid], HR, OB.nil _ _, bR _ _⟩
 case round =>
  obtain ⟨A, r, m, cap, av, ai, p, rfl, hrm, hmc, hcm, hm4, rfl, hav, hp, hrb, ho, hb⟩ := hrel
  have hpl : Hid (p.length ≤ 90112) := by
   have h1 := encG_groups_len l (by rw [HN.out]; exact HL.out) 0
   rw [← hp.out, List.length_append] at h1
   show _ ≤ _
   omega
  by_cases h0 : 0 < m
  · obtain ⟨b, off, rfl, hbw, hcell⟩ := hrb.out (by have := hrm.out; omega)
    have hc0 := hcell 0 (by have := hrm.out; omega)
    obtain ⟨x, hx⟩ : ∃ x : UInt8, r[0]'(by have := hrm.out; omega) = x := ⟨_, rfl⟩
    rw [hx, Nat.add_zero] at hc0
    unfold vb at hc0
    have HX : Hid (∀ h : 0 < r.length, r[0] = x) := fun h => hx
    clear hcell hx
    have hlt0 : (0 : Int) < (m : Int) := by omega
    have hF := first_any b off r m cap w.heap.size wr x hrb.out hrm.out h0 HX.out hmc hcm.out
    have HF := qh hF; clear hF
    go_wp2_with fail
    (with_reducible refine HF.out.mono ?_)
    rintro e w0 ⟨⟨k, rfl, hk0, hkm, hg⟩, rfl⟩
    have HG := qh hg; clear hg HF
    have hin : in64 (k : Int) := by have := hm4.out; unfold in64; omega
    have HIN := qh hin; clear hin
    go_wp2_with fail
    (with_reducible refine (put_nil _ _ HIN.out).mono ?_)
    rintro e w1 ⟨v1, rfl, ov, hb1⟩
    obtain ⟨c, hcq⟩ : ∃ c, c = putN (k : Int) := ⟨_, rfl⟩
    obtain ⟨A1, cap1, rfl, hc1, hm1, hr1⟩ := ov.form c hcq
    have hcl : Hid (c.length ≤ 10) := by rw [hcq]; exact putN_len _ HIN.out
    have HCQ := qh hcq
    have o1 := ho.out.below hb1 (nl _)
    have hbs := hb.out.size
    have hb1s := hb1.size
    have hbw1 : Below w.heap.size wr w1 := hb1.mono hbs
    have HB1 := qh hbw1; have O1 := qh o1; have R1 := qh hr1
    have hlen1 : p.length + c.length ≤ 140737488355328 := by have := hpl.out; have := hcl.out; omega
    have HL1 := qh hlen1; have HS1 := qh (Nat.le_trans hbs hb1s)
    have hlen2 : (p ++ c).length + [x ^^^ av].length ≤ 140737488355328 := by have := hpl.out; have := hcl.out; rw [List.length_append]; show p.length + c.length + 1 ≤ _; omega
    have HL2 := qh hlen2
    obtain ⟨xi, hxi⟩ : ∃ xi : Int, Hid ((x.toNat : Int) = xi) := ⟨_, rfl⟩
    obtain ⟨z, hz⟩ : ∃ z : Int, Hid (((x ^^^ av).toNat : Int) = z) := ⟨_, rfl⟩
    have hxor := b8_xor x av
    rw [hz.out, hxi.out, hav.out] at hxor
    rw [hxi.out] at hc0
    clear hcq ov o1 hr1 hb1 hbw1 hb1s hlen1 hm1 hlen2
    go_wp2_with first
     | (at_builtin; refine wpList_append_bytes rfl (.tmp 15) (.tmp 21) rfl w.heap.size v2 (p ++ c) [x ^^^ av] rfl O3.out (w2.heap.size + 1) _ 1 rfl HONE.out HL2.out HS3.out ?_; intro v3 w3 o4 g4 e4; have hbw3 := (HB2.out.alloc HS2.out (bOne z)).grown g4 HS3.out O3.out.ge; have c3 := (hbw3.cell (p := ⟨b, off, none⟩) hbw).trans hc0; have O4 := qh o4; have HB3 := qh hbw3; clear o4 hbw3 g4 e4 c2)
     | (at_builtin; refine wpList_append_bytes rfl (.tmp 11) (.tmp 13) rfl w.heap.size _ p c rfl O1.out w1.heap.size A1 cap1 rfl R1.out HL1.out HS1.out ?_; intro v2 w2 o2 g2 e2; have hbw2 := HB1.out.grown g2 HS1.out O1.out.ge; have c2 := (hbw2.cell (p := ⟨b, off, none⟩) hbw).trans hc0; have hone := one_reads w2 z (x ^^^ av) hz.out; have hs2 := Nat.le_trans HS1.out g2.size; have hs3 : w.heap.size ≤ (w2.alloc (bOne z)).heap.size := (by rw [World.size_alloc]; omega); have o3 : OB (w2.alloc (bOne z)) w.heap.size v2 (p ++ c) := o2.alloc _; have HONE := qh hone; have O2 := qh o2; have O3 := qh o3; have HB2 := qh hbw2; have HS2 := qh hs2; have HS3 := qh hs3; clear hone o2 o3 hbw2 hs2 hs3 g2 e2)
    have hpq : (p ++ c ++ [x ^^^ av]) ++ encG x (groups (r.drop k)) = encG 0 (groups l) := by
     rw [← hp.out, HG.out, HCQ.out]
     show _ = p ++ (putN (k : Int) ++ (x ^^^ av) :: encG x (groups (r.drop k)))
     simp [List.append_assoc]
    have HPQ := qh hpq; clear hpq
    have HRD : Hid ((r.drop k).length = m - k) := by show _ = _; rw [List.length_drop, hrm.out]
    have hrc := hrb.out.cut k cap (by have := hrm.out; omega) (by have := hrm.out; omega)
    have k0 : (0 : Int) ≤ (k : Int) := by omega
    have k1 : (k : Int) ≤ (m : Int) := by omega
    have k2 : (m : Int) ≤ (cap : Int) := by omega
    have k3 : (k : Int) ≤ (cap : Int) := by omega
    by_cases hcap : cap = k
    · rw [if_pos hcap] at hrc
      have HRC := qh hrc; clear hrc
      go_quiet (fail)
      go_wp2
      go_roundw
      case rel => exact ⟨some ⟨b, off, none⟩, r.drop k, m - k, 0, x, xi, p ++ c ++ [x ^^^ av], rfl, HRD.out, by omega, by have := hcm.out; unfold maxLen at *; show _ ≤ _; omega, by have := hm4.out; show _ ≤ _; omega, rfl, hxi, HPQ.out, HRC.out.below (below_drewN HB3.out _), O4.out.below (below_drewN (bR _ _) _) (nl _), below_drewN (hb.out.trans HB3.out) _⟩
      case measure => show m - k < m; omega
    · rw [if_neg hcap] at hrc
      simp only [Option.map_some, Addr.add_lit] at hrc
      have HRC := qh hrc; clear hrc
      go_quiet (fail)
      go_wp2
      go_roundw
      case rel => exact ⟨some ⟨b, off + k, none⟩, r.drop k, m - k, cap - k, x, xi, p ++ c ++ [x ^^^ av], rfl, HRD.out, by omega, by have := hcm.out; unfold maxLen at *; show _ ≤ _; omega, by have := hm4.out; show _ ≤ _; omega, rfl, hxi, HPQ.out, HRC.out.below (below_drewN HB3.out _), O4.out.below (below_drewN (bR _ _) _) (nl _), below_drewN (hb.out.trans HB3.out) _⟩
      case measure => show m - k < m; omega
  · have hm0 : m = 0 := by omega
    have hre : r = [] := List.eq_nil_of_length_eq_zero (by have := hrm.out; omega)
    have hfin := hp.out
    rw [hre] at hfin
    have hfin : p = encG 0 (groups l) := by rw [← hfin]; show p = p ++ []; rw [List.append_nil]
    have HF := qh hfin
    clear hfin hre
    subst hm0
    go_wp2
    go_ret
    exact ⟨_, rfl, by rw [← HF.out]; exact ho.out, hb.out⟩
theorem groups_mid (l : List UInt8) (k m : Nat) (x : UInt8) (hm : 1 ≤ m) (hk : k + m ≤ l.length) (hall : ∀ j (h : j < l.length), k ≤ j → j < k + m → l[j] = x) (hne : ∀ h : k + m < l.length, l[k + m] ≠ x) :
 groups (l.drop k) = (m, x) :: groups (l.drop (k + m)) := by
 have h := groups_at (l.drop k) m x hm (by rw [List.length_drop]; omega)
  (fun j h hj => by rw [List.length_drop] at h; rw [List.getElem_drop]; exact hall (k + j) (by omega) (by omega) (by omega))
  (fun h => by rw [List.length_drop] at h; rw [List.getElem_drop]; exact hne (by omega))
 rw [List.drop_drop] at h
 exact h
set_option maxHeartbeats 4000000 in
theorem refruns_any (A : Option Addr) (l : List UInt8) (n cap : Nat) (w : World) (hr : RB w w.heap.size A l) (hn : l.length = n) (hc : n ≤ cap) (hm : cap ≤ maxLen) (hl : n ≤ 4096) :
 Calls Tryz.prog 80 #[.slice A n cap] w fun e w' => ∃ v, e = .returned v ∧ OB w' w.heap.size v (encG 0 (groups l)) ∧ Below w.heap.size w w' := by
 have HR := qh hr; have HM := qh hm; have HN := qh hn; have HL := qh hl
 clear hr hm hn hl
 go_enter Tryz.func80, Tryz.ntmps80
 go_wp2
 go_loopw [3, 4, 5] (fun out a i wr => ∃ (k : Nat) (av : UInt8) (ai : Int) (p : List UInt8), i = .int .i64 (k : Int) ∧ k ≤ n ∧ a = .int .u8 ai ∧ Hid ((av.toNat : Int) = ai) ∧ Hid (p ++ encG av (groups (l.drop k)) = encG 0 (groups l)) ∧ Hid (OB wr w.heap.size out p) ∧ Hid (Below w.heap.size w wr)) (fun _ _ i _ => n - (intOf i).toNat)
 case atStart => exact ⟨0, 0, 0, [], rfl, by omega, rfl, rfl, rfl, OB.nil _ _, bR _ _⟩
 case round =>
  obtain ⟨k, av, ai, p, rfl, hk, rfl, hav, hp, ho, hb⟩ := hrel
  have hpl : Hid (p.length ≤ 90112) := by
   have h1 := encG_groups_len l (by rw [HN.out]; have := HL.out; omega) 0
   rw [← hp.out, List.length_append] at h1
   show _ ≤ _
   omega
  by_cases hlt : k < n
  · have hrb := HR.out.below hb.out
    obtain ⟨b, off, rfl, hbw, hcell⟩ := hrb (by have := HN.out; omega)
    have HCL := qh hcell
    have hck := hcell k (by have := HN.out; omega)
    obtain ⟨x, hx⟩ : ∃ x : UInt8, l[k]'(by have := HN.out; omega) = x := ⟨_, rfl⟩
    rw [hx] at hck
    unfold vb at hck
    obtain ⟨xi, hxi⟩ : ∃ xi : Int, Hid ((x.toNat : Int) = xi) := ⟨_, rfl⟩
    rw [hxi.out] at hck
    have HX : Hid (∀ h : k < l.length, l[k] = x) := fun h => hx
    clear hcell hx hrb
    have hkn : (k : Int) < (n : Int) := by omega
    go_wp2_with fail
    obtain ⟨W0, rfl⟩ : ∃ W0, W0 = wr := ⟨wr, rfl⟩
    have HCK := qh hck; clear hck
    go_loopw [6] (fun c wr => ∃ (m : Nat), c = .int .i64 (m : Int) ∧ 1 ≤ m ∧ k + m ≤ n ∧ Hid (∀ j (h : j < l.length), k ≤ j → j < k + m → l[j] = x) ∧ Hid (Below W0.heap.size W0 wr)) (fun c _ => n - (intOf c).toNat)
    case atStart =>
     have hst : ∀ j (h : j < l.length), k ≤ j → j < k + 1 → l[j] = x := fun j h h1 h2 => by
      have e : j = k := by omega
      subst e
      exact HX.out h
     exact ⟨1, rfl, by omega, by omega, hst, bR _ _⟩
    case round =>
     obtain ⟨m, rfl, hm1, hkm, hall, hbw2⟩ := hrel
     obtain ⟨e, he⟩ : ∃ e : Nat, Hid (e = k + m) := ⟨_, rfl⟩
     have HW1 : Hid (wrap64 ((k : Int) + (m : Int)) = (e : Int)) := by have := he.out; have := HL.out; show _ = _; rw [show wrap64 ((k : Int) + (m : Int)) = (k : Int) + (m : Int) from by unfold wrap64; omega]; omega
     have HW2 : Hid (IntKind.i64.wrap ((k : Int) + (m : Int)) = (e : Int)) := by show _ = _; rw [IntKind.wrap_i64]; have := he.out; have := HL.out; omega
     have hbl : b < W0.heap.size := Nat.lt_of_lt_of_le hbw hb.out.size
     have hck := (hbw2.out.cell (p := ⟨b, off + k, none⟩) hbl).trans HCK.out
     by_cases hen : e < n
     · have hen1 : (e : Int) < (n : Int) := by omega
       have hce := HCL.out e (by have := HN.out; omega)
       obtain ⟨c, hcc⟩ : ∃ c : UInt8, l[e]'(by have := HN.out; omega) = c := ⟨_, rfl⟩
       rw [hcc] at hce
       unfold vb at hce
       obtain ⟨ci, hci⟩ : ∃ ci : Int, Hid ((c.toNat : Int) = ci) := ⟨_, rfl⟩
       rw [hci.out] at hce
       replace hce := (hbw2.out.cell (p := ⟨b, off + e, none⟩) hbl).trans hce
       have HCC : Hid (∀ h : e < l.length, l[e] = c) := fun h => hcc
       clear hcc
       by_cases heq : ci = xi
       · have hb1 : (ci == xi) = true := by simp [heq]
         have hcx : c = x := by
          apply UInt8.toNat.inj
          have h1 := hci.out
          have h2 := hxi.out
          omega
         have hall2 : Hid (∀ j (h : j < l.length), k ≤ j → j < k + (m + 1) → l[j] = x) := fun j h h1 h2 => by
          by_cases h3 : j < k + m
          · exact hall.out j h h1 h3
          · obtain rfl : j = e := by have := he.out; omega
            rw [HCC.out h]; exact hcx
         have HE := qh heq; clear heq hcx
         have HW3 : Hid (wrap64 ((m : Int) + 1) = ((m + 1 : Nat) : Int)) := by have := HL.out; show _ = _; rw [show wrap64 ((m : Int) + 1) = (m : Int) + 1 from by unfold wrap64; omega]; omega
         have hkm2 : Hid (k + (m + 1) ≤ n) := by have := he.out; show _ ≤ _; omega
         have hms : Hid (n - (m + 1) < n - m) := by have := he.out; show _ < _; omega
         have hw1 := HW1.out
         have hw2 := HW3.out
         have hw1' := HW2.out
         go_wp2_with fail
         go_quiet (fail)
         go_wp2
         clear hw1 hw1'
         go_roundw
         case rel => exact ⟨m + 1, by rw [hw2], Nat.le_add_left _ _, hkm2.out, hall2, below_drewN hbw2.out _⟩
         case measure => rw [hw2]; simp only [intOf, Int.toNat_natCast]; exact hms.out
       · have hcx : c ≠ x := fun h => heq (by rw [← hci.out, ← hxi.out, h])
         have hb1 : (ci == xi) = false := by simpa using heq
         have hkml : k + m ≤ l.length := by have := HN.out; omega
         have HG : Hid (groups (l.drop k) = (m, x) :: groups (l.drop e)) := by
          have h1 := groups_mid l k m x hm1 hkml hall.out (fun h => by
           have h2 := HCC.out (by have := he.out; omega)
           have h3 := he.out
           subst h3
           rw [h2]; exact hcx)
          rw [← he.out] at h1
          exact h1
         clear hkml hcx
         have HEQ := qh heq; clear heq
         have hrc := HR.out.below hb.out
         have hpq : Hid ((p ++ putN (m : Int) ++ [x ^^^ av]) ++ encG x (groups (l.drop e)) = encG 0 (groups l)) := by
          show _ = _
          rw [← hp.out, HG.out]
          show _ = p ++ (putN (m : Int) ++ (x ^^^ av) :: encG x (groups (l.drop e)))
          simp [List.append_assoc]
         have HMI : Hid (in64 (m : Int)) := by have := HL.out; show in64 _; unfold in64; omega
         have hml := putN_len _ HMI.out
         have HL1 : Hid (p.length + (putN (m : Int)).length ≤ 140737488355328) := by have := hpl.out; show _ ≤ _; omega
         have HL2 : Hid ((p ++ putN (m : Int)).length + [x ^^^ av].length ≤ 140737488355328) := by have := hpl.out; show _ ≤ _; rw [List.length_append]; show p.length + (putN (m : Int)).length + 1 ≤ _; omega
         obtain ⟨z, hz0⟩ : ∃ z : Int, Hid (((x ^^^ av).toNat : Int) = z) := ⟨_, rfl⟩
         have hxor := b8_xor x av
         rw [hz0.out, hxi.out, hav.out] at hxor
         have hke : Hid (e ≤ n) := by have := he.out; show _ ≤ _; omega
         have hms : Hid (n - e < n - k) := by have := he.out; show _ < _; omega
         have hsz0 := hb.out.size
         clear hml hrc
         have HBL := qh hbl
         clear hbl
         have hw1 := HW1.out
         have hw1' := HW2.out
         go_wp2_with fail
         go_quiet (fail)
         rename_i nq
         go_wp2_with fail
         obtain ⟨W1, hW1⟩ : ∃ W1, wr.drewN nq = W1 := ⟨_, rfl⟩
         rw [hW1]
         have hbw3 : Below W0.heap.size W0 W1 := by rw [← hW1]; exact below_drewN hbw2.out _
         clear hW1
         have hbt : Below w.heap.size w W1.drew := (hb.out.trans (hbw3.mono hsz0)).drew
         have k0 : W1.drew.cell? ⟨b, off + k, none⟩ = some (.int .u8 xi) := (hbw3.cell (p := ⟨b, off + k, none⟩) HBL.out).trans HCK.out
         have HV : Hid (OB W1.drew w.heap.size u3 p) := (ho.out.below hbw3 (nl _)).below (bR _ _).drew (nl _)
         have HLow : Hid (Low u3 W1.heap.size) := (ho.out.below hbw3 (nl _)).low
         have hG : W1.heap.size ≤ W1.drew.heap.size := nl _
         have hs : w.heap.size ≤ W1.drew.heap.size := hbt.size
         have HBW := qh hbw
         clear hbw3 hck
         refine wp_region_held_drew (S := (fun w' => w'.cell? ⟨b, off + k, none⟩ = some (.int .u8 xi))) (by kernel_rfl) (k0) (fun hHeld => ?_)
         refine htk (i := 0) (v := ?_) rfl (by kernel_rfl) (fun _ _ _ h => h) (by rfl) hHeld ?_ ?_
         rotate_left 1
         · (intro w hSw; (try dsimp only at hSw); go_simp; try (with_reducible rfl))
         try simp only [Act.put, nB, nC, nD]
         refine htk (i := 1) (v := ?_) rfl (by kernel_rfl) (fun _ _ _ h => h) (by rfl) hHeld ?_ ?_
         rotate_left 1
         · (intro w hSw; (try dsimp only at hSw); go_simp; try (with_reducible rfl))
         try simp only [Act.put, nB, nC, nD]
         refine htk (i := 4) (v := ?_) rfl (by kernel_rfl) (fun _ _ _ h => h) (by rfl) hHeld ?_ ?_
         rotate_left 1
         · (intro w hSw; (try dsimp only at hSw); go_simp; try (with_reducible rfl))
         try simp only [Act.put, nB, nC, nD]
         refine htk (i := 5) (v := ?_) rfl (by kernel_rfl) (fun _ _ _ h => h) (by rfl) hHeld ?_ ?_
         rotate_left 1
         · (intro w hSw; (try dsimp only at hSw); go_simp; try (with_reducible rfl))
         try simp only [Act.put, nB, nC, nD]
         refine htk (i := 6) (v := ?_) rfl (by kernel_rfl) (fun _ _ _ h => h) (by rfl) hHeld ?_ ?_
         rotate_left 1
         · (intro w hSw; (try dsimp only at hSw); go_simp; try (with_reducible rfl))
         try simp only [Act.put, nB, nC, nD]
         refine htk (i := 7) (v := ?_) rfl (by kernel_rfl) (fun _ _ _ h => h) (by rfl) hHeld ?_ ?_
         rotate_left 1
         · (intro w hSw; (try dsimp only at hSw); go_simp; try (with_reducible rfl))
         try simp only [Act.put, nB, nC, nD]
         refine htk (i := 8) (v := ?_) rfl (by kernel_rfl) (fun _ _ _ h => h) (by rfl) hHeld ?_ ?_
         rotate_left 1
         · (intro w hSw; (try dsimp only at hSw); go_simp; try (with_reducible rfl))
         try simp only [Act.put, nB, nC, nD]
         refine htk (i := 9) (v := ?_) rfl (by kernel_rfl) (fun _ _ _ h => h) (by rfl) hHeld ?_ ?_
         rotate_left 1
         · (intro w hSw; (try dsimp only at hSw); go_simp; try (with_reducible rfl))
         try simp only [Act.put, nB, nC, nD]
         refine held_two (i := 2) (j := 10) rfl rfl (by kernel_rfl) (by rfl) (by rfl) (fun K hK => ?_) (fun K hK => ?_)
         · go_simp
           (with_reducible refine (refput_any _ _ HMI.out).mono ?_)
           rintro e5 w5 ⟨v5, rfl, h5, b5⟩
           obtain ⟨A5, c5, rfl, _, _, _⟩ := h5.form _ rfl
           replace k0 := (b5.cell (p := ⟨b, off + k, none⟩) (Nat.lt_of_lt_of_le HBW.out hs)).trans k0
           replace HV := qh (HV.out.below b5 (nl _))
           have HA := qh (h5.less (b' := W1.heap.size) hG)
           replace hbt := hbt.trans (b5.mono hs)
           replace hG := Nat.le_trans hG b5.size
           replace hs := Nat.le_trans hs b5.size
           clear h5 b5
           refine hK.out _ _ (k0) (fun hHeld2 => ?_)
           clear hK K hHeld; have hHeld := hHeld2; clear hHeld2
           try simp only [Act.put, nB, nC, nD]
           refine held_two (i := 3) (j := 10) rfl rfl (by kernel_rfl) (by rfl) (by rfl) (fun K hK => ?_) (fun K hK => ?_)
           · refine wp_append_bytes (.tmp 32) (.tmp 34) (by rfl) w.heap.size _ p (putN (m : Int)) (by rfl) HV.out _ _ _ (by rfl) HA.out.cells HL1.out hs ?_
             intro v7 w7 o7 g7 e7
             replace k0 := g7.cell k0 (not_row HV.out.ge HBW.out)
             have HV1 := qh o7
             replace hbt := hbt.grown g7 hs HV.out.ge
             replace hG := Nat.le_trans hG g7.size
             replace hs := Nat.le_trans hs g7.size
             clear o7 g7 e7 HV HA
             refine hK.out _ _ (k0) (fun hHeld2 => ?_)
             clear hK K hHeld; have hHeld := hHeld2; clear hHeld2
             try simp only [Act.put, nB, nC, nD]
             refine held_one (i := 10) rfl (by kernel_rfl) (by rfl) (fun K hK => ?_)
             refine wp_one (.tmp 41) (by rfl) z (x ^^^ av) (by rfl) hz0.out ?_
             intro w6 h6 b6 s6
             replace k0 := (b6.cell (p := ⟨b, off + k, none⟩) (Nat.lt_of_lt_of_le HBW.out hs)).trans k0
             replace HV1 := qh (HV1.out.below b6 (nl _))
             have HB := qh (h6.less (b' := W1.heap.size) hG)
             replace hbt := hbt.trans (b6.mono hs)
             replace hG := Nat.le_trans hG b6.size
             replace hs := Nat.le_trans hs b6.size
             clear h6 b6 s6
             refine hK.out _ _ (k0) (fun hHeld2 => ?_)
             clear hK K hHeld; have hHeld := hHeld2; clear hHeld2
             try simp only [Act.put, nB, nC, nD]
             refine held_one (i := 11) rfl (by kernel_rfl) (by rfl) (fun K hK => ?_)
             refine wp_append_bytes (.tmp 35) (.tmp 42) (by rfl) w.heap.size _ (p ++ putN (m : Int)) [x ^^^ av] (by rfl) HV1.out _ _ _ (by rfl) HB.out.cells HL2.out hs ?_
             intro v8 w8 o8 g8 e8
             replace k0 := g8.cell k0 (not_row HV1.out.ge HBW.out)
             have HV2 := qh o8
             replace hbt := hbt.grown g8 hs HV1.out.ge
             replace hG := Nat.le_trans hG g8.size
             replace hs := Nat.le_trans hs g8.size
             clear o8 g8 e8 HV1 HB
             refine hK.out _ _ (k0) (fun hHeld2 => ?_)
             clear hK K hHeld; have hHeld := hHeld2; clear hHeld2
             try simp only [Act.put, nB, nC, nD]
             refine htk (i := 12) (v := ?_) rfl (by kernel_rfl) (fun _ _ _ h => h) (by rfl) hHeld ?_ ?_
             rotate_left 1
             · (intro w hSw; (try dsimp only at hSw); go_simp; try (with_reducible rfl))
             try simp only [Act.put, nB, nC, nD]
             refine wpAnyH_done (by kernel_rfl) ?_ _
             skip
             go_wp2_with fail
             clear hw1 hw1'
             have hw1 := HW1.out
             go_wp2
             clear hw1
             have HB3 := qh hbt
             go_roundw
             case rel => exact ⟨e, x, xi, _, rfl, hke.out, rfl, hxi, hpq.out, HV2.out, HB3.out⟩
             case measure => simp only [intOf, Int.toNat_natCast]; exact hms.out
           · refine wp_one (.tmp 41) (by rfl) z (x ^^^ av) (by rfl) hz0.out ?_
             intro w6 h6 b6 s6
             replace k0 := (b6.cell (p := ⟨b, off + k, none⟩) (Nat.lt_of_lt_of_le HBW.out hs)).trans k0
             replace HV := qh (HV.out.below b6 (nl _))
             replace HA := qh (HA.out.below b6 (nl _))
             have HB := qh (h6.less (b' := W1.heap.size) hG)
             replace hbt := hbt.trans (b6.mono hs)
             replace hG := Nat.le_trans hG b6.size
             replace hs := Nat.le_trans hs b6.size
             clear h6 b6 s6
             refine hK.out _ _ (k0) (fun hHeld2 => ?_)
             clear hK K hHeld; have hHeld := hHeld2; clear hHeld2
             try simp only [Act.put, nB, nC, nD]
             refine held_one (i := 3) rfl (by kernel_rfl) (by rfl) (fun K hK => ?_)
             refine wp_append_bytes (.tmp 32) (.tmp 34) (by rfl) w.heap.size _ p (putN (m : Int)) (by rfl) HV.out _ _ _ (by rfl) HA.out.cells HL1.out hs ?_
             intro v7 w7 o7 g7 e7
             replace k0 := g7.cell k0 (not_row HV.out.ge HBW.out)
             replace HB := qh (HB.out.apart (nl _) HLow.out g7)
             have HV1 := qh o7
             replace hbt := hbt.grown g7 hs HV.out.ge
             replace hG := Nat.le_trans hG g7.size
             replace hs := Nat.le_trans hs g7.size
             clear o7 g7 e7 HV HA
             refine hK.out _ _ (k0) (fun hHeld2 => ?_)
             clear hK K hHeld; have hHeld := hHeld2; clear hHeld2
             try simp only [Act.put, nB, nC, nD]
             refine held_one (i := 11) rfl (by kernel_rfl) (by rfl) (fun K hK => ?_)
             refine wp_append_bytes (.tmp 35) (.tmp 42) (by rfl) w.heap.size _ (p ++ putN (m : Int)) [x ^^^ av] (by rfl) HV1.out _ _ _ (by rfl) HB.out.cells HL2.out hs ?_
             intro v8 w8 o8 g8 e8
             replace k0 := g8.cell k0 (not_row HV1.out.ge HBW.out)
             have HV2 := qh o8
             replace hbt := hbt.grown g8 hs HV1.out.ge
             replace hG := Nat.le_trans hG g8.size
             replace hs := Nat.le_trans hs g8.size
             clear o8 g8 e8 HV1 HB
             refine hK.out _ _ (k0) (fun hHeld2 => ?_)
             clear hK K hHeld; have hHeld := hHeld2; clear hHeld2
             try simp only [Act.put, nB, nC, nD]
             refine htk (i := 12) (v := ?_) rfl (by kernel_rfl) (fun _ _ _ h => h) (by rfl) hHeld ?_ ?_
             rotate_left 1
             · (intro w hSw; (try dsimp only at hSw); go_simp; try (with_reducible rfl))
             try simp only [Act.put, nB, nC, nD]
             refine wpAnyH_done (by kernel_rfl) ?_ _
             skip
             go_wp2_with fail
             clear hw1 hw1'
             have hw1 := HW1.out
             go_wp2
             clear hw1
             have HB3 := qh hbt
             go_roundw
             case rel => exact ⟨e, x, xi, _, rfl, hke.out, rfl, hxi, hpq.out, HV2.out, HB3.out⟩
             case measure => simp only [intOf, Int.toNat_natCast]; exact hms.out
         · refine wp_one (.tmp 41) (by rfl) z (x ^^^ av) (by rfl) hz0.out ?_
           intro w6 h6 b6 s6
           replace k0 := (b6.cell (p := ⟨b, off + k, none⟩) (Nat.lt_of_lt_of_le HBW.out hs)).trans k0
           replace HV := qh (HV.out.below b6 (nl _))
           have HB := qh (h6.less (b' := W1.heap.size) hG)
           replace hbt := hbt.trans (b6.mono hs)
           replace hG := Nat.le_trans hG b6.size
           replace hs := Nat.le_trans hs b6.size
           clear h6 b6 s6
           refine hK.out _ _ (k0) (fun hHeld2 => ?_)
           clear hK K hHeld; have hHeld := hHeld2; clear hHeld2
           try simp only [Act.put, nB, nC, nD]
           refine held_one (i := 2) rfl (by kernel_rfl) (by rfl) (fun K hK => ?_)
           go_simp
           (with_reducible refine (refput_any _ _ HMI.out).mono ?_)
           rintro e5 w5 ⟨v5, rfl, h5, b5⟩
           obtain ⟨A5, c5, rfl, _, _, _⟩ := h5.form _ rfl
           replace k0 := (b5.cell (p := ⟨b, off + k, none⟩) (Nat.lt_of_lt_of_le HBW.out hs)).trans k0
           replace HV := qh (HV.out.below b5 (nl _))
           replace HB := qh (HB.out.below b5 (nl _))
           have HA := qh (h5.less (b' := W1.heap.size) hG)
           replace hbt := hbt.trans (b5.mono hs)
           replace hG := Nat.le_trans hG b5.size
           replace hs := Nat.le_trans hs b5.size
           clear h5 b5
           refine hK.out _ _ (k0) (fun hHeld2 => ?_)
           clear hK K hHeld; have hHeld := hHeld2; clear hHeld2
           try simp only [Act.put, nB, nC, nD]
           refine held_one (i := 3) rfl (by kernel_rfl) (by rfl) (fun K hK => ?_)
           refine wp_append_bytes (.tmp 32) (.tmp 34) (by rfl) w.heap.size _ p (putN (m : Int)) (by rfl) HV.out _ _ _ (by rfl) HA.out.cells HL1.out hs ?_
           intro v7 w7 o7 g7 e7
           replace k0 := g7.cell k0 (not_row HV.out.ge HBW.out)
           replace HB := qh (HB.out.apart (nl _) HLow.out g7)
           have HV1 := qh o7
           replace hbt := hbt.grown g7 hs HV.out.ge
           replace hG := Nat.le_trans hG g7.size
           replace hs := Nat.le_trans hs g7.size
           clear o7 g7 e7 HV HA
           refine hK.out _ _ (k0) (fun hHeld2 => ?_)
           clear hK K hHeld; have hHeld := hHeld2; clear hHeld2
           try simp only [Act.put, nB, nC, nD]
           refine held_one (i := 11) rfl (by kernel_rfl) (by rfl) (fun K hK => ?_)
           refine wp_append_bytes (.tmp 35) (.tmp 42) (by rfl) w.heap.size _ (p ++ putN (m : Int)) [x ^^^ av] (by rfl) HV1.out _ _ _ (by rfl) HB.out.cells HL2.out hs ?_
           intro v8 w8 o8 g8 e8
           replace k0 := g8.cell k0 (not_row HV1.out.ge HBW.out)
           have HV2 := qh o8
           replace hbt := hbt.grown g8 hs HV1.out.ge
           replace hG := Nat.le_trans hG g8.size
           replace hs := Nat.le_trans hs g8.size
           clear o8 g8 e8 HV1 HB
           refine hK.out _ _ (k0) (fun hHeld2 => ?_)
           clear hK K hHeld; have hHeld := hHeld2; clear hHeld2
           try simp only [Act.put, nB, nC, nD]
           refine htk (i := 12) (v := ?_) rfl (by kernel_rfl) (fun _ _ _ h => h) (by rfl) hHeld ?_ ?_
           rotate_left 1
           · (intro w hSw; (try dsimp only at hSw); go_simp; try (with_reducible rfl))
           try simp only [Act.put, nB, nC, nD]
           refine wpAnyH_done (by kernel_rfl) ?_ _
           skip
           go_wp2_with fail
           clear hw1 hw1'
           have hw1 := HW1.out
           go_wp2
           clear hw1
           have HB3 := qh hbt
           go_roundw
           case rel => exact ⟨e, x, xi, _, rfl, hke.out, rfl, hxi, hpq.out, HV2.out, HB3.out⟩
           case measure => simp only [intOf, Int.toNat_natCast]; exact hms.out
     · have hen1 : e = n := by have := he.out; omega
       subst hen1
       have hkml : k + m ≤ l.length := by have := HN.out; omega
       have HG : Hid (groups (l.drop k) = (m, x) :: groups (l.drop e)) := by
        have h1 := groups_mid l k m x hm1 hkml hall.out (fun h => absurd h (by have := HN.out; have := he.out; omega))
        rw [← he.out] at h1
        exact h1
       clear hkml
       have hrc := HR.out.below hb.out
       have hpq : Hid ((p ++ putN (m : Int) ++ [x ^^^ av]) ++ encG x (groups (l.drop e)) = encG 0 (groups l)) := by
        show _ = _
        rw [← hp.out, HG.out]
        show _ = p ++ (putN (m : Int) ++ (x ^^^ av) :: encG x (groups (l.drop e)))
        simp [List.append_assoc]
       have HMI : Hid (in64 (m : Int)) := by have := HL.out; show in64 _; unfold in64; omega
       have hml := putN_len _ HMI.out
       have HL1 : Hid (p.length + (putN (m : Int)).length ≤ 140737488355328) := by have := hpl.out; show _ ≤ _; omega
       have HL2 : Hid ((p ++ putN (m : Int)).length + [x ^^^ av].length ≤ 140737488355328) := by have := hpl.out; show _ ≤ _; rw [List.length_append]; show p.length + (putN (m : Int)).length + 1 ≤ _; omega
       obtain ⟨z, hz0⟩ : ∃ z : Int, Hid (((x ^^^ av).toNat : Int) = z) := ⟨_, rfl⟩
       have hxor := b8_xor x av
       rw [hz0.out, hxi.out, hav.out] at hxor
       have hke : Hid (e ≤ e) := by have := he.out; show _ ≤ _; omega
       have hms : Hid (e - e < e - k) := by have := he.out; show _ < _; omega
       have hsz0 := hb.out.size
       clear hml hrc
       have HBL := qh hbl
       clear hbl
       have hw1 := HW1.out
       have hw1' := HW2.out
       go_wp2_with fail
       go_region
       go_wp2_with fail
       obtain ⟨W1, hW1⟩ : ∃ W1, wr.drew = W1 := ⟨_, rfl⟩
       rw [hW1]
       have hbw3 : Below W0.heap.size W0 W1 := by rw [← hW1]; exact hbw2.out.drew
       clear hW1
       have hbt : Below w.heap.size w W1.drew := (hb.out.trans (hbw3.mono hsz0)).drew
       have k0 : W1.drew.cell? ⟨b, off + k, none⟩ = some (.int .u8 xi) := (hbw3.cell (p := ⟨b, off + k, none⟩) HBL.out).trans HCK.out
       have HV : Hid (OB W1.drew w.heap.size u3 p) := (ho.out.below hbw3 (nl _)).below (bR _ _).drew (nl _)
       have HLow : Hid (Low u3 W1.heap.size) := (ho.out.below hbw3 (nl _)).low
       have hG : W1.heap.size ≤ W1.drew.heap.size := nl _
       have hs : w.heap.size ≤ W1.drew.heap.size := hbt.size
       have HBW := qh hbw
       clear hbw3 hck
       refine wp_region_held_drew (S := (fun w' => w'.cell? ⟨b, off + k, none⟩ = some (.int .u8 xi))) (by kernel_rfl) (k0) (fun hHeld => ?_)
       refine htk (i := 0) (v := ?_) rfl (by kernel_rfl) (fun _ _ _ h => h) (by rfl) hHeld ?_ ?_
       rotate_left 1
       · (intro w hSw; (try dsimp only at hSw); go_simp; try (with_reducible rfl))
       try simp only [Act.put, nB, nC, nD]
       refine htk (i := 1) (v := ?_) rfl (by kernel_rfl) (fun _ _ _ h => h) (by rfl) hHeld ?_ ?_
       rotate_left 1
       · (intro w hSw; (try dsimp only at hSw); go_simp; try (with_reducible rfl))
       try simp only [Act.put, nB, nC, nD]
       refine htk (i := 4) (v := ?_) rfl (by kernel_rfl) (fun _ _ _ h => h) (by rfl) hHeld ?_ ?_
       rotate_left 1
       · (intro w hSw; (try dsimp only at hSw); go_simp; try (with_reducible rfl))
       try simp only [Act.put, nB, nC, nD]
       refine htk (i := 5) (v := ?_) rfl (by kernel_rfl) (fun _ _ _ h => h) (by rfl) hHeld ?_ ?_
       rotate_left 1
       · (intro w hSw; (try dsimp only at hSw); go_simp; try (with_reducible rfl))
       try simp only [Act.put, nB, nC, nD]
       refine htk (i := 6) (v := ?_) rfl (by kernel_rfl) (fun _ _ _ h => h) (by rfl) hHeld ?_ ?_
       rotate_left 1
       · (intro w hSw; (try dsimp only at hSw); go_simp; try (with_reducible rfl))
       try simp only [Act.put, nB, nC, nD]
       refine htk (i := 7) (v := ?_) rfl (by kernel_rfl) (fun _ _ _ h => h) (by rfl) hHeld ?_ ?_
       rotate_left 1
       · (intro w hSw; (try dsimp only at hSw); go_simp; try (with_reducible rfl))
       try simp only [Act.put, nB, nC, nD]
       refine htk (i := 8) (v := ?_) rfl (by kernel_rfl) (fun _ _ _ h => h) (by rfl) hHeld ?_ ?_
       rotate_left 1
       · (intro w hSw; (try dsimp only at hSw); go_simp; try (with_reducible rfl))
       try simp only [Act.put, nB, nC, nD]
       refine htk (i := 9) (v := ?_) rfl (by kernel_rfl) (fun _ _ _ h => h) (by rfl) hHeld ?_ ?_
       rotate_left 1
       · (intro w hSw; (try dsimp only at hSw); go_simp; try (with_reducible rfl))
       try simp only [Act.put, nB, nC, nD]
       refine held_two (i := 2) (j := 10) rfl rfl (by kernel_rfl) (by rfl) (by rfl) (fun K hK => ?_) (fun K hK => ?_)
       · go_simp
         (with_reducible refine (refput_any _ _ HMI.out).mono ?_)
         rintro e5 w5 ⟨v5, rfl, h5, b5⟩
         obtain ⟨A5, c5, rfl, _, _, _⟩ := h5.form _ rfl
         replace k0 := (b5.cell (p := ⟨b, off + k, none⟩) (Nat.lt_of_lt_of_le HBW.out hs)).trans k0
         replace HV := qh (HV.out.below b5 (nl _))
         have HA := qh (h5.less (b' := W1.heap.size) hG)
         replace hbt := hbt.trans (b5.mono hs)
         replace hG := Nat.le_trans hG b5.size
         replace hs := Nat.le_trans hs b5.size
         clear h5 b5
         refine hK.out _ _ (k0) (fun hHeld2 => ?_)
         clear hK K hHeld; have hHeld := hHeld2; clear hHeld2
         try simp only [Act.put, nB, nC, nD]
         refine held_two (i := 3) (j := 10) rfl rfl (by kernel_rfl) (by rfl) (by rfl) (fun K hK => ?_) (fun K hK => ?_)
         · refine wp_append_bytes (.tmp 32) (.tmp 34) (by rfl) w.heap.size _ p (putN (m : Int)) (by rfl) HV.out _ _ _ (by rfl) HA.out.cells HL1.out hs ?_
           intro v7 w7 o7 g7 e7
           replace k0 := g7.cell k0 (not_row HV.out.ge HBW.out)
           have HV1 := qh o7
           replace hbt := hbt.grown g7 hs HV.out.ge
           replace hG := Nat.le_trans hG g7.size
           replace hs := Nat.le_trans hs g7.size
           clear o7 g7 e7 HV HA
           refine hK.out _ _ (k0) (fun hHeld2 => ?_)
           clear hK K hHeld; have hHeld := hHeld2; clear hHeld2
           try simp only [Act.put, nB, nC, nD]
           refine held_one (i := 10) rfl (by kernel_rfl) (by rfl) (fun K hK => ?_)
           refine wp_one (.tmp 41) (by rfl) z (x ^^^ av) (by rfl) hz0.out ?_
           intro w6 h6 b6 s6
           replace k0 := (b6.cell (p := ⟨b, off + k, none⟩) (Nat.lt_of_lt_of_le HBW.out hs)).trans k0
           replace HV1 := qh (HV1.out.below b6 (nl _))
           have HB := qh (h6.less (b' := W1.heap.size) hG)
           replace hbt := hbt.trans (b6.mono hs)
           replace hG := Nat.le_trans hG b6.size
           replace hs := Nat.le_trans hs b6.size
           clear h6 b6 s6
           refine hK.out _ _ (k0) (fun hHeld2 => ?_)
           clear hK K hHeld; have hHeld := hHeld2; clear hHeld2
           try simp only [Act.put, nB, nC, nD]
           refine held_one (i := 11) rfl (by kernel_rfl) (by rfl) (fun K hK => ?_)
           refine wp_append_bytes (.tmp 35) (.tmp 42) (by rfl) w.heap.size _ (p ++ putN (m : Int)) [x ^^^ av] (by rfl) HV1.out _ _ _ (by rfl) HB.out.cells HL2.out hs ?_
           intro v8 w8 o8 g8 e8
           replace k0 := g8.cell k0 (not_row HV1.out.ge HBW.out)
           have HV2 := qh o8
           replace hbt := hbt.grown g8 hs HV1.out.ge
           replace hG := Nat.le_trans hG g8.size
           replace hs := Nat.le_trans hs g8.size
           clear o8 g8 e8 HV1 HB
           refine hK.out _ _ (k0) (fun hHeld2 => ?_)
           clear hK K hHeld; have hHeld := hHeld2; clear hHeld2
           try simp only [Act.put, nB, nC, nD]
           refine htk (i := 12) (v := ?_) rfl (by kernel_rfl) (fun _ _ _ h => h) (by rfl) hHeld ?_ ?_
           rotate_left 1
           · (intro w hSw; (try dsimp only at hSw); go_simp; try (with_reducible rfl))
           try simp only [Act.put, nB, nC, nD]
           refine wpAnyH_done (by kernel_rfl) ?_ _
           skip
           go_wp2_with fail
           clear hw1 hw1'
           have hw1 := HW1.out
           go_wp2
           clear hw1
           have HB3 := qh hbt
           go_roundw
           case rel => exact ⟨e, x, xi, _, rfl, hke.out, rfl, hxi, hpq.out, HV2.out, HB3.out⟩
           case measure => simp only [intOf, Int.toNat_natCast]; exact hms.out
         · refine wp_one (.tmp 41) (by rfl) z (x ^^^ av) (by rfl) hz0.out ?_
           intro w6 h6 b6 s6
           replace k0 := (b6.cell (p := ⟨b, off + k, none⟩) (Nat.lt_of_lt_of_le HBW.out hs)).trans k0
           replace HV := qh (HV.out.below b6 (nl _))
           replace HA := qh (HA.out.below b6 (nl _))
           have HB := qh (h6.less (b' := W1.heap.size) hG)
           replace hbt := hbt.trans (b6.mono hs)
           replace hG := Nat.le_trans hG b6.size
           replace hs := Nat.le_trans hs b6.size
           clear h6 b6 s6
           refine hK.out _ _ (k0) (fun hHeld2 => ?_)
           clear hK K hHeld; have hHeld := hHeld2; clear hHeld2
           try simp only [Act.put, nB, nC, nD]
           refine held_one (i := 3) rfl (by kernel_rfl) (by rfl) (fun K hK => ?_)
           refine wp_append_bytes (.tmp 32) (.tmp 34) (by rfl) w.heap.size _ p (putN (m : Int)) (by rfl) HV.out _ _ _ (by rfl) HA.out.cells HL1.out hs ?_
           intro v7 w7 o7 g7 e7
           replace k0 := g7.cell k0 (not_row HV.out.ge HBW.out)
           replace HB := qh (HB.out.apart (nl _) HLow.out g7)
           have HV1 := qh o7
           replace hbt := hbt.grown g7 hs HV.out.ge
           replace hG := Nat.le_trans hG g7.size
           replace hs := Nat.le_trans hs g7.size
           clear o7 g7 e7 HV HA
           refine hK.out _ _ (k0) (fun hHeld2 => ?_)
           clear hK K hHeld; have hHeld := hHeld2; clear hHeld2
           try simp only [Act.put, nB, nC, nD]
           refine held_one (i := 11) rfl (by kernel_rfl) (by rfl) (fun K hK => ?_)
           refine wp_append_bytes (.tmp 35) (.tmp 42) (by rfl) w.heap.size _ (p ++ putN (m : Int)) [x ^^^ av] (by rfl) HV1.out _ _ _ (by rfl) HB.out.cells HL2.out hs ?_
           intro v8 w8 o8 g8 e8
           replace k0 := g8.cell k0 (not_row HV1.out.ge HBW.out)
           have HV2 := qh o8
           replace hbt := hbt.grown g8 hs HV1.out.ge
           replace hG := Nat.le_trans hG g8.size
           replace hs := Nat.le_trans hs g8.size
           clear o8 g8 e8 HV1 HB
           refine hK.out _ _ (k0) (fun hHeld2 => ?_)
           clear hK K hHeld; have hHeld := hHeld2; clear hHeld2
           try simp only [Act.put, nB, nC, nD]
           refine htk (i := 12) (v := ?_) rfl (by kernel_rfl) (fun _ _ _ h => h) (by rfl) hHeld ?_ ?_
           rotate_left 1
           · (intro w hSw; (try dsimp only at hSw); go_simp; try (with_reducible rfl))
           try simp only [Act.put, nB, nC, nD]
           refine wpAnyH_done (by kernel_rfl) ?_ _
           skip
           go_wp2_with fail
           clear hw1 hw1'
           have hw1 := HW1.out
           go_wp2
           clear hw1
           have HB3 := qh hbt
           go_roundw
           case rel => exact ⟨e, x, xi, _, rfl, hke.out, rfl, hxi, hpq.out, HV2.out, HB3.out⟩
           case measure => simp only [intOf, Int.toNat_natCast]; exact hms.out
       · refine wp_one (.tmp 41) (by rfl) z (x ^^^ av) (by rfl) hz0.out ?_
         intro w6 h6 b6 s6
         replace k0 := (b6.cell (p := ⟨b, off + k, none⟩) (Nat.lt_of_lt_of_le HBW.out hs)).trans k0
         replace HV := qh (HV.out.below b6 (nl _))
         have HB := qh (h6.less (b' := W1.heap.size) hG)
         replace hbt := hbt.trans (b6.mono hs)
         replace hG := Nat.le_trans hG b6.size
         replace hs := Nat.le_trans hs b6.size
         clear h6 b6 s6
         refine hK.out _ _ (k0) (fun hHeld2 => ?_)
         clear hK K hHeld; have hHeld := hHeld2; clear hHeld2
         try simp only [Act.put, nB, nC, nD]
         refine held_one (i := 2) rfl (by kernel_rfl) (by rfl) (fun K hK => ?_)
         go_simp
         (with_reducible refine (refput_any _ _ HMI.out).mono ?_)
         rintro e5 w5 ⟨v5, rfl, h5, b5⟩
         obtain ⟨A5, c5, rfl, _, _, _⟩ := h5.form _ rfl
         replace k0 := (b5.cell (p := ⟨b, off + k, none⟩) (Nat.lt_of_lt_of_le HBW.out hs)).trans k0
         replace HV := qh (HV.out.below b5 (nl _))
         replace HB := qh (HB.out.below b5 (nl _))
         have HA := qh (h5.less (b' := W1.heap.size) hG)
         replace hbt := hbt.trans (b5.mono hs)
         replace hG := Nat.le_trans hG b5.size
         replace hs := Nat.le_trans hs b5.size
         clear h5 b5
         refine hK.out _ _ (k0) (fun hHeld2 => ?_)
         clear hK K hHeld; have hHeld := hHeld2; clear hHeld2
         try simp only [Act.put, nB, nC, nD]
         refine held_one (i := 3) rfl (by kernel_rfl) (by rfl) (fun K hK => ?_)
         refine wp_append_bytes (.tmp 32) (.tmp 34) (by rfl) w.heap.size _ p (putN (m : Int)) (by rfl) HV.out _ _ _ (by rfl) HA.out.cells HL1.out hs ?_
         intro v7 w7 o7 g7 e7
         replace k0 := g7.cell k0 (not_row HV.out.ge HBW.out)
         replace HB := qh (HB.out.apart (nl _) HLow.out g7)
         have HV1 := qh o7
         replace hbt := hbt.grown g7 hs HV.out.ge
         replace hG := Nat.le_trans hG g7.size
         replace hs := Nat.le_trans hs g7.size
         clear o7 g7 e7 HV HA
         refine hK.out _ _ (k0) (fun hHeld2 => ?_)
         clear hK K hHeld; have hHeld := hHeld2; clear hHeld2
         try simp only [Act.put, nB, nC, nD]
         refine held_one (i := 11) rfl (by kernel_rfl) (by rfl) (fun K hK => ?_)
         refine wp_append_bytes (.tmp 35) (.tmp 42) (by rfl) w.heap.size _ (p ++ putN (m : Int)) [x ^^^ av] (by rfl) HV1.out _ _ _ (by rfl) HB.out.cells HL2.out hs ?_
         intro v8 w8 o8 g8 e8
         replace k0 := g8.cell k0 (not_row HV1.out.ge HBW.out)
         have HV2 := qh o8
         replace hbt := hbt.grown g8 hs HV1.out.ge
         replace hG := Nat.le_trans hG g8.size
         replace hs := Nat.le_trans hs g8.size
         clear o8 g8 e8 HV1 HB
         refine hK.out _ _ (k0) (fun hHeld2 => ?_)
         clear hK K hHeld; have hHeld := hHeld2; clear hHeld2
         try simp only [Act.put, nB, nC, nD]
         refine htk (i := 12) (v := ?_) rfl (by kernel_rfl) (fun _ _ _ h => h) (by rfl) hHeld ?_ ?_
         rotate_left 1
         · (intro w hSw; (try dsimp only at hSw); go_simp; try (with_reducible rfl))
         try simp only [Act.put, nB, nC, nD]
         refine wpAnyH_done (by kernel_rfl) ?_ _
         skip
         go_wp2_with fail
         clear hw1 hw1'
         have hw1 := HW1.out
         go_wp2
         clear hw1
         have HB3 := qh hbt
         go_roundw
         case rel => exact ⟨e, x, xi, _, rfl, hke.out, rfl, hxi, hpq.out, HV2.out, HB3.out⟩
         case measure => simp only [intOf, Int.toNat_natCast]; exact hms.out
  · have hkn : k = n := by omega
    have hfin := hp.out
    rw [hkn, ← HN.out, List.drop_length] at hfin
    have hfin : p = encG 0 (groups l) := by rw [← hfin]; show p = p ++ []; rw [List.append_nil]
    have HF := qh hfin
    clear hfin
    subst hkn
    go_wp2
    go_ret
    exact ⟨_, rfl, by rw [← HF.out]; exact ho.out, hb.out⟩
def UnAns (c : Cnt) (xs : List UInt8) (w w' : World) (e : Ending) : Prop :=
 match c with
 | .form => e = .returned (.tuple #[.slice none 0 0, .int .i64 1])
 | .full => e = .returned (.tuple #[.slice none 0 0, .int .i64 4])
 | .ok _ => ∃ v, e = .returned (.tuple #[v, .int .i64 0]) ∧ OB w' w.heap.size v xs
set_option linter.unusedSimpArgs false
theorem RB.next {w w' : World} {A : Option Addr} {l : List UInt8} (h : RB w w.heap.size A l) (hb : Below w.heap.size w w') : RB w' w'.heap.size A l := (h.below hb).more hb.size
theorem dec_any (A : Option Addr) (l : List UInt8) (n cap : Nat) (m M : Int) (w : World) (hM : (m < 0 ∧ M = 0) ∨ (0 ≤ m ∧ M = m)) (hM1 : M ≤ 9223372036854775807) (hr : RB w w.heap.size A l) (hn : l.length = n) (hc : n ≤ cap) (hm : cap ≤ maxLen) (hl : n ≤ 4096)
 (ht : ∀ t, cnt M 0 (items true l) = .ok t → t ≤ 2147483647) :
 Calls Tryz.prog 176 #[.slice A n cap, .int .i64 m] w fun e w' => UnAns (cnt M 0 (items true l)) (expand 0 (items true l)) w w' e ∧ Below w.heap.size w w' := by
 subst hn
 cases h : cnt M 0 (items true l) with
 | form => exact dec_err A l cap m M 1 w hM hM1 hr hc hm (by rw [h]; rfl) (.inl rfl)
 | full => exact dec_err A l cap m M 4 w hM hM1 hr hc hm (by rw [h]; rfl) (.inr rfl)
 | ok t => exact (dec_ok A l cap m M t w hM hM1 hr hc hm h (ht t h) hl).mono fun e w' ⟨v, h1, h2, h3⟩ => ⟨⟨v, h1, h2⟩, h3⟩
end Go.Proofs.YtpnobpligchpiaaGreatDoor
