/- THE WALKS of runs.firstRun, runs.Encode. -/
import Derived.Test.YtclgcfofgiejgaaDoorNd
import Derived.Test.YtclgcfofgiejgaaDoorKd
import Derived.Test.YtclgcfofgiejgaaDoorJh
namespace Go.Proofs.YtclgcfofgiejgaaDoor
set_option maxRecDepth 100000
open Go.RowKit
set_option linter.unusedVariables false

set_option maxHeartbeats 2000000 in
theorem first_any (b off : Nat) (l : List UInt8) (n cap B : Nat) (w : World) (x : UInt8) (hr : RB w B (some ⟨b, off, none⟩) l) (hn : l.length = n) (h0 : 0 < n) (hx : ∀ h : 0 < l.length, l[0] = x) (hc : n ≤ cap) (hm : cap ≤ maxLen) :
    Calls Tryd.prog 87 #[.slice (some ⟨b, off, none⟩) n cap] w fun e w' => (∃ k : Nat, e = .returned (.int .i64 (k : Int)) ∧ 0 < k ∧ k ≤ n ∧ groups l = (k, x) :: groups (l.drop k)) ∧ w = w' := by
  unfold maxLen at hm
  have hcell : ∀ j (h : j < l.length), w.cell? ⟨b, off + j, none⟩ = some (vb l[j]) := fun j h => by
    obtain ⟨b', off', e, _, hc'⟩ := hr (by omega)
    have e := Option.some.inj e
    injection e with e1 e2
    subst e1 e2
    exact hc' j h
  have HCL := Lib.hid hcell
  have hc0 := hcell 0 (by omega)
  rw [hx (by omega), Nat.add_zero] at hc0
  unfold vb at hc0
  obtain ⟨xi, hxi⟩ : ∃ xi : Int, Hid ((x.toNat : Int) = xi) := ⟨_, rfl⟩
  rw [hxi.out] at hc0
  have HX := Lib.hid hx
  have HN := Lib.hid hn
  clear hcell hr hx hn
  go_enter Tryd.func87, Tryd.ntmps87
  go_wp2
  go_loop [7] (fun i => ∃ (k : Nat), i = .int .i64 (k : Int) ∧ k ≤ n ∧ Hid (∀ j (h : j < l.length), j < k → l[j] = x)) (fun i => n - (intOf i).toNat)
  case atStart => exact ⟨0, rfl, by omega, fun j h h2 => absurd h2 (by omega)⟩
  case round =>
    obtain ⟨k, rfl, hk, hj⟩ := hrel
    by_cases hlt : k < n
    · have hlt' : k < l.length := by have := HN.out; omega
      have hck := HCL.out k hlt'
      obtain ⟨c, hcc⟩ : ∃ c : UInt8, l[k] = c := ⟨_, rfl⟩
      rw [hcc] at hck
      unfold vb at hck
      obtain ⟨m, hmm⟩ : ∃ m : Int, Hid ((c.toNat : Int) = m) := ⟨_, rfl⟩
      rw [hmm.out] at hck
      have HCC := Lib.hid hcc; clear hcc
      by_cases he : m = xi
      · have hb1 : (m == xi) = true := by simp [he]
        have hcx : c = x := by
          apply UInt8.toNat.inj
          have h1 := hmm.out
          have h2 := hxi.out
          omega
        have hj2 : Hid (∀ j (h : j < l.length), j < k + 1 → l[j] = x) := fun j h h2 => by
          by_cases h3 : j = k
          · subst h3; rw [HCC.out]; exact hcx
          · exact hj.out j h (by omega)
        have HE := Lib.hid he; clear he hcx
        go_wp2
        go_round
        case rel => exact ⟨k + 1, by go_num, by omega, hj2⟩
        case measure => simp [intOf]; omega
      · have hb1 : (m == xi) = false := by simpa using he
        have hcx : c ≠ x := fun e => he (by rw [← hmm.out, ← hxi.out, e])
        have hk0 : 0 < k := by
          rcases Nat.eq_zero_or_pos k with h | h
          · subst h; exact absurd (HCC.out.symm.trans (HX.out _)) hcx
          · exact h
        have hg := groups_at l k x hk0 (by have := HN.out; omega) hj.out (fun h => by rw [HCC.out]; exact hcx)
        have HG := Lib.hid hg; have HE := Lib.hid he; clear hg he hcx
        go_wp2
        go_ret
        exact ⟨⟨k, rfl, hk0, by omega, HG.out⟩, rfl⟩
    · obtain rfl : k = n := by omega
      have hg := groups_at l k x h0 (by have := HN.out; omega) hj.out (fun h => absurd h (by have := HN.out; omega))
      have HG := Lib.hid hg; clear hg
      go_wp2
      go_ret
      exact ⟨⟨k, rfl, h0, Nat.le_refl _, HG.out⟩, rfl⟩

theorem put_nil (n : Int) (w : World) (hn : in64 n) :
    Calls Tryd.prog 75 #[.slice none 0 0, .int .i64 n] w fun e w' => ∃ v, e = .returned v ∧ OB w' w.heap.size v (putN n) ∧ Below w.heap.size w w' :=
  put_any none [] 0 0 n w (RB.nil _ _ _) (Nat.zero_le _) hn (by simp)
def lenV : Value → Nat
  | .slice _ n _ => n
  | _ => 0
set_option maxHeartbeats 4000000 in
theorem encode_any (A : Option Addr) (l : List UInt8) (n cap B : Nat) (w : World) (hr : RB w w.heap.size A l) (hn : l.length = n) (hc : n ≤ cap) (hm : cap ≤ maxLen) (hl : n ≤ 8192) :
    Calls Tryd.prog 82 #[.slice A n cap] w fun e w' => ∃ v, e = .returned v ∧ OB w' w.heap.size v (encG 0 (groups l)) ∧ Below w.heap.size w w' := by
  have HR := Lib.hid hr; have HM := Lib.hid hm; have HN := Lib.hid hn; have HL := Lib.hid hl
  clear hr hm hn hl
  go_enter Tryd.func82, Tryd.ntmps82
  go_wp2
  go_loopw [0, 3, 4] (fun b0 out a wr => ∃ (A : Option Addr) (r : List UInt8) (m cap : Nat) (av : UInt8) (ai : Int) (p : List UInt8), b0 = .slice A m cap ∧ Hid (r.length = m) ∧ m ≤ cap ∧ Hid (cap ≤ maxLen) ∧ Hid (m ≤ 8192) ∧ a = .int .u8 ai ∧ Hid ((av.toNat : Int) = ai) ∧ Hid (p ++ encG av (groups r) = encG 0 (groups l)) ∧ Hid (RB wr w.heap.size A r) ∧ Hid (OB wr w.heap.size out p) ∧ Hid (Below w.heap.size w wr)) (fun b0 _ _ _ => lenV b0)
  case atStart => exact ⟨A, l, n, cap, 0, 0, [], rfl, HN, hc, HM, HL, rfl, rfl, by simp [Hid], HR, OB.nil _ _, Below.refl _ _⟩
  case round =>
    obtain ⟨A, r, m, cap, av, ai, p, rfl, hrm, hmc, hcm, hm4, rfl, hav, hp, hrb, ho, hb⟩ := hrel
    have hpl : Hid (p.length ≤ 90112) := by
      have h1 := encG_groups_len l (by rw [HN.out]; exact HL.out) 0
      rw [← hp.out, List.length_append] at h1
      show _ ≤ _
      omega
    by_cases h0 : 0 < m
    · obtain ⟨b, off, rfl, hbw, hcell⟩ := hrb.out (by have := hrm.out; omega)
      have hc0 := hcell 0 (by have := hrm.out; omega)
      obtain ⟨x, hx⟩ : ∃ x : UInt8, r[0]'(by have := hrm.out; omega) = x := ⟨_, rfl⟩
      rw [hx, Nat.add_zero] at hc0
      unfold vb at hc0
      have HX : Hid (∀ h : 0 < r.length, r[0] = x) := fun h => hx
      clear hcell hx
      have hlt0 : (0 : Int) < (m : Int) := by omega
      have hF := first_any b off r m cap w.heap.size wr x hrb.out hrm.out h0 HX.out hmc hcm.out
      have HF := Lib.hid hF; clear hF
      go_wp2_with fail
      (with_reducible refine HF.out.mono ?_)
      rintro e w0 ⟨⟨k, rfl, hk0, hkm, hg⟩, rfl⟩
      have HG := Lib.hid hg; clear hg HF
      have hin : in64 (k : Int) := by have := hm4.out; unfold in64; omega
      have HIN := Lib.hid hin; clear hin
      go_wp2_with fail
      (with_reducible refine (put_nil _ _ HIN.out).mono ?_)
      rintro e w1 ⟨v1, rfl, ov, hb1⟩
      obtain ⟨c, hcq⟩ : ∃ c, c = putN (k : Int) := ⟨_, rfl⟩
      obtain ⟨A1, cap1, rfl, hc1, hm1, hr1⟩ := ov.form c hcq
      have hcl : Hid (c.length ≤ 10) := by rw [hcq]; exact putN_len _ HIN.out
      have HCQ := Lib.hid hcq
      have o1 := ho.out.below hb1 (Nat.le_refl _)
      have hbs := hb.out.size
      have hb1s := hb1.size
      have hbw1 : Below w.heap.size wr w1 := hb1.mono hbs
      have HB1 := Lib.hid hbw1; have O1 := Lib.hid o1; have R1 := Lib.hid hr1
      have hlen1 : p.length + c.length ≤ 140737488355328 := by have := hpl.out; have := hcl.out; omega
      have HL1 := Lib.hid hlen1; have HS1 := Lib.hid (Nat.le_trans hbs hb1s)
      have hlen2 : (p ++ c).length + [x ^^^ av].length ≤ 140737488355328 := by have := hpl.out; have := hcl.out; rw [List.length_append]; show p.length + c.length + 1 ≤ _; omega
      have HL2 := Lib.hid hlen2
      obtain ⟨xi, hxi⟩ : ∃ xi : Int, Hid ((x.toNat : Int) = xi) := ⟨_, rfl⟩
      obtain ⟨z, hz⟩ : ∃ z : Int, Hid (((x ^^^ av).toNat : Int) = z) := ⟨_, rfl⟩
      have hxor := b8_xor x av
      rw [hz.out, hxi.out, hav.out] at hxor
      rw [hxi.out] at hc0
      clear hcq ov o1 hr1 hb1 hbw1 hb1s hlen1 hm1 hlen2
      go_wp2_with first
        | (at_builtin; refine wpList_append_bytes rfl (.tmp 15) (.tmp 21) rfl w.heap.size v2 (p ++ c) [x ^^^ av] rfl O3.out (w2.heap.size + 1) _ 1 rfl HONE.out HL2.out HS3.out ?_; intro v3 w3 o4 g4 e4; have hbw3 := (HB2.out.alloc HS2.out (bOne z)).grown g4 HS3.out O3.out.ge; have c3 := (hbw3.cell (p := ⟨b, off, none⟩) hbw).trans hc0; have O4 := Lib.hid o4; have HB3 := Lib.hid hbw3; clear o4 hbw3 g4 e4 c2)
        | (at_builtin; refine wpList_append_bytes rfl (.tmp 11) (.tmp 13) rfl w.heap.size _ p c rfl O1.out w1.heap.size A1 cap1 rfl R1.out HL1.out HS1.out ?_; intro v2 w2 o2 g2 e2; have hbw2 := HB1.out.grown g2 HS1.out O1.out.ge; have c2 := (hbw2.cell (p := ⟨b, off, none⟩) hbw).trans hc0; have hone := one_reads w2 z (x ^^^ av) hz.out; have hs2 := Nat.le_trans HS1.out g2.size; have hs3 : w.heap.size ≤ (w2.alloc (bOne z)).heap.size := (by rw [World.size_alloc]; omega); have o3 : OB (w2.alloc (bOne z)) w.heap.size v2 (p ++ c) := o2.alloc _; have HONE := Lib.hid hone; have O2 := Lib.hid o2; have O3 := Lib.hid o3; have HB2 := Lib.hid hbw2; have HS2 := Lib.hid hs2; have HS3 := Lib.hid hs3; clear hone o2 o3 hbw2 hs2 hs3 g2 e2)
      have hpq : (p ++ c ++ [x ^^^ av]) ++ encG x (groups (r.drop k)) = encG 0 (groups l) := by
        rw [← hp.out, HG.out, HCQ.out]
        show _ = p ++ (putN (k : Int) ++ (x ^^^ av) :: encG x (groups (r.drop k)))
        simp [List.append_assoc]
      have HPQ := Lib.hid hpq; clear hpq
      have HRD : Hid ((r.drop k).length = m - k) := by show _ = _; rw [List.length_drop, hrm.out]
      have hrc := hrb.out.cut k cap (by have := hrm.out; omega) (by have := hrm.out; omega)
      have k0 : (0 : Int) ≤ (k : Int) := by omega
      have k1 : (k : Int) ≤ (m : Int) := by omega
      have k2 : (m : Int) ≤ (cap : Int) := by omega
      have k3 : (k : Int) ≤ (cap : Int) := by omega
      by_cases hcap : cap = k
      · rw [if_pos hcap] at hrc
        have HRC := Lib.hid hrc; clear hrc
        go_quiet (fail)
        go_wp2
        go_roundw
        case rel => exact ⟨some ⟨b, off, none⟩, r.drop k, m - k, 0, x, xi, p ++ c ++ [x ^^^ av], rfl, HRD.out, by omega, by have := hcm.out; unfold maxLen at *; show _ ≤ _; omega, by have := hm4.out; show _ ≤ _; omega, rfl, hxi, HPQ.out, HRC.out.below (below_drewN HB3.out _), O4.out.below (below_drewN (Below.refl _ _) _) (Nat.le_refl _), below_drewN (hb.out.trans HB3.out) _⟩
        case measure => show m - k < m; omega
      · rw [if_neg hcap] at hrc
        simp only [Option.map_some, Addr.add_lit] at hrc
        have HRC := Lib.hid hrc; clear hrc
        go_quiet (fail)
        go_wp2
        go_roundw
        case rel => exact ⟨some ⟨b, off + k, none⟩, r.drop k, m - k, cap - k, x, xi, p ++ c ++ [x ^^^ av], rfl, HRD.out, by omega, by have := hcm.out; unfold maxLen at *; show _ ≤ _; omega, by have := hm4.out; show _ ≤ _; omega, rfl, hxi, HPQ.out, HRC.out.below (below_drewN HB3.out _), O4.out.below (below_drewN (Below.refl _ _) _) (Nat.le_refl _), below_drewN (hb.out.trans HB3.out) _⟩
        case measure => show m - k < m; omega
    · have hm0 : m = 0 := by omega
      have hre : r = [] := List.eq_nil_of_length_eq_zero (by have := hrm.out; omega)
      have hfin := hp.out
      rw [hre] at hfin
      have hfin : p = encG 0 (groups l) := by rw [← hfin]; show p = p ++ []; rw [List.append_nil]
      have HF := Lib.hid hfin
      clear hfin hre
      subst hm0
      go_wp2
      go_ret
      exact ⟨_, rfl, by rw [← HF.out]; exact ho.out, hb.out⟩
end Go.Proofs.YtclgcfofgiejgaaDoor
