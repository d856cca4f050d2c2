/- WALKS over quintainref12: Sealed, EqPacket. -/
import Derived.Test.YtjbieehehgjnmaaDoorQm
namespace Go.Proofs.YtjbieehehgjnmaaDoor
set_option maxRecDepth 100000
open Go.RowKit
set_option linter.unusedVariables false
set_option linter.unusedSimpArgs false

set_option maxHeartbeats 4000000 in
theorem sealed_any (A : Option Addr) (l : List UInt8) (n c : Nat) (w : World) (hr : RB w w.heap.size A l) (hn : l.length = n) (hc : n ≤ c) (hm : c ≤ maxLen) (hl : n ≤ 4096) :
    Calls Tryd.prog 20 #[.slice A n c] w fun e w' => ∃ v, e = .returned v ∧ OB w' w.heap.size v (sealK l) ∧ Below w.heap.size w w' := by
  obtain ⟨z, hz⟩ : ∃ z, tn (sumL l) = z := ⟨_, rfl⟩
  have hz0 : 0 ≤ z := by rw [← hz]; exact tn_lo _
  have hz1 : z ≤ 4294967295 := by rw [← hz]; exact tn_hi _
  have HSU := Lib.hid (fun W (hr : RB W W.heap.size A l) => refsum_n A l n c W hr hn (by unfold maxLen; omega))
  rw [hz] at HSU
  have HZ := Lib.hid hz; have HN := Lib.hid hn; have HR := Lib.hid hr
  have HLN : Hid (([] : List UInt8).length + l.length ≤ 140737488355328) := by show 0 + l.length ≤ _; omega
  have HL2 : Hid (l.length + (s4 z).length ≤ 140737488355328) := by show _ ≤ _; rw [s4_len]; omega
  subst hn
  clear hz hr
  go_enter Tryd.func20, Tryd.ntmps20
  go_wp2_with (at_builtin; refine wpList_append_bytes rfl (.const (.slice none 0 0)) (.tmp 3) rfl w.heap.size (.slice none 0 0) [] l rfl (OB.nil _ _) w.heap.size A c rfl HR.out HLN.out (Nat.le_refl _) ?_; intro v1 w1 o1 g1 e1; rw [List.nil_append] at o1; have B1 : Hid (Below w.heap.size w w1) := (Below.refl _ _).grown g1 (Nat.le_refl _) (by simp [Value.ownBlock]); have O1 := Lib.hid o1; clear o1 g1 e1)
  have HS1 := Lib.hid (HSU.out w1 (HR.out.next B1.out))
  go_wp2_with fail
  (with_reducible refine HS1.out.mono ?_)
  rintro e w2 ⟨rfl, rfl⟩
  have HF := Lib.hid (four_any z w1 hz0 hz1)
  have ha : Below w1.heap.size w1 (w1.alloc (rowB (s4 z))) := (Below.refl _ _).alloc (Nat.le_refl _) _
  have OX := Lib.hid (O1.out.below ha (Nat.le_refl _))
  have SR := Lib.hid (s4_reads w1 z)
  have SA : Hid (w.heap.size ≤ (w1.alloc (rowB (s4 z))).heap.size) := Nat.le_trans B1.out.size ha.size
  have HA := Lib.hid ha
  clear ha
  go_wp2_with fail
  (with_reducible refine HF.out.mono ?_)
  rintro e w3 ⟨rfl, rfl⟩
  go_wp2_with (at_builtin; refine wpList_append_bytes rfl (.tmp 4) (.tmp 7) rfl w.heap.size v1 l (s4 z) rfl OX.out (w1.heap.size + 1) _ 4 rfl SR.out HL2.out SA.out ?_; intro v4 w4 o4 g4 e4; have HG4 := Lib.hid g4; have O4 := Lib.hid o4; clear o4 g4 e4)
  go_ret
  refine ⟨_, rfl, ?_, (B1.out.trans (HA.out.mono B1.out.size)).grown HG4.out SA.out OX.out.ge⟩
  unfold sealK
  rw [HZ.out]
  exact O4.out
set_option maxHeartbeats 8000000 in
theorem eqpacket_any (k f t id fi : Int) (A : Option Addr) (l : List UInt8) (n c : Nat) (ac fr su : Int) (k2 f2 t2 id2 fi2 : Int) (A2 : Option Addr) (l2 : List UInt8) (n2 c2 : Nat) (ac2 fr2 su2 : Int) (w : World)
    (h1 : RB w w.heap.size A l) (h2 : RB w w.heap.size A2 l2) (hn : l.length = n) (hn2 : l2.length = n2) (b : Bool) (hb : b = true ↔ (k = k2 ∧ f = f2 ∧ t = t2 ∧ id = id2 ∧ fi = fi2 ∧ l = l2 ∧ ac = ac2 ∧ fr = fr2 ∧ su = su2)) :
    Calls Tryd.prog 17 #[pkV k f t id fi A n c ac fr su, pkV k2 f2 t2 id2 fi2 A2 n2 c2 ac2 fr2 su2] w fun e w' => e = .returned (.bool b) ∧ (w.alloc (pkO k f t id fi A n c ac fr su)).alloc (pkO k2 f2 t2 id2 fi2 A2 n2 c2 ac2 fr2 su2) = w' := by
  have hB : Below w.heap.size w ((w.alloc (pkO k f t id fi A n c ac fr su)).alloc (pkO k2 f2 t2 id2 fi2 A2 n2 c2 ac2 fr2 su2)) := ((Below.refl _ _).alloc (Nat.le_refl _) _).alloc (by simp) _
  have q1 := conv_rb (h1.below hB) n c hn
  have q2 := conv_rb (h2.below hB) n2 c2 hn2
  obtain ⟨s, hs⟩ : ∃ s, str l = s := ⟨_, rfl⟩
  obtain ⟨s2, hs2⟩ : ∃ s2, str l2 = s2 := ⟨_, rfl⟩
  rw [hs] at q1
  rw [hs2] at q2
  have HB := Lib.hid hb
  have HSL : Hid (l = l2 → s2 = s) := fun h => by rw [← hs, ← hs2, h]
  have HSN : Hid (¬ l = l2 → (s.toList == s2.toList) = false) := fun h => by
    rw [beq_eq_false_iff_ne]
    intro h3
    rw [← hs, ← hs2, str_toList, str_toList] at h3
    exact h h3
  clear hb h1 h2 hs hs2 hB hn hn2
  by_cases e0 : k = k2
  · subst e0
    by_cases e1 : f = f2
    · subst e1
      by_cases e2 : t = t2
      · subst e2
        by_cases e3 : id = id2
        · subst e3
          by_cases e4 : fi = fi2
          · subst e4
            by_cases e5 : l = l2
            · have hs3 := HSL.out e5
              subst hs3
              have HLL := Lib.hid e5
              clear e5
              by_cases e6 : ac = ac2
              · subst e6
                by_cases e7 : fr = fr2
                · subst e7
                  by_cases e8 : su = su2
                  · subst e8
                    have HE := Lib.hid (show b = true by exact HB.out.2 ⟨rfl, rfl, rfl, rfl, rfl, HLL.out, rfl, rfl, rfl⟩)
                    clear HB HSL HSN
                    go_enter Tryd.func17, Tryd.ntmps17
                    go_wp2_with fail
                    go_ret
                    exact ⟨by rw [HE.out]; first | rfl | (simp; done), rfl⟩
                  · have hq : (su == su2) = false := by simp; exact e8
                    have HE := Lib.hid (show b = false by rw [Bool.eq_false_iff]; intro h; have hh := HB.out.1 h; exact e8 hh.2.2.2.2.2.2.2.2)
                    clear HB HSL HSN
                    go_enter Tryd.func17, Tryd.ntmps17
                    go_wp2_with fail
                    go_ret
                    exact ⟨by rw [HE.out]; first | rfl | (simp; done), rfl⟩
                · have hq : (fr == fr2) = false := by simp; exact e7
                  have HE := Lib.hid (show b = false by rw [Bool.eq_false_iff]; intro h; have hh := HB.out.1 h; exact e7 hh.2.2.2.2.2.2.2.1)
                  clear HB HSL HSN
                  go_enter Tryd.func17, Tryd.ntmps17
                  go_wp2_with fail
                  go_ret
                  exact ⟨by rw [HE.out]; first | rfl | (simp; done), rfl⟩
              · have hq : (ac == ac2) = false := by simp; exact e6
                have HE := Lib.hid (show b = false by rw [Bool.eq_false_iff]; intro h; have hh := HB.out.1 h; exact e6 hh.2.2.2.2.2.2.1)
                clear HB HSL HSN
                go_enter Tryd.func17, Tryd.ntmps17
                go_wp2_with fail
                go_ret
                exact ⟨by rw [HE.out]; first | rfl | (simp; done), rfl⟩
            · have hq := HSN.out e5
              have HE := Lib.hid (show b = false by rw [Bool.eq_false_iff]; intro h; have hh := HB.out.1 h; exact e5 hh.2.2.2.2.2.1)
              clear HB HSL HSN
              go_enter Tryd.func17, Tryd.ntmps17
              go_wp2_with fail
              go_ret
              exact ⟨by rw [HE.out]; first | rfl | (simp; done), rfl⟩
          · have hq : (fi == fi2) = false := by simp; exact e4
            have HE := Lib.hid (show b = false by rw [Bool.eq_false_iff]; intro h; have hh := HB.out.1 h; exact e4 hh.2.2.2.2.1)
            clear HB HSL HSN
            go_enter Tryd.func17, Tryd.ntmps17
            go_wp2_with fail
            go_ret
            exact ⟨by rw [HE.out]; first | rfl | (simp; done), rfl⟩
        · have hq : (id == id2) = false := by simp; exact e3
          have HE := Lib.hid (show b = false by rw [Bool.eq_false_iff]; intro h; have hh := HB.out.1 h; exact e3 hh.2.2.2.1)
          clear HB HSL HSN
          go_enter Tryd.func17, Tryd.ntmps17
          go_wp2_with fail
          go_ret
          exact ⟨by rw [HE.out]; first | rfl | (simp; done), rfl⟩
      · have hq : (t == t2) = false := by simp; exact e2
        have HE := Lib.hid (show b = false by rw [Bool.eq_false_iff]; intro h; have hh := HB.out.1 h; exact e2 hh.2.2.1)
        clear HB HSL HSN
        go_enter Tryd.func17, Tryd.ntmps17
        go_wp2_with fail
        go_ret
        exact ⟨by rw [HE.out]; first | rfl | (simp; done), rfl⟩
    · have hq : (f == f2) = false := by simp; exact e1
      have HE := Lib.hid (show b = false by rw [Bool.eq_false_iff]; intro h; have hh := HB.out.1 h; exact e1 hh.2.1)
      clear HB HSL HSN
      go_enter Tryd.func17, Tryd.ntmps17
      go_wp2_with fail
      go_ret
      exact ⟨by rw [HE.out]; first | rfl | (simp; done), rfl⟩
  · have hq : (k == k2) = false := by simp; exact e0
    have HE := Lib.hid (show b = false by rw [Bool.eq_false_iff]; intro h; have hh := HB.out.1 h; exact e0 hh.1)
    clear HB HSL HSN
    go_enter Tryd.func17, Tryd.ntmps17
    go_wp2_with fail
    go_ret
    exact ⟨by rw [HE.out]; first | rfl | (simp; done), rfl⟩
end Go.Proofs.YtjbieehehgjnmaaDoor
