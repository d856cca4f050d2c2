/- WALKS: bytes.Equal; package packet: unseal. -/
import Derived.Test.YtjbieehehgjnmaaDoorQg
import Derived.Deep.RegionWith
import Derived.RegionTactic
namespace Go.Proofs.YtjbieehehgjnmaaDoor
set_option maxRecDepth 100000
open Go.RowKit
set_option linter.unusedVariables false
set_option linter.unusedSimpArgs false

theorem str_inj {x y : List UInt8} (h : str x = str y) : x = y := by
  have := congrArg ByteArray.toList h
  rw [str_toList, str_toList] at this
  exact this
theorem beq_any (A1 A2 : Option Addr) (x y : List UInt8) (n1 n2 c1 c2 : Nat) (w : World) (h1 : RB w w.heap.size A1 x) (h2 : RB w w.heap.size A2 y) (k1 : x.length = n1) (k2 : y.length = n2) (b : Bool) (hb : b = true ↔ x = y) :
    Calls Tryd.prog 38 #[.slice A1 n1 c1, .slice A2 n2 c2] w fun e w' => e = .returned (.bool b) ∧ w = w' := by
  have q1 := conv_rb h1 n1 c1 k1
  have q2 := conv_rb h2 n2 c2 k2
  obtain ⟨s, hs⟩ : ∃ s, str x = s := ⟨_, rfl⟩
  obtain ⟨t, ht⟩ : ∃ t, str y = t := ⟨_, rfl⟩
  rw [hs] at q1
  rw [ht] at q2
  by_cases he : x = y
  · have HB := Lib.hid (hb.2 he)
    have hst : t = s := by rw [← hs, ← ht, he]
    subst hst
    clear hs ht h1 h2 hb he
    go_enter Tryd.func38, Tryd.ntmps38
    go_wp2
    go_ret
    exact ⟨by rw [HB.out]; rfl, rfl⟩
  · have HB := Lib.hid (show b = false by rw [Bool.eq_false_iff]; exact fun h => he (hb.1 h))
    have hq : (s.toList == t.toList) = false := by
      rw [beq_eq_false_iff_ne]
      intro h
      rw [← hs, ← ht, str_toList, str_toList] at h
      exact he h
    clear hs ht h1 h2 hb he
    go_enter Tryd.func38, Tryd.ntmps38
    go_wp2
    go_ret
    exact ⟨by rw [HB.out]; rfl, rfl⟩
theorem seal_split (l : List UInt8) (e : Nat) (he : e + 4 = l.length) : (l.drop e = s4 (tn (sumL (l.take e)))) ↔ l = sealK (l.take e) := by
  constructor
  · intro h
    unfold sealK
    rw [← h, List.take_append_drop]
  · intro h
    have h2 := List.take_append_drop e l
    have h3 : l.take e ++ l.drop e = l.take e ++ s4 (tn (sumL (l.take e))) := by rw [h2]; exact h
    exact List.append_cancel_left h3
theorem seal_take {l x : List UInt8} (h : l = sealK x) : l.take x.length = x ∧ x.length + 4 = l.length := by
  subst h
  exact ⟨by unfold sealK; rw [List.take_left], (sealK_len x).symm⟩
set_option maxHeartbeats 4000000 in
/-- of e + 4 bytes -/
theorem unseal_four (A : Option Addr) (l : List UInt8) (e c : Nat) (w : World) (hT : TabW w) (hr : RB w w.heap.size A l) (hn : l.length = e + 4) (hc : e + 4 ≤ c) (hm : c ≤ maxLen) (b : Bool) (hb : b = true ↔ l = sealK (l.take e)) :
    Calls Tryd.prog 32 #[.slice A (e + 4 : Nat) c] w fun r w' => (b = true → r = .returned (.tuple #[.slice A e c, .bool true])) ∧ (b = false → r = .returned (.tuple #[.slice none 0 0, .bool false])) ∧ Below w.heap.size w w' := by
  obtain ⟨bl, off, rfl, hbl, -⟩ := hr (by omega)
  have hcm := hm
  unfold maxLen at hcm
  have HT := Lib.hid hT
  have HR1 := Lib.hid (hr.take e)
  have hd := hr.cut e c (by omega) (by omega)
  rw [if_neg (by omega)] at hd
  simp only [Option.map_some, Addr.add_lit] at hd
  have HR2 := Lib.hid hd
  have HN1 : Hid ((l.take e).length = e) := by show _ = _; rw [List.length_take]; omega
  have HN2 : Hid ((l.drop e).length = 4) := by show _ = _; rw [List.length_drop]; omega
  obtain ⟨z, hz⟩ : ∃ z, tn (sumL (l.take e)) = z := ⟨_, rfl⟩
  have hz0 : 0 ≤ z := by rw [← hz]; exact tn_lo _
  have hz1 : z ≤ 4294967295 := by rw [← hz]; exact tn_hi _
  have HB : Hid (b = true ↔ l.drop e = s4 z) := by show b = true ↔ _; rw [hb, ← hz]; exact (seal_split l e (by omega)).symm
  have HT2 : TabW w.drew := hT.below ((Below.refl w.heap.size w).drew) hT.lt
  have HR1d : RB w.drew w.drew.heap.size (some ⟨bl, off, none⟩) (l.take e) := HR1.out.below ((Below.refl w.heap.size w).drew)
  have HR2d : RB w.drew w.drew.heap.size (some ⟨bl, off + e, none⟩) (l.drop e) := HR2.out.below ((Below.refl w.heap.size w).drew)
  have HSU := Lib.hid (sum_n (some ⟨bl, off, none⟩) (l.take e) e c w.drew HT2 HR1d HN1.out (by unfold maxLen; omega))
  rw [hz] at HSU
  have N : ((e + 4 : Nat) : Int) - 4 = (e : Int) := by omega
  have HF := Lib.hid (nfour_any z w.drew hz0 hz1)
  have ha : Below w.heap.size w (w.alloc (rowB (s4 z))).drew := ((Below.refl _ _).alloc (Nat.le_refl _) _).drew
  have HEQ := Lib.hid (beq_any (some ⟨bl, off + e, none⟩) (some ⟨w.heap.size, 0, none⟩) (l.drop e) (s4 z) 4 4 (c - e) 4 (w.alloc (rowB (s4 z))).drew ((HR2.out.below ha).more ha.size) (((s4_reads w z).below ((Below.refl _ _).drew)).more (by simp)) HN2.out (s4_len z) b HB.out)
  have HA := Lib.hid ha
  clear hT hr hn hb hz hd hm HT2 HR1d HR2d ha
  have hce : ¬ c = e := by omega
  have g0 : decide ((e : Int) < 0) = false := by simp
  go_enter Tryd.func32, Tryd.ntmps32
  go_upto_region 2 with fail
  go_cut [21] (fun s21 wx => s21 = .bool (!b) ∧ Hid (Below w.heap.size w wx))
  case first =>
    go_region_with (first
      | (go_at_call 24; (with_reducible refine HSU.out.mono ?_); rintro r w6 ⟨rfl, rfl⟩)
      | (go_at_call 23; (with_reducible refine HF.out.mono ?_); rintro r w7 ⟨rfl, rfl⟩)
      | (go_at_call 38; (with_reducible refine HEQ.out.mono ?_); rintro r w8 ⟨rfl, rfl⟩))
    all_goals
      go_wp2_with fail
      go_meet
      exact ⟨rfl, HA.out⟩
  case rest =>
    obtain ⟨rfl, HW⟩ := hcut
    clear HEQ HF HSU HR1 HR2 HT
    cases b
    · go_wp2
      go_ret2
      exact ⟨rfl, HW.out⟩
    · go_wp2
      go_ret2
      exact ⟨rfl, HW.out⟩
end Go.Proofs.YtjbieehehgjnmaaDoor
