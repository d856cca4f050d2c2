/- texts of YpOa -/
import Derived.BigQuiet
import Derived.ChangeSame
import Derived.Deep.DrawnRows
import Derived.Deep.Fields
import Derived.Deep.OwnRows
import Derived.Deep.RegionHeld3
import Derived.Deep.Slices
import Derived.Laws.MakeOwn
import Derived.Lib.SmallJoins
import Derived.LoopN
import Derived.Maps.Range
import Derived.RegionTactic
import Derived.Test.YtpnobpligchpiaaGreatDoorYpK
import Derived.Test.YtpnobpligchpiaaGreatDoorYpO
import Derived.Test.YtpnobpligchpiaaGreatDoorYpRa
namespace Go.Proofs.YtpnobpligchpiaaGreatDoor
open Go.RowKit
set_option linter.unusedVariables false
def opV (o : O4) : Value := .agg #[.int .i64 o.k, .int .i64 o.a, .int .i64 o.b, .int .i64 o.c]
def opF (o : O4) (j : Nat) : Value := match j with
 | 0 => .int .i64 o.k
 | 1 => .int .i64 o.a
 | 2 => .int .i64 o.b
 | _ => .int .i64 o.c
def RO (w : World) (B : Nat) (A : Option Addr) (os : List O4) : Prop :=
 0 < os.length → ∃ b off, A = some ⟨b, off, none⟩ ∧ b < B ∧ ∀ j (h : j < os.length), w.cell? ⟨b, off + j * 4, none⟩ = some (.int .i64 os[j].k) ∧ w.cell? ⟨b, off + j * 4 + 1, none⟩ = some (.int .i64 os[j].a) ∧
   w.cell? ⟨b, off + j * 4 + 2, none⟩ = some (.int .i64 os[j].b) ∧ w.cell? ⟨b, off + j * 4 + 3, none⟩ = some (.int .i64 os[j].c)
theorem RO.nil (w : World) (B : Nat) (A : Option Addr) : RO w B A [] := fun h => absurd h (by simp)
theorem RO.below {w w' : World} {B : Nat} {A : Option Addr} {l : List O4} (h : RO w B A l) (hb : Below B w w') : RO w' B A l := fun h0 => by
 obtain ⟨b, off, e, hlt, hc⟩ := h h0
 refine ⟨b, off, e, hlt, fun j hj => ?_⟩
 obtain ⟨h1, h2, h3, h4⟩ := hc j hj
 exact ⟨(hb.cell (p := ⟨b, _, none⟩) hlt).trans h1, (hb.cell (p := ⟨b, _, none⟩) hlt).trans h2, (hb.cell (p := ⟨b, _, none⟩) hlt).trans h3, (hb.cell (p := ⟨b, _, none⟩) hlt).trans h4⟩
theorem RO.more {w : World} {B B' : Nat} {A : Option Addr} {l : List O4} (h : RO w B A l) (hB : B ≤ B') : RO w B' A l := fun h0 => by
 obtain ⟨b, off, e, hlt, hc⟩ := h h0
 exact ⟨b, off, e, by omega, hc⟩
theorem RO.take {w : World} {B : Nat} {A : Option Addr} {l : List O4} (h : RO w B A l) (k : Nat) : RO w B A (l.take k) := fun h0 => by
 rw [List.length_take] at h0
 obtain ⟨b, off, e, hlt, hc⟩ := h (by omega)
 refine ⟨b, off, e, hlt, fun j hj => ?_⟩
 rw [List.length_take] at hj
 rw [List.getElem_take]
 exact hc j (by omega)
set_option maxHeartbeats 400000 in
theorem split_any (o : O4) (w : World) :
 Calls Tryz.prog 180 #[opV o] w fun e w' => e = .returned (opV o) ∧ Below w.heap.size w w' := by
 obtain ⟨k, a, b, c⟩ := o
 unfold opV
 go_enter Tryz.func180, Tryz.ntmps180
 go_wp2
 refine bodyPost_ret (v := .agg #[.int .i64 k, .int .i64 a, .int .i64 b, .int .i64 c]) (by simp [results, Tryz.results180, go_sem]) rfl ⟨rfl, ((bR _ _).alloc (nl _) _).alloc (by simp) _⟩
theorem small_any (n : Int) (w : World) :
 Calls Tryz.prog 163 #[.int .i64 n] w fun e w' => e = .returned (.bool (smlB n)) ∧ w = w' := by
 unfold smlB
 by_cases h1 : -2147483648 ≤ n
 all_goals by_cases h2 : n ≤ 2147483647
 all_goals
  go_enter Tryz.func163, Tryz.ntmps163
  go_wp2
  go_ret
  exact ⟨by simp [h1, h2], rfl⟩
def zeroO : O4 := ⟨0, 0, 0, 0⟩
theorem op_info : (Tryz.prog.info? 151).map (fun i => (i.zero, i.size, i.bytes)) = some (some (opV zeroO), 4, 32) := by kernel_rfl
def numO (o : O4) (j : Nat) : Int := match j with
 | 0 => o.k
 | 1 => o.a
 | 2 => o.b
 | _ => o.c
theorem smlOB_all (o : O4) : (∀ i, i < 4 → smlB (numO o i) = true) → smlOB o = true := fun h => by
 have h0 := h 0 (by omega); have h1 := h 1 (by omega); have h2 := h 2 (by omega); have h3 := h 3 (by omega)
 simp only [numO] at h0 h1 h2 h3
 unfold smlOB; rw [h0, h1, h2, h3]; rfl
theorem smlOB_bad (o : O4) (i : Nat) (hi : i < 4) (h : smlB (numO o i) = false) : smlOB o = false := by
 unfold smlOB
 obtain rfl | rfl | rfl | rfl : i = 0 ∨ i = 1 ∨ i = 2 ∨ i = 3 := by omega
 all_goals
  simp only [numO] at h
  rw [h]
  simp
theorem smlB_yes {n : Int} (h1 : -2147483648 ≤ n) (h2 : n ≤ 2147483647) : smlB n = true := by unfold smlB; simp; exact ⟨h1, h2⟩
theorem smlB_no {n : Int} (h : n < -2147483648 ∨ 2147483647 < n) : smlB n = false := by
 unfold smlB
 rcases h with h | h
 · rw [show decide (-2147483648 ≤ n) = false by simp; omega]; rfl
 · rw [show decide (n ≤ 2147483647) = false by simp; omega]; simp
theorem two_cells {w w1 : World} {u v : Value} {T : TypeId} {B : Nat} (hb : Below B (w.alloc (.cells #[u, v] T)) w1) (hB : w.heap.size < B) :
 w1.cell? ⟨w.heap.size, 0, none⟩ = some u ∧ w1.cell? ⟨w.heap.size, 1, none⟩ = some v ∧ w1.frozen? ⟨w.heap.size, 0, none⟩ = false ∧ w1.frozen? ⟨w.heap.size, 1, none⟩ = false := by
 have h0 := hb.cell (p := ⟨w.heap.size, 0, none⟩) hB
 have h1 := hb.cell (p := ⟨w.heap.size, 1, none⟩) hB
 have f0 := hb.frozen (p := ⟨w.heap.size, 0, none⟩) hB
 have f1 := hb.frozen (p := ⟨w.heap.size, 1, none⟩) hB
 have r : (w.alloc (.cells #[u, v] T)).rowIs w.heap.size T 2 (fun i => if i = 0 then u else v) := World.rowIs_alloc w _ T _ (fun i hi => by
  have hi : i < 2 := hi
  obtain rfl | rfl : i = 0 ∨ i = 1 := by omega
  all_goals rfl)
 exact ⟨h0.trans (r.cell (show 0 < 2 by omega)), h1.trans (r.cell (show 1 < 2 by omega)), f0.trans (r.frozen 0), f1.trans (r.frozen 1)⟩
theorem index_parts (o : O4) (j : Nat) (hj : j < 4) (w : World) : (Instr.index 239 (opV o) (.int .i64 (j : Int))).run Tryz.prog w = .ok (.int .i64 (numO o j)) w := by
 obtain rfl | rfl | rfl | rfl : j = 0 ∨ j = 1 ∨ j = 2 ∨ j = 3 := by omega
 all_goals kernel_rfl
theorem smlOs_bad {os : List O4} {k : Nat} (h : k < os.length) (hb : smlOB os[k] = false) : smlOs os = false := by
 unfold smlOs
 rw [List.all_eq_false]
 exact ⟨os[k], List.getElem_mem h, by simp [hb]⟩
theorem smlOs_take {os : List O4} {k : Nat} (h : k < os.length) (h1 : smlOs (os.take k) = true) (h2 : smlOB os[k] = true) : smlOs (os.take (k + 1)) = true := by
 unfold smlOs at *
 rw [List.take_succ_eq_append_getElem h, List.all_append, h1]
 simp [h2]
def progV (t : ByteArray) (A : Option Addr) (n cap : Nat) : Value := .agg #[.string t, .slice A n cap]
set_option maxHeartbeats 4000000 in
theorem fits_any (t : ByteArray) (A : Option Addr) (os : List O4) (cap B : Nat) (w : World) (hr : RO w B A os) (hB : B ≤ w.heap.size) (hc : os.length ≤ cap) (hm : cap ≤ maxLen) (ht : t.size ≤ maxLen) :
 Calls Tryz.prog 177 #[progV t A os.length cap] w fun e w' => e = .returned (.bool (fitsB (titB t) os)) ∧ Below w.heap.size w w' := by
 unfold progV
 unfold maxLen at hm
 have b0 : Below w.heap.size w (w.alloc (.cells #[.string t, .slice A os.length cap] 61)) := (bR _ _).alloc (nl _) _
 have HT := qh (title_any t (w.alloc (.cells #[.string t, .slice A os.length cap] 61)) ht)
 have HR := qh hr; clear hr
 by_cases h1 : os.length < 1
 · have g1 : (os.length : Int) < 1 := by omega
   have HF := qh (show fitsB (titB t) os = false by unfold fitsB; rw [show decide (1 ≤ os.length) = false by rw [decide_eq_false_iff_not]; omega]; simp)
   clear h1
   go_enter Tryz.func177, Tryz.ntmps177
   go_wp2
   go_ret
   exact ⟨by rw [HF.out]; rfl, b0⟩
 by_cases h2 : 64 < os.length
 · have g1 : ¬ (os.length : Int) < 1 := by omega
   have g2 : (64 : Int) < os.length := by omega
   have HF := qh (show fitsB (titB t) os = false by unfold fitsB; rw [show decide (os.length ≤ 64) = false by rw [decide_eq_false_iff_not]; omega]; simp)
   clear h1 h2
   go_enter Tryz.func177, Tryz.ntmps177
   go_wp2
   go_ret
   exact ⟨by rw [HF.out]; rfl, b0⟩
 have g1 : ¬ (os.length : Int) < 1 := by omega
 have g2 : ¬ (64 : Int) < os.length := by omega
 cases hti : titB t with
 | false =>
   have HF := qh (show fitsB false os = false by unfold fitsB; simp)
   rw [hti] at HT
   clear h1 h2 hti
   go_enter Tryz.func177, Tryz.ntmps177
   go_wp2_with (go_at_call 193; refine HT.out.mono ?_; rintro e w1 ⟨rfl, hb1⟩)
   go_ret
   exact ⟨by rw [HF.out]; rfl, b0.trans (hb1.mono (by simp))⟩
 | true =>
   have HF := qh (show fitsB true os = smlOs os by unfold fitsB; rw [show decide (1 ≤ os.length) = true by rw [decide_eq_true_iff]; omega, show decide (os.length ≤ 64) = true by rw [decide_eq_true_iff]; omega]; rfl)
   rw [hti] at HT
   clear h1 h2 hti
   have HR0 := qh (HR.out.below (b0.mono hB))
   go_enter Tryz.func177, Tryz.ntmps177
   go_wp2_with (go_at_call 193; refine HT.out.mono ?_; rintro e w1 ⟨rfl, hb1⟩; obtain ⟨hc0, hc1, _, _⟩ := two_cells hb1 (by simp))
   have H1 := qh (HR0.out.below (hb1.mono (by simp; omega)))
   have hb2 := b0.trans (hb1.mono (by simp))
   clear hb1 b0 HR0 HR HT
   go_loopw [26] (fun i wr => ∃ k : Nat, i = .int .i64 k ∧ k ≤ os.length ∧ Hid (RO wr B A os) ∧ Below w.heap.size w wr ∧ Hid (smlOs (os.take k) = true)) (fun i _ => os.length - (intOf i).toNat)
   case atStart => exact ⟨0, rfl, by omega, H1, hb2, rfl⟩
   case round =>
    obtain ⟨k, rfl, hk, hr, hb, hs⟩ := hrel
    clear hc0 hc1 H1 hb2
    by_cases hlt : k < os.length
    · obtain ⟨b, off, rfl, hbB, hcell⟩ := hr.out (by omega)
      obtain ⟨q1, q2, q3, q4⟩ := hcell k hlt
      clear hcell
      have hsz := hb.size
      have hkc : (k : Int) < (os.length : Int) := by omega
      obtain ⟨o, ho⟩ : ∃ o, os[k] = o := ⟨_, rfl⟩
      rw [ho] at q1 q2 q3 q4
      have HO := qh ho; clear ho
      have bv : Below w.heap.size wr (wr.alloc (.cells #[.int .i64 o.k, .int .i64 o.a, .int .i64 o.b, .int .i64 o.c] 151)) := (bR _ _).alloc hsz _
      have HS := qh (split_any o (wr.alloc (.cells #[.int .i64 o.k, .int .i64 o.a, .int .i64 o.b, .int .i64 o.c] 151)))
      go_wp2_with fail
      refine HS.out.mono ?_
      rintro e w2 ⟨rfl, hb3⟩
      have hb4 := hb.trans (bv.trans (hb3.mono (by simp; omega)))
      have HR4 := qh (hr.out.below ((bv.trans (hb3.mono (by simp; omega))).mono hB))
      clear hb3 bv HS q1 q2 q3 q4 hb
      go_wp2_with fail
      go_loop [32] (fun i => ∃ j : Nat, i = .int .i64 j ∧ j ≤ 4 ∧ Hid (∀ i, i < j → smlB (numO o i) = true)) (fun i => 4 - (intOf i).toNat)
      case atStart => exact ⟨0, rfl, by omega, fun i hi => by omega⟩
      case round =>
       obtain ⟨j, rfl, hj, hall⟩ := hrel
       by_cases hj4 : j < 4
       · have hx := index_parts o j hj4
         have hjc : (j : Int) < 4 := by omega
         obtain ⟨n, hn⟩ : ∃ n, numO o j = n := ⟨_, rfl⟩
         have hx2 := hx w2
         rw [hn] at hx2
         have HN := qh hn
         clear hn hx
         by_cases n1 : n < -2147483648
         · have HF2 := qh (show fitsB true os = false by rw [HF.out]; exact smlOs_bad hlt (by rw [HO.out]; exact smlOB_bad o j hj4 (by rw [HN.out]; exact smlB_no (.inl n1))))
           go_wp2
           go_ret
           exact ⟨by rw [HF2.out]; rfl, hb4⟩
         · by_cases n2 : 2147483647 < n
           · have HF2 := qh (show fitsB true os = false by rw [HF.out]; exact smlOs_bad hlt (by rw [HO.out]; exact smlOB_bad o j hj4 (by rw [HN.out]; exact smlB_no (.inr n2))))
             go_wp2
             go_ret
             exact ⟨by rw [HF2.out]; rfl, hb4⟩
           · have HA := qh (show ∀ i, i < j + 1 → smlB (numO o i) = true from fun i hi => by
              by_cases e : i < j
              · exact hall.out i e
              · obtain rfl : i = j := by omega
                rw [HN.out]; exact smlB_yes (by omega) (by omega))
             go_wp2
             go_round
             case rel => exact ⟨j + 1, by go_num, by omega, HA⟩
             case measure => simp [intOf]; omega
       · obtain rfl : j = 4 := by omega
         have HS2 := qh (smlOs_take hlt hs.out (by rw [HO.out]; exact smlOB_all o hall.out))
         go_wp2
         go_roundw
         case rel => exact ⟨k + 1, by go_num, by omega, HR4, hb4, HS2⟩
         case measure => simp [intOf]; omega
    · obtain rfl : k = os.length := by omega
      have HF2 := qh (show fitsB true os = true by rw [HF.out, ← hs.out, List.take_length])
      go_wp2
      go_ret
      exact ⟨by rw [HF2.out]; rfl, hb⟩
theorem small_eq (n : Int) (b : Bool) (h : smlB n = b) (w : World) :
 Calls Tryz.prog 163 #[.int .i64 n] w fun e w' => e = .returned (.bool b) ∧ w = w' := by subst h; exact small_any n w
set_option maxHeartbeats 4000000 in
theorem form_any (t : ByteArray) (A : Option Addr) (os : List O4) (cap B : Nat) (w : World) (hr : RO w B A os) (hB : B ≤ w.heap.size) (hc : os.length ≤ cap) (hm : cap ≤ maxLen) (ht : t.size ≤ 1099511627776) :
 Calls Tryz.prog 130 #[progV t A os.length cap] w fun e w' => e = .returned (.bool (fitsB (titB t) os)) ∧ Below w.heap.size w w' := by
 unfold progV
 unfold maxLen at hm
 have b0 : Below w.heap.size w (w.alloc (.cells #[.string t, .slice A os.length cap] 61)) := (bR _ _).alloc (nl _) _
 have HT := qh (reftitle_any t (w.alloc (.cells #[.string t, .slice A os.length cap] 61)) (by omega))
 have HR := qh hr; clear hr
 cases hti : titB t with
 | false =>
   have HF := qh (show fitsB false os = false by unfold fitsB; simp)
   rw [hti] at HT
   clear hti
   go_enter Tryz.func130, Tryz.ntmps130
   go_wp2_with (go_at_call 162; refine HT.out.mono ?_; rintro e w1 ⟨rfl, hb1⟩)
   go_ret
   exact ⟨by rw [HF.out]; rfl, b0.trans (hb1.mono (by simp))⟩
 | true =>
   rw [hti] at HT
   clear hti
   by_cases h1 : os.length < 1
   · have g1 : (os.length : Int) < 1 := by omega
     have HF := qh (show fitsB true os = false by unfold fitsB; rw [show decide (1 ≤ os.length) = false by rw [decide_eq_false_iff_not]; omega]; simp)
     clear h1
     go_enter Tryz.func130, Tryz.ntmps130
     go_wp2_with (go_at_call 162; refine HT.out.mono ?_; rintro e w1 ⟨rfl, hb1⟩; obtain ⟨hc0, hc1, _, _⟩ := two_cells hb1 (by simp))
     go_ret
     exact ⟨by rw [HF.out]; rfl, b0.trans (hb1.mono (by simp))⟩
   by_cases h2 : 64 < os.length
   · have g1 : ¬ (os.length : Int) < 1 := by omega
     have g2 : (64 : Int) < os.length := by omega
     have HF := qh (show fitsB true os = false by unfold fitsB; rw [show decide (os.length ≤ 64) = false by rw [decide_eq_false_iff_not]; omega]; simp)
     clear h1 h2
     go_enter Tryz.func130, Tryz.ntmps130
     go_wp2_with (go_at_call 162; refine HT.out.mono ?_; rintro e w1 ⟨rfl, hb1⟩; obtain ⟨hc0, hc1, _, _⟩ := two_cells hb1 (by simp))
     go_ret
     exact ⟨by rw [HF.out]; rfl, b0.trans (hb1.mono (by simp))⟩
   have g1 : ¬ (os.length : Int) < 1 := by omega
   have g2 : ¬ (64 : Int) < os.length := by omega
   have HF := qh (show fitsB true os = smlOs os by unfold fitsB; rw [show decide (1 ≤ os.length) = true by rw [decide_eq_true_iff]; omega, show decide (os.length ≤ 64) = true by rw [decide_eq_true_iff]; omega]; rfl)
   clear h1 h2
   have HR0 := qh (HR.out.below (b0.mono hB))
   go_enter Tryz.func130, Tryz.ntmps130
   go_wp2_with (go_at_call 162; refine HT.out.mono ?_; rintro e w1 ⟨rfl, hb1⟩; obtain ⟨hc0, hc1, hf0, hf1⟩ := two_cells hb1 (by simp))
   have H1 := qh (HR0.out.below (hb1.mono (by simp; omega)))
   have hb2 := b0.trans (hb1.mono (by simp))
   have hsz := hb1.size
   rw [World.size_alloc] at hsz
   clear hb1 b0 HR0 HR HT
   have C1 := qh hc1; clear hc1 hc0 hf0 hf1
   go_loopw [3] (fun i wr => ∃ k : Nat, i = .int .i64 k ∧ k ≤ os.length ∧ Hid (RO wr B A os) ∧ Below w.heap.size w wr ∧ w.heap.size < wr.heap.size ∧ Hid (wr.cell? ⟨w.heap.size, 1, none⟩ = some (.slice A os.length cap)) ∧ Hid (smlOs (os.take k) = true)) (fun i _ => os.length - (intOf i).toNat)
   case atStart => exact ⟨0, rfl, by omega, H1, hb2, by omega, C1, rfl⟩
   case round =>
    obtain ⟨k, rfl, hk, hr, hb, hsz2, hcl, hs⟩ := hrel
    clear H1 hb2 C1 hsz
    have hcl2 := hcl.out
    by_cases hlt : k < os.length
    · obtain ⟨b, off, rfl, hbB, hcell⟩ := hr.out (by omega)
      obtain ⟨q1, q2, q3, q4⟩ := hcell k hlt
      clear hcell
      have hkc : (k : Int) < (os.length : Int) := by omega
      obtain ⟨o, ho⟩ : ∃ o, os[k] = o := ⟨_, rfl⟩
      rw [ho] at q1 q2 q3 q4
      have HO := qh ho; clear ho
      have bv : Below wr.heap.size wr (wr.alloc (.cells #[.int .i64 o.k, .int .i64 o.a, .int .i64 o.b, .int .i64 o.c] 151)) := (bR _ _).alloc (nl _) _
      have hb4 := hb.trans (bv.mono hb.size)
      have HR4 := qh (hr.out.below (bv.mono (Nat.le_trans hB hb.size)))
      have HC4 := qh ((bv.cell (p := ⟨w.heap.size, 1, none⟩) hsz2).trans hcl2)
      clear bv
      have hbad : ∀ j, j < 4 → smlB (numO o j) = false → fitsB true os = false := fun j hj h => by rw [HF.out]; exact smlOs_bad hlt (by rw [HO.out]; exact smlOB_bad o j hj h)
      cases h1 : smlB o.k with
      | false =>
        have HF2 := qh (hbad 0 (by omega) h1)
        have HS1 := qh h1; clear h1 hbad
        go_wp2_with (go_at_call 163; refine (small_eq _ _ HS1.out _).mono ?_; rintro e w' ⟨rfl, rfl⟩)
        go_ret
        exact ⟨by rw [HF2.out]; rfl, hb4⟩
      | true =>
      cases h2 : smlB o.a with
      | false =>
        have HF2 := qh (hbad 1 (by omega) h2)
        have HS1 := qh h1; have HS2 := qh h2; clear h1 h2 hbad
        go_wp2_with (go_at_call 163; first | ((with_reducible refine (small_eq _ _ HS1.out _).mono ?_); rintro e w' ⟨rfl, rfl⟩) | ((with_reducible refine (small_eq _ _ HS2.out _).mono ?_); rintro e w' ⟨rfl, rfl⟩))
        go_ret
        exact ⟨by rw [HF2.out]; rfl, hb4⟩
      | true =>
      cases h3 : smlB o.b with
      | false =>
        have HF2 := qh (hbad 2 (by omega) h3)
        have HS1 := qh h1; have HS2 := qh h2; have HS3 := qh h3; clear h1 h2 h3 hbad
        go_wp2_with (go_at_call 163; first | ((with_reducible refine (small_eq _ _ HS1.out _).mono ?_); rintro e w' ⟨rfl, rfl⟩) | ((with_reducible refine (small_eq _ _ HS2.out _).mono ?_); rintro e w' ⟨rfl, rfl⟩) | ((with_reducible refine (small_eq _ _ HS3.out _).mono ?_); rintro e w' ⟨rfl, rfl⟩))
        go_ret
        exact ⟨by rw [HF2.out]; rfl, hb4⟩
      | true =>
      cases h4 : smlB o.c with
      | false =>
        have HF2 := qh (hbad 3 (by omega) h4)
        have HS1 := qh h1; have HS2 := qh h2; have HS3 := qh h3; have HS4 := qh h4; clear h1 h2 h3 h4 hbad
        go_wp2_with (go_at_call 163; first | ((with_reducible refine (small_eq _ _ HS1.out _).mono ?_); rintro e w' ⟨rfl, rfl⟩) | ((with_reducible refine (small_eq _ _ HS2.out _).mono ?_); rintro e w' ⟨rfl, rfl⟩) | ((with_reducible refine (small_eq _ _ HS3.out _).mono ?_); rintro e w' ⟨rfl, rfl⟩) | ((with_reducible refine (small_eq _ _ HS4.out _).mono ?_); rintro e w' ⟨rfl, rfl⟩))
        go_ret
        exact ⟨by rw [HF2.out]; rfl, hb4⟩
      | true =>
        have HG := qh (smlOs_take hlt hs.out (by rw [HO.out]; unfold smlOB; rw [h1, h2, h3, h4]; rfl))
        have HS1 := qh h1; have HS2 := qh h2; have HS3 := qh h3; have HS4 := qh h4; clear h1 h2 h3 h4 hbad
        go_wp2_with (go_at_call 163; first | ((with_reducible refine (small_eq _ _ HS1.out _).mono ?_); rintro e w' ⟨rfl, rfl⟩) | ((with_reducible refine (small_eq _ _ HS2.out _).mono ?_); rintro e w' ⟨rfl, rfl⟩) | ((with_reducible refine (small_eq _ _ HS3.out _).mono ?_); rintro e w' ⟨rfl, rfl⟩) | ((with_reducible refine (small_eq _ _ HS4.out _).mono ?_); rintro e w' ⟨rfl, rfl⟩))
        go_roundw
        case rel => exact ⟨k + 1, by go_num, by omega, HR4, hb4, by simp; omega, HC4, HG⟩
        case measure => simp [intOf]; omega
    · obtain rfl : k = os.length := by omega
      have HF2 := qh (show fitsB true os = true by rw [HF.out, ← hs.out, List.take_length])
      go_wp2
      go_ret
      exact ⟨by rw [HF2.out]; rfl, hb⟩
attribute [local go_sem ↓] Go.wp_at_zero Go.wp_at_succ
set_option maxHeartbeats 1000000 in
theorem cput_any (v : Value) (l : List UInt8) (base : Nat) (n : Int) (w : World) (ho : OB w base v l) (hB : base ≤ w.heap.size) (hn : in64 n) (hl : l.length ≤ 1099511627776) :
 Calls Tryz.prog 178 #[v, .int .i64 n] w fun e w' => ∃ v', e = .returned v' ∧ OB w' base v' (l ++ putN n) ∧ w.grownBy w' v.ownBlock := by
 have HO := qh ho; clear ho
 have HP := qh (put_any none [] 0 w.heap.size n w (RB.nil _ _ _) (nl _) hn (by simp))
 have hpl := putN_len n hn
 have HN := qh hn; clear hn
 go_enter Tryz.func178, Tryz.ntmps178
 go_wp2_with fail
 refine HP.out.mono ?_
 rintro e w1 ⟨v1, rfl, h1, hb1⟩
 rw [List.nil_append] at h1
 obtain ⟨A1, c1, rfl, h2, h3, h4⟩ := h1.form _ rfl
 have HO1 := qh (HO.out.below hb1 (nl _))
 have hs := hb1.size
 clear h1
 go_wp2_with (at_builtin; refine wpList_append_bytes rfl (.tmp 5) (.tmp 7) rfl base v l (putN n) rfl HO1.out w1.heap.size A1 c1 rfl h4 (by omega) (by omega) ?_; intro v2 w2 o2 g2 e2)
 go_ret
 exact ⟨_, rfl, o2, (only_of_below hb1 _).trans g2⟩
def encJ (o : O4) : Nat → List UInt8
 | 0 => []
 | j + 1 => encJ o j ++ putN (numO o j)
theorem encJ_four (o : O4) : encJ o 4 = encO o := by
 simp [encJ, encO, numO]
theorem encJ_len (o : O4) (h : smlO o) (j : Nat) (hj : j ≤ 4) : (encJ o j).length ≤ 10 * j := by
 induction j with
 | zero => simp [encJ]
 | succ j ih =>
   have h1 := ih (by omega)
   have h2 : in64 (numO o j) := by
    obtain ⟨a, b, c, d⟩ := h
    have e : j = 0 ∨ j = 1 ∨ j = 2 ∨ j = 3 := by omega
    rcases e with rfl | rfl | rfl | rfl
    · exact sml_in a
    · exact sml_in b
    · exact sml_in c
    · exact sml_in d
   have h3 := putN_len _ h2
   rw [encJ, List.length_append]
   omega
theorem num_in (o : O4) (h : smlO o) (j : Nat) (hj : j < 4) : in64 (numO o j) := by
 obtain ⟨a, b, c, d⟩ := h
 obtain rfl | rfl | rfl | rfl : j = 0 ∨ j = 1 ∨ j = 2 ∨ j = 3 := by omega
 · exact sml_in a
 · exact sml_in b
 · exact sml_in c
 · exact sml_in d
def encB (t : ByteArray) (os : List O4) : List UInt8 := if fitsB (titB t) os = true then encP t.data.toList os else []
theorem encOs_take {os : List O4} {k : Nat} (h : k < os.length) : encOs (os.take (k + 1)) = encOs (os.take k) ++ encO os[k] := by
 rw [List.take_succ_eq_append_getElem h, encOs_snoc]
set_option maxHeartbeats 4000000 in
theorem cencode_any (t : ByteArray) (A : Option Addr) (os : List O4) (cap B : Nat) (w : World) (hr : RO w B A os) (hB : B ≤ w.heap.size) (hc : os.length ≤ cap) (hm : cap ≤ maxLen) (ht : t.size ≤ 549755813888) :
 Calls Tryz.prog 158 #[progV t A os.length cap] w fun e w' => ∃ v, e = .returned v ∧ OB w' w.heap.size v (encB t os) ∧ Below w.heap.size w w' := by
 have b0 : Below w.heap.size w (w.alloc (.cells #[.string t, .slice A os.length cap] 61)) := (bR _ _).alloc (nl _) _
 have HR := qh (hr.below (b0.mono hB)); clear hr
 have HF := qh (fits_any t A os cap B (w.alloc (.cells #[.string t, .slice A os.length cap] 61)) HR.out (by rw [World.size_alloc]; omega) hc hm (by unfold maxLen; omega))
 unfold maxLen at hm
 unfold progV at HF ⊢
 cases hti : fitsB (titB t) os with
 | false =>
   have HE := qh (show encB t os = [] by unfold encB; rw [hti]; rfl)
   rw [hti] at HF
   clear hti
   go_enter Tryz.func158, Tryz.ntmps158
   go_wp2_with (go_at_call 177; refine HF.out.mono ?_; rintro e w1 ⟨rfl, hb1⟩)
   go_ret
   exact ⟨_, rfl, by rw [HE.out]; exact OB.nil _ _, b0.trans (hb1.mono (by simp))⟩
 | true =>
   have HE := qh (show encB t os = encP t.data.toList os by unfold encB; rw [hti]; rfl)
   have hfit := (fitsB_iff _ _).1 hti
   rw [hti] at HF
   have hos := hfit.2.2.1
   have HQ := qh hfit; clear hfit hti
   go_enter Tryz.func158, Tryz.ntmps158
   go_wp2_with (go_at_call 177; refine HF.out.mono ?_; rintro e w1 ⟨rfl, hb1⟩; obtain ⟨hc0, hc1, _, _⟩ := two_cells hb1 (by simp))
   have H1 := qh (HR.out.below (hb1.mono (by simp; omega)))
   have hb2 := b0.trans (hb1.mono (by simp))
   have hs1 := hb1.size
   rw [World.size_alloc] at hs1
   clear hb1 b0 HR HF
   have C0 := qh hc0; have C1 := qh hc1
   have hlT : (putT t.data.toList).length ≤ t.size + 10 := by
    have := putN_len _ (len_in t.data.toList (by have : t.data.toList.length = t.size := rfl; omega))
    unfold putT
    rw [List.length_append]
    have : t.data.toList.length = t.size := rfl
    omega
   go_region_held3 (fun w' => w'.cell? ⟨w.heap.size, 0, none⟩ = some (.string t) ∧ w'.cell? ⟨w.heap.size, 1, none⟩ = some (.slice A os.length cap)) (first | exact ⟨by assumption, by assumption⟩ | go_keep)
    (first
      | (go_at_call 179; refine (bytes_any none [] 0 _ t _ (RB.nil _ _ _) (nl _) (by simp) (by omega)).mono ?_; rintro e w2 ⟨v, rfl, ho, hb⟩; rw [List.nil_append] at ho; have k0 := (hb.cell (p := ⟨w.heap.size, 0, none⟩) (by simp; omega)).trans C0.out; have k1 := (hb.cell (p := ⟨w.heap.size, 1, none⟩) (by simp; omega)).trans C1.out; have HO := qh (ho.less (b' := w.heap.size + 1) (by simp; omega)); clear ho)
      | (go_at_call 178; refine (cput_any _ _ (w.heap.size + 1) _ _ HO.out (by have := hb.size; simp at this; omega) (len_in os (by omega)) (by omega)).mono ?_; rintro e w3 ⟨v3, rfl, ho3, hg3⟩; have hne : some w.heap.size ≠ v.ownBlock := (fun e => by have := HO.out.ge _ e.symm; omega); have m0 := hg3.cell k0 hne; have m1 := hg3.cell k1 hne))
   have hb4 : Below w.heap.size w w3 := ((hb2.drew).trans (hb.mono (by simp; omega))).grown hg3 (by have := hb.size; simp at this; omega) (fun k hk => by have := HO.out.ge _ hk; omega)
   have HR3 := qh (show RO w3 B A os from H1.out.below ((((bR _ w1).drew).trans (hb.mono (by simp; omega))).grown hg3 (by have := hb.size; simp at this; omega) (fun k hk => by have := HO.out.ge _ hk; omega)))
   have hs3 : w.heap.size + 1 ≤ w3.heap.size := by have := hb.size; have := hg3.size; simp at *; omega
   have HO3 := qh ho3
   have hlen : ∀ k, k ≤ os.length → (encOs (os.take k)).length ≤ 40 * 64 := fun k hk => by
    have := encOs_len (os.take k) (fun o ho => HQ.out.2.2.2 o (List.mem_of_mem_take ho))
    rw [List.length_take] at this; omega
   have hlN := putN_len (os.length : Int) (len_in os (by omega))
   have HL := qh hlen
   clear hlen ho3 hg3 hne m0 m1 k0 k1 hb HO hc0 hc1 C0 C1 H1 hb2
   go_wp2_with fail
   go_loopw [3, 21] (fun s i wr => ∃ k : Nat, i = .int .i64 k ∧ k ≤ os.length ∧ Hid (OB wr (w.heap.size + 1) s (putT t.data.toList ++ putN os.length ++ encOs (os.take k))) ∧ Hid (RO wr B A os) ∧ Below w.heap.size w wr ∧ w.heap.size + 1 ≤ wr.heap.size) (fun _ i _ => os.length - (intOf i).toNat)
   case atStart => exact ⟨0, rfl, by omega, by have := HO3.out; unfold Hid; rw [List.take_zero, encOs_nil, List.append_nil]; exact this, HR3, hb4, hs3⟩
   case round =>
    obtain ⟨k, rfl, hk, hob, hr, hb, hsz⟩ := hrel
    clear HO3 HR3 hb4 hs3
    by_cases hlt : k < os.length
    · obtain ⟨b, off, rfl, hbB, hcell⟩ := hr.out (by omega)
      obtain ⟨q1, q2, q3, q4⟩ := hcell k hlt
      clear hcell
      have hkc : (k : Int) < (os.length : Int) := by omega
      have hl1 := HL.out k (by omega)
      obtain ⟨o, ho⟩ : ∃ o, os[k] = o := ⟨_, rfl⟩
      have hsm : smlO o := by rw [← ho]; exact HQ.out.2.2.2 _ (List.getElem_mem hlt)
      rw [ho] at q1 q2 q3 q4
      have HK := qh (show encOs (os.take (k + 1)) = encOs (os.take k) ++ encO o by rw [← ho]; exact encOs_take hlt)
      clear ho
      have HSM := qh hsm; clear hsm
      have bv : Below wr.heap.size wr (wr.alloc (.cells #[.int .i64 o.k, .int .i64 o.a, .int .i64 o.b, .int .i64 o.c] 151)) := (bR _ _).alloc (nl _) _
      have HS := qh (split_any o (wr.alloc (.cells #[.int .i64 o.k, .int .i64 o.a, .int .i64 o.b, .int .i64 o.c] 151)))
      go_wp2_with fail
      refine HS.out.mono ?_
      rintro e w4 ⟨rfl, hb5⟩
      have bq : Below wr.heap.size wr w4 := bv.trans (hb5.mono (by simp))
      have hb6 := hb.trans (bq.mono hb.size)
      have HR4 := qh (hr.out.below (bq.mono (Nat.le_trans hB hb.size)))
      have HO4 := qh (hob.out.below bq (nl _))
      have hs4 : w.heap.size + 1 ≤ w4.heap.size := Nat.le_trans hsz bq.size
      clear hb5 bv HS q1 q2 q3 q4 hb bq hob hr hsz
      go_wp2_with fail
      go_loopw [3, 27] (fun s i wr2 => ∃ j : Nat, i = .int .i64 j ∧ j ≤ 4 ∧ Hid (OB wr2 (w.heap.size + 1) s (putT t.data.toList ++ putN os.length ++ encOs (os.take k) ++ encJ o j)) ∧ Hid (RO wr2 B (some ⟨b, off, none⟩) os) ∧ Below w.heap.size w wr2 ∧ w.heap.size + 1 ≤ wr2.heap.size) (fun _ i _ => 4 - (intOf i).toNat)
      case atStart => exact ⟨0, rfl, by omega, by have := HO4.out; unfold Hid; rw [encJ, List.append_nil]; exact this, HR4, hb6, hs4⟩
      case round =>
       obtain ⟨j, rfl, hj, hob2, hr2, hb2, hsz2⟩ := hrel
       clear HO4 HR4 hb6 hs4
       by_cases hj4 : j < 4
       · have hx := index_parts o j hj4
         have hjc : (j : Int) < 4 := by omega
         have hlJ := encJ_len o HSM.out j hj
         have HNI := qh (num_in o HSM.out j hj4)
         have hx2 := hx wr
         clear hx
         go_wp2_with fail
         (with_reducible refine (cput_any _ _ (w.heap.size + 1) _ _ hob2.out hsz2 HNI.out (by simp only [List.length_append]; omega)).mono ?_)
         rintro e w5 ⟨v5, rfl, ho5, hg5⟩
         have hbb : Below (w.heap.size + 1) wr w5 := (bR _ _).grown hg5 hsz2 hob2.out.ge
         have HO5 := qh (show OB w5 (w.heap.size + 1) v5 (putT t.data.toList ++ putN os.length ++ encOs (os.take k) ++ encJ o (j + 1)) by rw [encJ, ← List.append_assoc]; exact ho5)
         have HR5 := qh (hr2.out.below (hbb.mono (by omega)))
         have hb7 := hb2.trans (hbb.mono (by omega))
         have hs5 := Nat.le_trans hsz2 hbb.size
         clear ho5 hg5 hbb
         go_wp2_with fail
         go_roundw
         case rel => exact ⟨j + 1, by go_num, by omega, HO5, HR5, hb7, hs5⟩
         case measure => simp [intOf]; omega
       · obtain rfl : j = 4 := by omega
         have HO5 := qh (show OB wr (w.heap.size + 1) _ (putT t.data.toList ++ putN os.length ++ encOs (os.take (k + 1))) by
          have := hob2.out
          rw [HK.out, ← List.append_assoc]
          rw [encJ_four] at this
          exact this)
         go_wp2_with fail
         go_roundw
         case rel => exact ⟨k + 1, by go_num, by omega, HO5, hr2, hb2, hsz2⟩
         case measure => simp [intOf]; omega
    · obtain rfl : k = os.length := by omega
      go_wp2_with fail
      go_ret
      refine ⟨_, rfl, ?_, hb⟩
      rw [HE.out]
      unfold encP
      have := hob.out
      rw [List.take_length, List.append_assoc] at this
      exact this.less (by omega)
attribute [local go_sem ↓] Go.wp_at_zero Go.wp_at_succ
attribute [local go_sem ↓] Go.wp_at_zero Go.wp_at_succ
set_option maxHeartbeats 1000000 in
theorem cut40_any (s : ByteArray) (w : World) :
 Calls Tryz.prog 93 #[.string s, .int .i64 40] w fun e w' => e = .returned (.string (s.extract 0 (min 40 s.size))) ∧ w = w' := by
 have hx : s.extract 0 s.size = s := by simp
 have HX := qh hx; clear hx
 by_cases h : 40 < s.size
 · have h1 : (s.size : Int) > (40 : Int) := by omega
   have hm : min 40 s.size = 40 := by omega
   have HM := qh hm; clear hm h
   go_enter Tryz.func93, Tryz.ntmps93
   go_wp2
   go_ret
   exact ⟨by rw [HM.out]; rfl, rfl⟩
 · have h1 : ¬ (s.size : Int) > (40 : Int) := by omega
   have hm : min 40 s.size = s.size := by omega
   have HM := qh hm; clear hm h
   go_enter Tryz.func93, Tryz.ntmps93
   go_wp2
   go_ret
   exact ⟨by rw [HM.out, HX.out]; rfl, rfl⟩
def cutT (t : ByteArray) : ByteArray := t.extract 0 (min 40 t.size)
theorem cutT_size (t : ByteArray) : (cutT t).size ≤ 40 := by
 unfold cutT
 rw [ByteArray.size_extract]
 omega
set_option maxHeartbeats 1000000 in
theorem lcut_any (t : ByteArray) (A : Option Addr) (os : List O4) (cap k : Nat) (n : Int) (hn : Hid (n = k)) (w : World) (n0 : 0 ≤ n) (n1 : n ≤ 1000) (hc : os.length ≤ cap) (hm : cap ≤ maxLen) :
 Calls Tryz.prog 37 #[progV t A os.length cap, .int .i64 n] w fun e w' => e = .returned (progV (cutT t) A (os.take k).length cap) ∧ Below w.heap.size w w' := by
 unfold maxLen at hm
 unfold progV
 rw [List.length_take]
 have HC := qh (cut40_any t)
 by_cases h : k < os.length
 · have h1 : n < (os.length : Int) := by have := hn.out; omega
   have hz : n.toNat = k := by have := hn.out; omega
   have hq : min k os.length = n.toNat := by omega
   have HQ := qh hq; clear hq h hz
   go_enter Tryz.func37, Tryz.ntmps37
   go_wp2_with (go_at_call 93; refine (HC.out _).mono ?_; rintro e w1 ⟨rfl, rfl⟩)
   refine bodyPost_ret (v := .agg #[.string (cutT t), .slice A n.toNat cap]) (by simp [results, Tryz.results37, go_sem, cutT]) rfl ⟨by rw [HQ.out], ?_⟩
   exact ((bR _ _).alloc (nl _) _).alloc (by simp) _
 · have h1 : ¬ n < (os.length : Int) := by have := hn.out; omega
   have hq : min k os.length = os.length := by omega
   have HQ := qh hq; clear hq h
   go_enter Tryz.func37, Tryz.ntmps37
   go_wp2_with (go_at_call 93; refine (HC.out _).mono ?_; rintro e w1 ⟨rfl, rfl⟩)
   refine bodyPost_ret (v := .agg #[.string (cutT t), .slice A os.length cap]) (by simp [results, Tryz.results37, go_sem, cutT]) rfl ⟨by rw [HQ.out], ?_⟩
   exact ((bR _ _).alloc (nl _) _).alloc (by simp) _
set_option maxRecDepth 100000
open Go.Joins Go.ChangeShapes Go.WideShapes Go.ChangeAt Go.RowKit Go.Deep
section
variable {H : Type} {enc : TypeId × Value → H} {P : Program} {w : World} {base : Nat} {spare : Nat → Bool} {held : Bool}
theorem open_slice_fields {t e : TypeId} {fs : Array Field} {fuel : Nat} {cs : List Value} {x : DataW H × List MemPlace} (ht : P.underlying t = some (.slice e)) (he : P.underlying e = some (.struct fs))
 (hone : oneCellFields P fs = true) (hC : P.cellsOf e = fs.size) (h : DataW.trod enc P w base spare held fuel t cs = some x) :
 (cs = [.slice none 0 0] ∧ x = (.nil, [])) ∨
 ∃ (a : Addr) (len cap m : Nat) (D : Nat → DataW H) (Pl : Nat → List MemPlace), cs = [.slice (some a) len cap] ∧ base ≤ a.block ∧ len ≤ cap ∧ cap ≤ maxLen ∧ m = (if spare a.block then cap else len) ∧
   x = (.slice ((List.range len).map D) ((List.range (m - len)).map fun j => D (len + j)), MemPlace.row a (m * fs.size) ++ (List.range m).flatMap Pl) ∧
   ∀ i, i < m → ∃ (ys : List (DataW H × List MemPlace)) (n : Nat), D i = .agg (ys.map (·.1)) ∧ Pl i = ys.flatMap (·.2) ∧ ys.length = fs.size ∧
     ∀ (j : Nat) (f : Field), fs[j]? = some f → ∃ (v : Value) (y : DataW H × List MemPlace), w.cell? (a.add (i * fs.size + j)) = some v ∧ ys[j]? = some y ∧ DataW.trod enc P w base spare held n f.type [v] = some y := by
 rcases open_slice ht h with h0 | ⟨a, len, cap, m, n, D, Pl, hcs, hb, hl, hm, hmm, hx, hi⟩
 · exact .inl h0
 · refine .inr ⟨a, len, cap, m, D, Pl, hcs, hb, hl, hm, hmm, by rw [hC] at hx; exact hx, fun i him => ?_⟩
   obtain ⟨cs', hc, ht'⟩ := hi i him
   rw [hC] at hc
   obtain ⟨ys, n', hn', hy, hlen, hyl, hf⟩ := DataW.trod_struct he ht'
   obtain ⟨_, hcl, hat⟩ := World.cells?_some hc
   simp only [Prod.mk.injEq] at hy
   refine ⟨ys, n', hy.1, hy.2, hyl, fun j f hj => ?_⟩
   obtain ⟨ho, hk⟩ := hone_of hone j f hj
   have hjl : j < fs.size := (Array.getElem?_eq_some_iff.1 hj).1
   have hcell := hat j hjl
   have hv : cs'[j]? = some (cs'[j]'(by omega)) := List.getElem?_eq_getElem (by omega)
   have h1 := hf j f hj
   rw [ho, hk] at h1
   have hone' : (cs'.drop j).take 1 = [cs'[j]'(by omega)] := by
    rw [List.drop_eq_getElem_cons (by omega)]
    rfl
   rw [hone'] at h1
   have hys : ys[j]? = some (ys[j]'(by omega)) := List.getElem?_eq_getElem (by omega)
   refine ⟨_, _, ?_, hys, h1.trans hys⟩
   rw [← Go.Deep.add_add, hcell, hv]
end
def inO (o : O4) : Prop := in64 o.k ∧ in64 o.a ∧ in64 o.b ∧ in64 o.c
section
variable {H : Type} {enc : TypeId × Value → H}
theorem open_oplist {W : World} {base n : Nat} {v : Value} {y : DataW H × List MemPlace} (h : DataW.trod enc Tryz.prog W 0 (fun _ => true) true n 59 [v] = some y) :
 ∃ A os cap, v = .slice A (os : List O4).length cap ∧ RO W W.heap.size A os ∧ os.length ≤ cap ∧ cap ≤ maxLen ∧ ∀ o ∈ os, inO o := by
 rcases open_slice_fields Tryz.underlying59 Tryz.underlying151 (by kernel_rfl) (by kernel_rfl) h with ⟨hcs, _⟩ | ⟨a, len, cap, m, D, Pl, hcs, _, hl, hm, hmm, _, hi⟩
 · simp only [List.cons.injEq, and_true] at hcs
   subst hcs
   exact ⟨none, [], 0, rfl, RO.nil _ _ _, by simp, by unfold maxLen; omega, fun o ho => by cases ho⟩
 · simp only [List.cons.injEq, and_true] at hcs
   subst hcs
   simp only [if_true] at hmm
   have hu := Tryz.underlying3
   have hx : ∀ i, i < len → ∃ o : O4, (W.cell? (a.add (i * 4)) = some (.int .i64 o.k) ∧ W.cell? (a.add (i * 4 + 1)) = some (.int .i64 o.a) ∧ W.cell? (a.add (i * 4 + 2)) = some (.int .i64 o.b) ∧ W.cell? (a.add (i * 4 + 3)) = some (.int .i64 o.c)) ∧ inO o := fun i hil => by
    obtain ⟨ys, n', _, _, _, hf⟩ := hi i (by omega)
    obtain ⟨v0, y0, c0, _, t0⟩ := hf 0 _ rfl
    obtain ⟨v1, y1, c1, _, t1⟩ := hf 1 _ rfl
    obtain ⟨v2, y2, c2, _, t2⟩ := hf 2 _ rfl
    obtain ⟨v3, y3, c3, _, t3⟩ := hf 3 _ rfl
    obtain ⟨n0, e0, _, w0⟩ := DataW.trod_int hu t0
    obtain ⟨n1, e1, _, w1⟩ := DataW.trod_int hu t1
    obtain ⟨n2, e2, _, w2⟩ := DataW.trod_int hu t2
    obtain ⟨n3, e3, _, w3⟩ := DataW.trod_int hu t3
    simp only [List.cons.injEq, and_true] at e0 e1 e2 e3
    subst e0 e1 e2 e3
    exact ⟨⟨n0, n1, n2, n3⟩, ⟨c0, c1, c2, c3⟩, bounds_i64 w0, bounds_i64 w1, bounds_i64 w2, bounds_i64 w3⟩
   obtain ⟨f, hf⟩ : ∃ f : Nat → O4, ∀ i, i < len → (W.cell? (a.add (i * 4)) = some (.int .i64 (f i).k) ∧ W.cell? (a.add (i * 4 + 1)) = some (.int .i64 (f i).a) ∧ W.cell? (a.add (i * 4 + 2)) = some (.int .i64 (f i).b) ∧ W.cell? (a.add (i * 4 + 3)) = some (.int .i64 (f i).c)) ∧ inO (f i) :=
    ⟨fun i => if h : i < len then Classical.choose (hx i h) else ⟨0, 0, 0, 0⟩, fun i h => by simp only [dif_pos h]; exact Classical.choose_spec (hx i h)⟩
   refine ⟨some a, (List.range len).map f, cap, by simp, fun h0 => ?_, by simpa using hl, hm, fun o ho => ?_⟩
   · simp only [List.length_map, List.length_range] at h0
     obtain ⟨b, off, spot⟩ := a
     have hspot : spot = none := by simpa [Addr.add] using World.cell?_spot (hf 0 (by omega)).1.1
     subst hspot
     have hc0 := (hf 0 (by omega)).1.1
     rw [Addr.add_lit] at hc0
     refine ⟨b, off, rfl, cell_lt hc0, fun j hj => ?_⟩
     simp only [List.length_map, List.length_range] at hj
     have hc := (hf j hj).1
     simp only [Addr.add_lit, ← Nat.add_assoc] at hc
     rw [List.getElem_map, List.getElem_range]
     exact hc
   · obtain ⟨i, hi, rfl⟩ := List.mem_map.1 ho
     exact (hf i (List.mem_range.1 hi)).2
theorem open_prog {W : World} {base : Nat} {v : Value} {d : DataW H} {p : List MemPlace} (hval : Value.okWide Tryz.prog W .any base 61 v) (h : DataW.Trod enc Tryz.prog W 0 (fun _ => true) true 61 v d p) :
 ∃ t A os cap, v = progV t A (os : List O4).length cap ∧ RO W W.heap.size A os ∧ os.length ≤ cap ∧ cap ≤ maxLen ∧ (∀ o ∈ os, inO o) ∧ t.size ≤ maxLen := by
 obtain ⟨v0, v1, y0, y1, n, rfl, _, _, h0, h1⟩ := open_agg2 Tryz.underlying61 (by kernel_rfl) (by kernel_rfl) hval h
 obtain ⟨s, e, _, hs⟩ := DataW.trod_string Tryz.underlying9 h0
 simp only [List.cons.injEq, and_true] at e
 subst e
 obtain ⟨A, os, cap, rfl, hr, hc, hm, hi⟩ := open_oplist (base := base) h1
 exact ⟨s, A, os, cap, rfl, hr, hc, hm, hi, hs⟩
end
attribute [local go_sem ↓] Go.wp_at_zero Go.wp_at_succ
def opL (o : O4) : List Value := [.int .i64 o.k, .int .i64 o.a, .int .i64 o.b, .int .i64 o.c]
def opsL : List O4 → List Value
 | [] => []
 | o :: r => opL o ++ opsL r
theorem opsL_len (os : List O4) : (opsL os).length = os.length * 4 := by
 induction os with
 | nil => rfl
 | cons o r ih => rw [opsL, List.length_append, ih, List.length_cons]; show 4 + r.length * 4 = _; omega
theorem opsL_at : ∀ (os : List O4) (j c : Nat) (h : j < os.length), c < 4 → (opsL os)[j * 4 + c]? = some (opF os[j] c)
 | [], j, c, h, _ => by simp at h
 | o :: r, 0, c, _, hc => by
   rw [opsL, List.getElem?_append_left (by show 0 * 4 + c < 4; omega)]
   obtain rfl | rfl | rfl | rfl : c = 0 ∨ c = 1 ∨ c = 2 ∨ c = 3 := by omega
   all_goals rfl
 | o :: r, j + 1, c, h, hc => by
   rw [opsL, List.getElem?_append_right (by show 4 ≤ (j + 1) * 4 + c; omega)]
   have e : (j + 1) * 4 + c - (opL o).length = j * 4 + c := by show (j + 1) * 4 + c - 4 = _; omega
   rw [e, opsL_at r j c (by simpa using h) hc]
   rfl
def OO (w : World) (base : Nat) (v : Value) (os : List O4) : Prop := w.ownsRow base 151 4 v os.length (opsL os)
theorem OO.nil (w : World) (base : Nat) : OO w base (.slice none 0 0) [] := World.ownsRow_nil _ _ _ _
theorem OO.form {w : World} {base : Nat} {v : Value} {os : List O4} (h : OO w base v os) : ∃ A cap, v = .slice A os.length cap ∧ os.length ≤ cap ∧ cap ≤ maxLen ∧ RO w w.heap.size A os := by
 have h' := h
 obtain ⟨hl, hd⟩ := h
 rcases hd with ⟨rfl, hn⟩ | ⟨g, cap, cur, rfl, _, hh, h1, h2, h3, h4⟩
 · have e := opsL_len os
   rw [hn] at e
   have h0 : os.length = 0 := by simp at e; omega
   obtain rfl := List.eq_nil_of_length_eq_zero h0
   exact ⟨none, 0, rfl, by simp, by unfold maxLen; omega, RO.nil _ _ _⟩
 · refine ⟨some ⟨g, 0, none⟩, cap, rfl, h1, h2, fun h0 => ⟨g, 0, rfl, ?_, fun j hj => ?_⟩⟩
   · rcases Nat.lt_or_ge g w.heap.size with hlt | hge
     · exact hlt
     · rw [Array.getElem?_eq_none hge] at hh; cases hh
   · have hc := World.ownsRow.cells h' (g := g) rfl
     have e : ∀ c, c < 4 → w.cell? ⟨g, 0 + j * 4 + c, none⟩ = some (opF os[j] c) := fun c hc4 => by
      have := hc (j * 4 + c) _ (opsL_at os j c hj hc4)
      rw [Addr.add_lit] at this
      rw [Nat.add_assoc]
      exact this
     exact ⟨e 0 (by omega), e 1 (by omega), e 2 (by omega), e 3 (by omega)⟩
def oObj (o : O4) : Obj := .cells #[.int .i64 o.k, .int .i64 o.a, .int .i64 o.b, .int .i64 o.c] 151
attribute [local go_sem ↓] Go.wp_at_zero Go.wp_at_succ
theorem OO.form_n {w : World} {base : Nat} {v : Value} {os : List O4} (h : OO w base v os) (n : Nat) (hn : os.length = n) : ∃ A cap, v = .slice A n cap := by
 obtain ⟨A, cap, e, _⟩ := h.form
 rw [hn] at e
 exact ⟨A, cap, e⟩
theorem OO.reads {w : World} {base : Nat} {A : Option Addr} {n c : Nat} {os : List O4} (h : OO w base (.slice A n c) os) : os.length = n ∧ n ≤ c ∧ c ≤ maxLen ∧ RO w w.heap.size A os := by
 obtain ⟨A', c', e, h1, h2, h3⟩ := h.form
 injection e with e1 e2 e3
 subst e1 e2 e3
 exact ⟨rfl, h1, h2, h3⟩
theorem OO.below {w w' : World} {base B : Nat} {v : Value} {l : List O4} (h : OO w base v l) (hb : Below B w w') (hB : w.heap.size ≤ B) : OO w' base v l := by
 have hg : w.grownBy w' none := ⟨hb.os, hb.tape, hb.output, hb.size, fun i hi _ => hb.block i (by omega)⟩
 refine World.ownsRow.kept h hg ?_
 cases hv : v.ownBlock with
 | none => exact .inl rfl
 | some k => exact .inr (by simp)
theorem OO.ge {w : World} {base : Nat} {v : Value} {l : List O4} (h : OO w base v l) : ∀ k, v.ownBlock = some k → base ≤ k := fun k hk => (World.ownsRow.lt h k hk).1
theorem OO.lo {w : World} {base : Nat} {v : Value} {l : List O4} (h : OO w base v l) : ∀ k, v.ownBlock = some k → k < w.heap.size := fun k hk => (World.ownsRow.lt h k hk).2
theorem OO.lit (w : World) (o : O4) (base : Nat) (hb : base ≤ w.heap.size) : OO (w.alloc (oObj o)) base (.slice (some ⟨w.heap.size, 0, none⟩) 1 1) [o] :=
 ⟨by simp [opsL, opL], .inr ⟨w.heap.size, 1, _, rfl, hb, heap_alloc_new w _, nl _, by unfold maxLen; omega, by rfl, by rfl⟩⟩
theorem opsL_append (os ps : List O4) : opsL (os ++ ps) = opsL os ++ opsL ps := by
 induction os with
 | nil => rfl
 | cons o r ih => rw [List.cons_append, opsL, opsL, ih, List.append_assoc]
theorem opsL_plain {os : List O4} {u : Value} (h : u ∈ opsL os) : ∃ z, u = .int .i64 z := by
 induction os with
 | nil => cases h
 | cons o r ih =>
   rw [opsL, List.mem_append] at h
   rcases h with h | h
   · simp only [opL, List.mem_cons, List.not_mem_nil, or_false] at h
     rcases h with rfl | rfl | rfl | rfl <;> exact ⟨_, rfl⟩
   · exact ih h
theorem run_append_ops (w : World) (base : Nat) (ty : TypeId) (v : Value) (os ps : List O4) (hown : OO w base v os)
 (B : Nat) (A : Option Addr) (c : Nat) (hr : RO w B A ps) (hlen : os.length + ps.length ≤ 1000000) (hbase : base ≤ w.heap.size) :
 ∃ v' w', (Builtin.append_ #[59, 59] ty #[v, .slice A ps.length c]).run Tryz.prog w = .ok v' w' ∧ OO w' base v' (os ++ ps) ∧ w.grownBy w' v.ownBlock ∧
   (v'.ownBlock = v.ownBlock ∨ v'.ownBlock = some w.heap.size) := by
 obtain ⟨i0, hi0, hz0, hz1, hz2⟩ := info_parts op_info
 cases A with
 | none =>
   obtain rfl : ps = [] := by
    rcases Nat.eq_zero_or_pos ps.length with h0 | h0
    · exact List.eq_nil_of_length_eq_zero h0
    · obtain ⟨b, off, e, _⟩ := hr h0
      cases e
   refine ⟨v, w, ?_, by rw [List.append_nil]; exact hown, ⟨rfl, rfl, rfl, nl _, fun _ _ _ => rfl⟩, .inl rfl⟩
   rcases hown.2 with ⟨rfl, h0⟩ | ⟨g, cap, cur, rfl, _, _, hnc, _⟩
   · simp [Builtin.append_, run_underlying Tryz.underlying59, sizeOf, typeInfo, hi0, Builtin.lenOf, Builtin.firstCells]
   · simp [Builtin.append_, run_underlying Tryz.underlying59, sizeOf, typeInfo, hi0, Builtin.lenOf, Builtin.firstCells, hnc, storeCells]
 | some ad =>
   obtain ⟨v', w', hrun, h2, h3, _, h5⟩ := run_append_own_at (P := Tryz.prog) w base 59 ty 151 i0 (opV zeroO) 4 32 Tryz.underlying59 hi0 hz0 hz1 hz2 rfl (by decide) v os.length _ hown ad ps.length c (opsL ps) (opsL_len ps)
    (fun j u hj => by
      have hjl : j / 4 < ps.length := by
       have h1 : j < (opsL ps).length := by
        rcases Nat.lt_or_ge j (opsL ps).length with h | h
        · exact h
        · rw [List.getElem?_eq_none h] at hj; cases hj
       rw [opsL_len] at h1
       omega
      obtain ⟨b, off, e, _, hcell⟩ := hr (by omega)
      have e := Option.some.inj e
      subst e
      have e2 : j = j / 4 * 4 + j % 4 := by omega
      rw [e2, opsL_at ps (j / 4) (j % 4) hjl (by omega)] at hj
      injection hj with hj
      rw [Addr.add_lit, ← hj]
      obtain ⟨c0, c1, c2, c3⟩ := hcell (j / 4) hjl
      generalize hq : j / 4 = q at *
      obtain h | h | h | h : j % 4 = 0 ∨ j % 4 = 1 ∨ j % 4 = 2 ∨ j % 4 = 3 := by omega
      · rw [h, show off + j = off + q * 4 by omega]; exact c0
      · rw [h, show off + j = off + q * 4 + 1 by omega]; exact c1
      · rw [h, show off + j = off + q * 4 + 2 by omega]; exact c2
      · rw [h, show off + j = off + q * 4 + 3 by omega]; exact c3)
    (fun u hu => by
      obtain ⟨x, rfl⟩ := opsL_plain hu
      rfl) (by unfold maxLen; omega) (by omega) hbase
   exact ⟨v', w', hrun, by unfold OO; rw [List.length_append, opsL_append]; exact h2, h3, h5⟩
theorem wpList_append_ops {w : World} {ops : Array Oper} {rest : List Oper} {o : Oper} {a : Act} {Q : Exit → Act → World → Prop} (hgd : o.guard = none) (s x : Operand)
 (ho : o.op = .call { callee := .builtin .append, args := #[s, x], argTypes := #[59, 59] })
 (base : Nat) (v : Value) (os ps : List O4) (hs : a.eval s = v) (hown : OO w base v os)
 (B : Nat) (A : Option Addr) (c : Nat) (hx : a.eval x = .slice A ps.length c) (hr : RO w B A ps) (hlen : os.length + ps.length ≤ 1000000) (hbase : base ≤ w.heap.size)
 (h : ∀ v' w', OO w' base v' (os ++ ps) → w.grownBy w' v.ownBlock → (v'.ownBlock = v.ownBlock ∨ v'.ownBlock = some w.heap.size) → wpList Tryz.prog ops Q rest (a.put o.dst v') w') : wpList Tryz.prog ops Q (o :: rest) a w := by
 refine wpList_plain hgd fun _ hK => ?_
 obtain ⟨v', w', hrun, h2, h3, h4⟩ := run_append_ops w base o.type v os ps hown B A c hr hlen hbase
 unfold Oper.wp execOp
 simp only [ho, resolve, invoke, builtin, Sem.run_bind, Sem.run_pure, Result.andThen_ok, List.map_toArray, List.map_cons, List.map_nil, hs, hx, hrun]
 exact hK _ _ (h v' w' h2 h3 h4)
end Go.Proofs.YtpnobpligchpiaaGreatDoor
