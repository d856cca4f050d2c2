/- THE WALKS over package check: Fault's own function, IndexFunc, Fault, May. -/
import Derived.Test.YtbmhdinaofepdaaEc
namespace Go.Proofs.Ytbmhdinaofepdaa
set_option maxRecDepth 100000
open Go.RowKit
set_option linter.unusedVariables false

set_option maxHeartbeats 1000000 in
theorem fclo_any (o : O4) (pb n c : Nat) (A : Option Addr) (w : World) (hcell : w.cell? ⟨pb, 1, none⟩ = some (.slice A n c)) :
    Calls Try.prog 42 #[opV o, .pointer (some ⟨pb, 0, none⟩)] w fun e w' => e = .returned (.bool (!mayB o n)) ∧ Below w.heap.size w w' := by
  have hlt : pb < w.heap.size := cell_lt hcell
  have HM := Lib.hid (fun W => cmayOp_any o n W)
  unfold opV at HM ⊢
  have b0 : Below w.heap.size w (w.alloc (.cells #[.int .i64 o.k, .int .i64 o.a, .int .i64 o.b, .int .i64 o.c] 46)) := (Below.refl _ _).alloc (Nat.le_refl _) _
  have hc1 := (b0.cell (p := ⟨pb, 1, none⟩) hlt).trans hcell
  go_enter Try.func42, Try.ntmps42
  go_wp2_with (go_at_call 43; refine (HM.out _).mono ?_; rintro e w1 ⟨rfl, hb1⟩)
  go_ret
  exact ⟨rfl, b0.trans (hb1.mono (by simp))⟩
set_option maxHeartbeats 2000000 in
theorem indexfunc_any (A : Option Addr) (os : List O4) (cap B : Nat) (pb n c : Nat) (A2 : Option Addr) (w : World) (hr : RO w B A os) (hB : B ≤ w.heap.size) (hl : os.length ≤ 1000000) (hcell : w.cell? ⟨pb, 1, none⟩ = some (.slice A2 n c)) :
    Calls Try.prog 41 #[.slice A os.length cap, .func (.func 42) #[] #[.pointer (some ⟨pb, 0, none⟩)]] w fun e w' => e = .returned (.int .i64 (firstN (fun o => mayB o n) os)) ∧ Below w.heap.size w w' := by
  have HC := Lib.hid hcell; clear hcell
  have HR := Lib.hid hr; clear hr
  go_enter Try.func41, Try.ntmps41
  go_wp2_with fail
  go_loopw [5, 8] (fun s i wr => ∃ k : Nat, i = .int .i64 k ∧ k ≤ os.length ∧ Below w.heap.size w wr ∧ Hid (∀ j (h : j < os.length), j < k → mayB os[j] n = true)) (fun _ i _ => os.length - (intOf i).toNat)
  case atStart => exact ⟨0, rfl, by omega, Below.refl _ _, fun j h hj => by omega⟩
  case round =>
    obtain ⟨k, rfl, hk, hb, hall⟩ := hrel
    by_cases hlt : k < os.length
    · obtain ⟨b, off, rfl, hbB, hcell⟩ := (HR.out.below (hb.mono hB)) (by omega)
      obtain ⟨q1, q2, q3, q4⟩ := hcell k hlt
      clear hcell
      have hkc : (k : Int) < (os.length : Int) := by omega
      obtain ⟨o, ho⟩ : ∃ o, os[k] = o := ⟨_, rfl⟩
      rw [ho] at q1 q2 q3 q4
      have hcl := (hb.cell (p := ⟨pb, 1, none⟩) (cell_lt HC.out)).trans HC.out
      have HF := Lib.hid (fclo_any o pb n c A2 wr hcl)
      unfold opV at HF
      clear hcl
      cases hm : mayB o n with
      | false =>
        have HQ := Lib.hid (firstN_hit (fun o => mayB o n) os k hlt (by rw [ho]; exact hm) hall.out)
        rw [hm] at HF
        clear hm ho
        go_wp2_with (go_at_call 42; refine HF.out.mono ?_; rintro e w2 ⟨rfl, hb2⟩)
        go_ret
        exact ⟨by rw [HQ.out]; rfl, hb.trans (hb2.mono hb.size)⟩
      | true =>
        have HA : Hid (∀ j (h : j < os.length), j < k + 1 → mayB os[j] n = true) := fun j h hj => by
          by_cases e : j < k
          · exact hall.out j h e
          · obtain rfl : j = k := by omega
            rw [ho]; exact hm
        rw [hm] at HF
        clear hm ho
        go_wp2_with (go_at_call 42; refine HF.out.mono ?_; rintro e w2 ⟨rfl, hb2⟩)
        have hb3 := hb.trans (hb2.mono hb.size)
        go_roundw
        case rel => exact ⟨k + 1, by go_num, by omega, hb3, HA⟩
        case measure => simp [intOf]; omega
    · obtain rfl : k = os.length := by omega
      have HQ := Lib.hid (firstN_miss (fun o => mayB o n) os (fun j h => hall.out j h h))
      go_wp2
      go_ret
      exact ⟨by rw [HQ.out]; rfl, hb⟩
set_option maxHeartbeats 1000000 in
theorem encode_nil (t : ByteArray) (A : Option Addr) (os : List O4) (cap B : Nat) (w : World) (hr : RO w B A os) (hB : B ≤ w.heap.size) (hc : os.length ≤ cap) (hm : cap ≤ maxLen) (ht : t.size ≤ 549755813888) (hf : fitsB (titB t) os = false) :
    Calls Try.prog 40 #[progV t A os.length cap] w fun e w' => e = .returned (.slice none 0 0) ∧ Below w.heap.size w w' := by
  have b0 : Below w.heap.size w (w.alloc (.cells #[.string t, .slice A os.length cap] 24)) := (Below.refl _ _).alloc (Nat.le_refl _) _
  have HF := Lib.hid (fits_any t A os cap B (w.alloc (.cells #[.string t, .slice A os.length cap] 24)) (hr.below (b0.mono hB)) (by simp; omega) hc hm (by unfold maxLen; omega))
  rw [hf] at HF
  unfold progV at HF ⊢
  clear hr hf
  go_enter Try.func40, Try.ntmps40
  go_wp2_with (go_at_call 48; refine HF.out.mono ?_; rintro e w1 ⟨rfl, hb1⟩)
  go_ret
  exact ⟨rfl, b0.trans (hb1.mono (by simp))⟩
theorem encode_some (t : ByteArray) (A : Option Addr) (os : List O4) (cap B : Nat) (w : World) (hr : RO w B A os) (hB : B ≤ w.heap.size) (hc : os.length ≤ cap) (hm : cap ≤ maxLen) (ht : t.size ≤ 549755813888) (hf : fitsB (titB t) os = true) :
    Calls Try.prog 40 #[progV t A os.length cap] w fun e w' => ∃ a n c, e = .returned (.slice (some a) n c) ∧ Below w.heap.size w w' := by
  refine (encode_any t A os cap B w hr hB hc hm ht).mono ?_
  rintro e w' ⟨v, rfl, ho, hb⟩
  have he : encB t os = encP t.data.toList os := by unfold encB; rw [hf]; rfl
  rw [he] at ho
  rcases ho.2 with ⟨_, h0⟩ | ⟨g, cap', cur, rfl, _⟩
  · have hl : 0 < (encP t.data.toList os).length := by
      exact encP_pos t.data.toList os
    omega
  · exact ⟨_, _, _, rfl, hb⟩
set_option maxHeartbeats 1000000 in
theorem fault_any (t : ByteArray) (A : Option Addr) (os : List O4) (cap B : Nat) (w : World) (hr : RO w B A os) (hB : B ≤ w.heap.size) (hc : os.length ≤ cap) (hm : cap ≤ maxLen) (ht : t.size ≤ 549755813888) :
    Calls Try.prog 37 #[progV t A os.length cap] w fun e w' => e = .returned (.int .i64 (faultN (titB t) os)) ∧ Below w.heap.size w w' := by
  have b0 : Below w.heap.size w (w.alloc (.cells #[.string t, .slice A os.length cap] 24)) := (Below.refl _ _).alloc (Nat.le_refl _) _
  have hr1 : RO (w.alloc (.cells #[.string t, .slice A os.length cap] 24)) B A os := hr.below (b0.mono hB)
  have hB1 : B ≤ (w.alloc (.cells #[.string t, .slice A os.length cap] 24)).heap.size := by simp; omega
  have HR := Lib.hid hr1
  cases hf : fitsB (titB t) os with
  | false =>
    have hn : ∀ W : World, (binOp .eql 43 (.slice none 0 0) (.slice none 0 0)).run Try.prog W = .ok (.bool true) W := fun W => Lib.run_eql_slice_nil W _ _ _ _ _ _ _ Try.underlying43
    have HE := Lib.hid (encode_nil t A os cap B _ hr1 hB1 hc hm ht hf)
    have HQ := Lib.hid (show faultN (titB t) os = -2 by unfold faultN; rw [hf]; rfl)
    unfold progV at HE ⊢
    clear hr hr1 hf
    go_enter Try.func37, Try.ntmps37
    go_wp2_with (go_at_call 40; refine HE.out.mono ?_; rintro e w1 ⟨rfl, hb1⟩)
    go_ret
    exact ⟨by rw [HQ.out]; rfl, b0.trans (hb1.mono (by simp))⟩
  | true =>
    have hmf : ∀ (fn : Fn) (first cap : Array Value) (w : World), (Instr.makeFunc fn first cap).run Try.prog w = .ok (.func fn first cap) w := fun _ _ _ _ => rfl
    have hn : ∀ (a : Addr) (n c : Nat) (W : World), (binOp .eql 43 (.slice (some a) n c) (.slice none 0 0)).run Try.prog W = .ok (.bool false) W := fun a n c W => Lib.run_eql_slice_nil W _ _ _ _ _ _ _ Try.underlying43
    have HE := Lib.hid (encode_some t A os cap B _ hr1 hB1 hc hm ht hf)
    have hos := ((fitsB_iff _ _).1 hf).2.2.1
    have HQ := Lib.hid (show faultN (titB t) os = firstN (fun o => mayB o os.length) os by unfold faultN; rw [hf]; rfl)
    unfold progV at HE ⊢
    clear hr hr1 hf
    go_enter Try.func37, Try.ntmps37
    go_wp2_with (go_at_call 40; refine HE.out.mono ?_; rintro e w1 ⟨a, n, c, rfl, hb1⟩; obtain ⟨hc0, hc1, _, _⟩ := two_cells hb1 (by simp))
    refine (indexfunc_any A os cap B w.heap.size os.length cap A _ (HR.out.below (hb1.mono (by simp; omega))) (by have := hb1.size; simp at this; omega) (by omega) hc1).mono ?_
    rintro e w2 ⟨rfl, hb2⟩
    go_wp2
    go_ret
    exact ⟨by rw [HQ.out]; rfl, (b0.trans (hb1.mono (by simp))).trans (hb2.mono (by have := hb1.size; simp at this; omega))⟩
set_option maxHeartbeats 1000000 in
theorem may_any (t : ByteArray) (A : Option Addr) (os : List O4) (cap B : Nat) (w : World) (hr : RO w B A os) (hB : B ≤ w.heap.size) (hc : os.length ≤ cap) (hm : cap ≤ maxLen) (ht : t.size ≤ 549755813888) :
    Calls Try.prog 30 #[progV t A os.length cap] w fun e w' => e = .returned (.bool (faultN (titB t) os == -1)) ∧ Below w.heap.size w w' := by
  have b0 : Below w.heap.size w (w.alloc (.cells #[.string t, .slice A os.length cap] 24)) := (Below.refl _ _).alloc (Nat.le_refl _) _
  have HF := Lib.hid (fault_any t A os cap B (w.alloc (.cells #[.string t, .slice A os.length cap] 24)) (hr.below (b0.mono hB)) (by simp; omega) hc hm ht)
  unfold progV at HF ⊢
  clear hr
  generalize faultN (titB t) os = z at *
  go_enter Try.func30, Try.ntmps30
  go_wp2_with (go_at_call 37; refine HF.out.mono ?_; rintro e w1 ⟨rfl, hb1⟩)
  go_ret
  exact ⟨rfl, b0.trans (hb1.mono (by simp))⟩
end Go.Proofs.Ytbmhdinaofepdaa
