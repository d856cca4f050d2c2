/- THE WALK of package quintainref1's Fault. -/
import Derived.Test.YtbmhdinaofepdaaEe
import Derived.Deep.RegionHeld3
import Derived.Deep.DrawnRows
namespace Go.Proofs.Ytbmhdinaofepdaa
set_option maxRecDepth 100000
open Go.RowKit
set_option linter.unusedVariables false

set_option maxHeartbeats 2000000 in
theorem reffault_any (t : ByteArray) (A : Option Addr) (os : List O4) (cap B : Nat) (w : World) (hr : RO w B A os) (hB : B ≤ w.heap.size) (hc : os.length ≤ cap) (hm : cap ≤ maxLen) (ht : t.size ≤ 549755813888) :
    Calls Try.prog 19 #[progV t A os.length cap] w fun e w' => e = .returned (.int .i64 (faultN (titB t) os)) ∧ Below w.heap.size w w' := by
  have b0 : Below w.heap.size w (w.alloc (.cells #[.string t, .slice A os.length cap] 24)) := (Below.refl _ _).alloc (Nat.le_refl _) _
  have hr1 : RO (w.alloc (.cells #[.string t, .slice A os.length cap] 24)) B A os := hr.below (b0.mono hB)
  have HR := Lib.hid hr1
  have HM := Lib.hid (form_any t A os cap B (w.alloc (.cells #[.string t, .slice A os.length cap] 24)) hr1 (by simp; omega) hc hm (by omega))
  unfold progV at HM ⊢
  cases hf : fitsB (titB t) os with
  | false =>
    have HQ := Lib.hid (show faultN (titB t) os = -2 by unfold faultN; rw [hf]; rfl)
    rw [hf] at HM
    clear hr hr1 hf
    go_enter Try.func19, Try.ntmps19
    go_wp2_with (go_at_call 26; refine HM.out.mono ?_; rintro e w1 ⟨rfl, hb1⟩)
    go_ret
    exact ⟨by rw [HQ.out]; rfl, b0.trans (hb1.mono (by simp))⟩
  | true =>
    have hos := ((fitsB_iff _ _).1 hf).2.2.1
    have HQ := Lib.hid (show faultN (titB t) os = firstN (fun o => mayB o os.length) os by unfold faultN; rw [hf]; rfl)
    rw [hf] at HM
    clear hr hr1 hf
    go_enter Try.func19, Try.ntmps19
    go_wp2_with (go_at_call 26; refine HM.out.mono ?_; rintro e w1 ⟨rfl, hb1⟩; obtain ⟨hc0, hc1, _, _⟩ := two_cells hb1 (by simp))
    have H1 := Lib.hid (HR.out.below (hb1.mono (by simp; omega)))
    have hb2 := b0.trans (hb1.mono (by simp))
    have hsz := hb1.size
    rw [World.size_alloc] at hsz
    have C1 := Lib.hid hc1
    clear hb1 b0 HR HM hc0 hc1
    go_loopw [3] (fun i wr => ∃ k : Nat, i = .int .i64 k ∧ k ≤ os.length ∧ Hid (RO wr B A os) ∧ Below w.heap.size w wr ∧ w.heap.size < wr.heap.size ∧ Hid (wr.cell? ⟨w.heap.size, 1, none⟩ = some (.slice A os.length cap)) ∧ Hid (∀ j (h : j < os.length), j < k → mayB os[j] os.length = true)) (fun i _ => os.length - (intOf i).toNat)
    case atStart => exact ⟨0, rfl, by omega, H1, hb2, by omega, C1, fun j h hj => by omega⟩
    case round =>
      obtain ⟨k, rfl, hk, hr, hb, hsz2, hcl, hall⟩ := hrel
      clear H1 hb2 C1 hsz
      have hcl2 := hcl.out
      by_cases hlt : k < os.length
      · obtain ⟨b, off, rfl, hbB, hcell⟩ := hr.out (by omega)
        obtain ⟨q1, q2, q3, q4⟩ := hcell k hlt
        clear hcell
        have hkc : (k : Int) < (os.length : Int) := by omega
        obtain ⟨o, ho⟩ : ∃ o, os[k] = o := ⟨_, rfl⟩
        rw [ho] at q1 q2 q3 q4
        have HF := Lib.hid (fun W => refmay_any o os.length W)
        unfold opV at HF
        have P0 := Lib.hid hcl2
        have bd : Below w.heap.size w wr.drew := hb.drew
        have HB := Lib.hid hb
        have hds : wr.drew.heap.size = wr.heap.size := rfl
        cases hm : mayB o os.length with
        | false =>
          have HQ2 := Lib.hid (firstN_hit (fun o => mayB o os.length) os k hlt (by rw [ho]; exact hm) hall.out)
          rw [hm] at HF
          clear hm ho
          go_wp2
          go_region_held3 (fun w' => w'.cell? ⟨w.heap.size, 1, none⟩ = some (.slice (some ⟨b, off, none⟩) os.length cap) ∧ w'.cell? ⟨b, off + k * 4, none⟩ = some (.int .i64 o.k) ∧ w'.cell? ⟨b, off + k * 4 + 1, none⟩ = some (.int .i64 o.a) ∧ w'.cell? ⟨b, off + k * 4 + 2, none⟩ = some (.int .i64 o.b) ∧ w'.cell? ⟨b, off + k * 4 + 3, none⟩ = some (.int .i64 o.c)) (first | exact ⟨by assumption, by assumption, by assumption, by assumption, by assumption⟩ | go_keep)
            (first | (go_at_call 27; refine (HF.out _).mono ?_; rintro e w4 ⟨rfl, hbc⟩; have p0 := (hbc.cell (p := ⟨w.heap.size, 1, none⟩) (show w.heap.size < _ from hsz2)).trans P0.out; have p1 := (hbc.cell (p := ⟨b, off + k * 4, none⟩) (show b < _ from Nat.lt_of_lt_of_le hbB (Nat.le_trans hB HB.out.size))).trans q1; have p2 := (hbc.cell (p := ⟨b, off + k * 4 + 1, none⟩) (show b < _ from Nat.lt_of_lt_of_le hbB (Nat.le_trans hB HB.out.size))).trans q2; have p3 := (hbc.cell (p := ⟨b, off + k * 4 + 2, none⟩) (show b < _ from Nat.lt_of_lt_of_le hbB (Nat.le_trans hB HB.out.size))).trans q3; have p4 := (hbc.cell (p := ⟨b, off + k * 4 + 3, none⟩) (show b < _ from Nat.lt_of_lt_of_le hbB (Nat.le_trans hB HB.out.size))).trans q4))
          go_wp2
          go_ret
          exact ⟨by rw [HQ.out, HQ2.out]; rfl, bd.trans (hbc.mono HB.out.size)⟩
        | true =>
          have HA2 : Hid (∀ j (h : j < os.length), j < k + 1 → mayB os[j] os.length = true) := fun j h hj => by
            by_cases e : j < k
            · exact hall.out j h e
            · obtain rfl : j = k := by omega
              rw [ho]; exact hm
          rw [hm] at HF
          clear hm ho
          go_wp2
          go_region_held3 (fun w' => w'.cell? ⟨w.heap.size, 1, none⟩ = some (.slice (some ⟨b, off, none⟩) os.length cap) ∧ w'.cell? ⟨b, off + k * 4, none⟩ = some (.int .i64 o.k) ∧ w'.cell? ⟨b, off + k * 4 + 1, none⟩ = some (.int .i64 o.a) ∧ w'.cell? ⟨b, off + k * 4 + 2, none⟩ = some (.int .i64 o.b) ∧ w'.cell? ⟨b, off + k * 4 + 3, none⟩ = some (.int .i64 o.c)) (first | exact ⟨by assumption, by assumption, by assumption, by assumption, by assumption⟩ | go_keep)
            (first | (go_at_call 27; refine (HF.out _).mono ?_; rintro e w4 ⟨rfl, hbc⟩; have p0 := (hbc.cell (p := ⟨w.heap.size, 1, none⟩) (show w.heap.size < _ from hsz2)).trans P0.out; have p1 := (hbc.cell (p := ⟨b, off + k * 4, none⟩) (show b < _ from Nat.lt_of_lt_of_le hbB (Nat.le_trans hB HB.out.size))).trans q1; have p2 := (hbc.cell (p := ⟨b, off + k * 4 + 1, none⟩) (show b < _ from Nat.lt_of_lt_of_le hbB (Nat.le_trans hB HB.out.size))).trans q2; have p3 := (hbc.cell (p := ⟨b, off + k * 4 + 2, none⟩) (show b < _ from Nat.lt_of_lt_of_le hbB (Nat.le_trans hB HB.out.size))).trans q3; have p4 := (hbc.cell (p := ⟨b, off + k * 4 + 3, none⟩) (show b < _ from Nat.lt_of_lt_of_le hbB (Nat.le_trans hB HB.out.size))).trans q4))
          have hb5 := bd.trans (hbc.mono HB.out.size)
          have hs5 := Nat.lt_of_lt_of_le hsz2 hbc.size
          have C5 := Lib.hid p0
          have H5 := Lib.hid (hr.out.below ((((Below.refl _ wr).drew).trans hbc).mono (Nat.le_trans hB HB.out.size)))
          go_wp2
          go_roundw
          case rel => exact ⟨k + 1, by go_num, by omega, H5, hb5, hs5, C5, HA2⟩
          case measure => simp [intOf]; omega
      · obtain rfl : k = os.length := by omega
        have HQ2 := Lib.hid (firstN_miss (fun o => mayB o os.length) os (fun j h => hall.out j h h))
        go_wp2
        go_ret
        exact ⟨by rw [HQ.out, HQ2.out]; rfl, hb⟩
end Go.Proofs.Ytbmhdinaofepdaa
