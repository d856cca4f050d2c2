/- THE WALKS of put, code's Encode. -/
import Derived.Test.YtbmhdinaofepdaaOf
import Derived.Test.YtbmhdinaofepdaaKd
import Derived.Deep.RegionHeld3
import Derived.Deep.DrawnRows
import Derived.Maps.Range
namespace Go.Proofs.Ytbmhdinaofepdaa
open Go.RowKit
set_option linter.unusedVariables false
attribute [local go_sem ↓] Go.wp_at_zero Go.wp_at_succ

set_option maxHeartbeats 1000000 in
theorem cput_any (v : Value) (l : List UInt8) (base : Nat) (n : Int) (w : World) (ho : OB w base v l) (hB : base ≤ w.heap.size) (hn : in64 n) (hl : l.length ≤ 1099511627776) :
    Calls Try.prog 49 #[v, .int .i64 n] w fun e w' => ∃ v', e = .returned v' ∧ OB w' base v' (l ++ putN n) ∧ w.grownBy w' v.ownBlock := by
  have HO := Lib.hid ho; clear ho
  have HP := Lib.hid (put_any none [] 0 w.heap.size n w (RB.nil _ _ _) (Nat.le_refl _) hn (by simp))
  have hpl := putN_len n hn
  have HN := Lib.hid hn; clear hn
  go_enter Try.func49, Try.ntmps49
  go_wp2_with fail
  refine HP.out.mono ?_
  rintro e w1 ⟨v1, rfl, h1, hb1⟩
  rw [List.nil_append] at h1
  obtain ⟨A1, c1, rfl, h2, h3, h4⟩ := h1.form _ rfl
  have HO1 := Lib.hid (HO.out.below hb1 (Nat.le_refl _))
  have hs := hb1.size
  clear h1
  go_wp2_with (at_builtin; refine wpList_append_bytes rfl (.tmp 5) (.tmp 7) rfl base v l (putN n) rfl HO1.out w1.heap.size A1 c1 rfl h4 (by omega) (by omega) ?_; intro v2 w2 o2 g2 e2)
  go_ret
  exact ⟨_, rfl, o2, (only_of_below hb1 _).trans g2⟩

/-- the first j numbers of an operation -/
def encJ (o : O4) : Nat → List UInt8
  | 0 => []
  | j + 1 => encJ o j ++ putN (numO o j)
theorem encJ_four (o : O4) : encJ o 4 = encO o := by
  simp [encJ, encO, numO]
theorem encJ_len (o : O4) (h : smlO o) (j : Nat) (hj : j ≤ 4) : (encJ o j).length ≤ 10 * j := by
  induction j with
  | zero => simp [encJ]
  | succ j ih =>
    have h1 := ih (by omega)
    have h2 : in64 (numO o j) := by
      obtain ⟨a, b, c, d⟩ := h
      have e : j = 0 ∨ j = 1 ∨ j = 2 ∨ j = 3 := by omega
      rcases e with rfl | rfl | rfl | rfl
      · exact sml_in a
      · exact sml_in b
      · exact sml_in c
      · exact sml_in d
    have h3 := putN_len _ h2
    rw [encJ, List.length_append]
    omega
theorem num_in (o : O4) (h : smlO o) (j : Nat) (hj : j < 4) : in64 (numO o j) := by
  obtain ⟨a, b, c, d⟩ := h
  obtain rfl | rfl | rfl | rfl : j = 0 ∨ j = 1 ∨ j = 2 ∨ j = 3 := by omega
  · exact sml_in a
  · exact sml_in b
  · exact sml_in c
  · exact sml_in d
/-- what Encode writes -/
def encB (t : ByteArray) (os : List O4) : List UInt8 := if fitsB (titB t) os = true then encP t.data.toList os else []
theorem encOs_take {os : List O4} {k : Nat} (h : k < os.length) : encOs (os.take (k + 1)) = encOs (os.take k) ++ encO os[k] := by
  rw [List.take_succ_eq_append_getElem h, encOs_snoc]
set_option maxHeartbeats 4000000 in
theorem encode_any (t : ByteArray) (A : Option Addr) (os : List O4) (cap B : Nat) (w : World) (hr : RO w B A os) (hB : B ≤ w.heap.size) (hc : os.length ≤ cap) (hm : cap ≤ maxLen) (ht : t.size ≤ 549755813888) :
    Calls Try.prog 40 #[progV t A os.length cap] w fun e w' => ∃ v, e = .returned v ∧ OB w' w.heap.size v (encB t os) ∧ Below w.heap.size w w' := by
  have b0 : Below w.heap.size w (w.alloc (.cells #[.string t, .slice A os.length cap] 24)) := (Below.refl _ _).alloc (Nat.le_refl _) _
  have HR := Lib.hid (hr.below (b0.mono hB)); clear hr
  have HF := Lib.hid (fits_any t A os cap B (w.alloc (.cells #[.string t, .slice A os.length cap] 24)) HR.out (by rw [World.size_alloc]; omega) hc hm (by unfold maxLen; omega))
  unfold maxLen at hm
  unfold progV at HF ⊢
  cases hti : fitsB (titB t) os with
  | false =>
    have HE := Lib.hid (show encB t os = [] by unfold encB; rw [hti]; rfl)
    rw [hti] at HF
    clear hti
    go_enter Try.func40, Try.ntmps40
    go_wp2_with (go_at_call 48; refine HF.out.mono ?_; rintro e w1 ⟨rfl, hb1⟩)
    go_ret
    exact ⟨_, rfl, by rw [HE.out]; exact OB.nil _ _, b0.trans (hb1.mono (by simp))⟩
  | true =>
    have HE := Lib.hid (show encB t os = encP t.data.toList os by unfold encB; rw [hti]; rfl)
    have hfit := (fitsB_iff _ _).1 hti
    rw [hti] at HF
    have hos := hfit.2.2.1
    have HQ := Lib.hid hfit; clear hfit hti
    go_enter Try.func40, Try.ntmps40
    go_wp2_with (go_at_call 48; refine HF.out.mono ?_; rintro e w1 ⟨rfl, hb1⟩; obtain ⟨hc0, hc1, _, _⟩ := two_cells hb1 (by simp))
    have H1 := Lib.hid (HR.out.below (hb1.mono (by simp; omega)))
    have hb2 := b0.trans (hb1.mono (by simp))
    have hs1 := hb1.size
    rw [World.size_alloc] at hs1
    clear hb1 b0 HR HF
    have C0 := Lib.hid hc0; have C1 := Lib.hid hc1
    have hlT : (putT t.data.toList).length ≤ t.size + 10 := by
      have := putN_len _ (len_in t.data.toList (by have : t.data.toList.length = t.size := rfl; omega))
      unfold putT
      rw [List.length_append]
      have : t.data.toList.length = t.size := rfl
      omega
    go_region_held3 (fun w' => w'.cell? ⟨w.heap.size, 0, none⟩ = some (.string t) ∧ w'.cell? ⟨w.heap.size, 1, none⟩ = some (.slice A os.length cap)) (first | exact ⟨by assumption, by assumption⟩ | go_keep)
      (first
        | (go_at_call 50; refine (bytes_any none [] 0 _ t _ (RB.nil _ _ _) (Nat.le_refl _) (by simp) (by omega)).mono ?_; rintro e w2 ⟨v, rfl, ho, hb⟩; rw [List.nil_append] at ho; have k0 := (hb.cell (p := ⟨w.heap.size, 0, none⟩) (by simp; omega)).trans C0.out; have k1 := (hb.cell (p := ⟨w.heap.size, 1, none⟩) (by simp; omega)).trans C1.out; have HO := Lib.hid (ho.less (b' := w.heap.size + 1) (by simp; omega)); clear ho)
        | (go_at_call 49; refine (cput_any _ _ (w.heap.size + 1) _ _ HO.out (by have := hb.size; simp at this; omega) (len_in os (by omega)) (by omega)).mono ?_; rintro e w3 ⟨v3, rfl, ho3, hg3⟩; have hne : some w.heap.size ≠ v.ownBlock := (fun e => by have := HO.out.ge _ e.symm; omega); have m0 := hg3.cell k0 hne; have m1 := hg3.cell k1 hne))
    have hb4 : Below w.heap.size w w3 := ((hb2.drew).trans (hb.mono (by simp; omega))).grown hg3 (by have := hb.size; simp at this; omega) (fun k hk => by have := HO.out.ge _ hk; omega)
    have HR3 := Lib.hid (show RO w3 B A os from H1.out.below ((((Below.refl _ w1).drew).trans (hb.mono (by simp; omega))).grown hg3 (by have := hb.size; simp at this; omega) (fun k hk => by have := HO.out.ge _ hk; omega)))
    have hs3 : w.heap.size + 1 ≤ w3.heap.size := by have := hb.size; have := hg3.size; simp at *; omega
    have HO3 := Lib.hid ho3
    have hlen : ∀ k, k ≤ os.length → (encOs (os.take k)).length ≤ 40 * 64 := fun k hk => by
      have := encOs_len (os.take k) (fun o ho => HQ.out.2.2.2 o (List.mem_of_mem_take ho))
      rw [List.length_take] at this; omega
    have hlN := putN_len (os.length : Int) (len_in os (by omega))
    have HL := Lib.hid hlen
    clear hlen ho3 hg3 hne m0 m1 k0 k1 hb HO hc0 hc1 C0 C1 H1 hb2
    go_wp2_with fail
    go_loopw [3, 21] (fun s i wr => ∃ k : Nat, i = .int .i64 k ∧ k ≤ os.length ∧ Hid (OB wr (w.heap.size + 1) s (putT t.data.toList ++ putN os.length ++ encOs (os.take k))) ∧ Hid (RO wr B A os) ∧ Below w.heap.size w wr ∧ w.heap.size + 1 ≤ wr.heap.size) (fun _ i _ => os.length - (intOf i).toNat)
    case atStart => exact ⟨0, rfl, by omega, by have := HO3.out; unfold Hid; rw [List.take_zero, encOs_nil, List.append_nil]; exact this, HR3, hb4, hs3⟩
    case round =>
      obtain ⟨k, rfl, hk, hob, hr, hb, hsz⟩ := hrel
      clear HO3 HR3 hb4 hs3
      by_cases hlt : k < os.length
      · obtain ⟨b, off, rfl, hbB, hcell⟩ := hr.out (by omega)
        obtain ⟨q1, q2, q3, q4⟩ := hcell k hlt
        clear hcell
        have hkc : (k : Int) < (os.length : Int) := by omega
        have hl1 := HL.out k (by omega)
        obtain ⟨o, ho⟩ : ∃ o, os[k] = o := ⟨_, rfl⟩
        have hsm : smlO o := by rw [← ho]; exact HQ.out.2.2.2 _ (List.getElem_mem hlt)
        rw [ho] at q1 q2 q3 q4
        have HK := Lib.hid (show encOs (os.take (k + 1)) = encOs (os.take k) ++ encO o by rw [← ho]; exact encOs_take hlt)
        clear ho
        have HSM := Lib.hid hsm; clear hsm
        have bv : Below wr.heap.size wr (wr.alloc (.cells #[.int .i64 o.k, .int .i64 o.a, .int .i64 o.b, .int .i64 o.c] 46)) := (Below.refl _ _).alloc (Nat.le_refl _) _
        have HS := Lib.hid (split_any o (wr.alloc (.cells #[.int .i64 o.k, .int .i64 o.a, .int .i64 o.b, .int .i64 o.c] 46)))
        go_wp2_with fail
        refine HS.out.mono ?_
        rintro e w4 ⟨rfl, hb5⟩
        have bq : Below wr.heap.size wr w4 := bv.trans (hb5.mono (by simp))
        have hb6 := hb.trans (bq.mono hb.size)
        have HR4 := Lib.hid (hr.out.below (bq.mono (Nat.le_trans hB hb.size)))
        have HO4 := Lib.hid (hob.out.below bq (Nat.le_refl _))
        have hs4 : w.heap.size + 1 ≤ w4.heap.size := Nat.le_trans hsz bq.size
        clear hb5 bv HS q1 q2 q3 q4 hb bq hob hr hsz
        go_wp2_with fail
        go_loopw [3, 27] (fun s i wr2 => ∃ j : Nat, i = .int .i64 j ∧ j ≤ 4 ∧ Hid (OB wr2 (w.heap.size + 1) s (putT t.data.toList ++ putN os.length ++ encOs (os.take k) ++ encJ o j)) ∧ Hid (RO wr2 B (some ⟨b, off, none⟩) os) ∧ Below w.heap.size w wr2 ∧ w.heap.size + 1 ≤ wr2.heap.size) (fun _ i _ => 4 - (intOf i).toNat)
        case atStart => exact ⟨0, rfl, by omega, by have := HO4.out; unfold Hid; rw [encJ, List.append_nil]; exact this, HR4, hb6, hs4⟩
        case round =>
          obtain ⟨j, rfl, hj, hob2, hr2, hb2, hsz2⟩ := hrel
          clear HO4 HR4 hb6 hs4
          by_cases hj4 : j < 4
          · have hx := index_parts o j hj4
            have hjc : (j : Int) < 4 := by omega
            have hlJ := encJ_len o HSM.out j hj
            have HNI := Lib.hid (num_in o HSM.out j hj4)
            have hx2 := hx wr
            clear hx
            go_wp2_with fail
            (with_reducible refine (cput_any _ _ (w.heap.size + 1) _ _ hob2.out hsz2 HNI.out (by simp only [List.length_append]; omega)).mono ?_)
            rintro e w5 ⟨v5, rfl, ho5, hg5⟩
            have hbb : Below (w.heap.size + 1) wr w5 := (Below.refl _ _).grown hg5 hsz2 hob2.out.ge
            have HO5 := Lib.hid (show OB w5 (w.heap.size + 1) v5 (putT t.data.toList ++ putN os.length ++ encOs (os.take k) ++ encJ o (j + 1)) by rw [encJ, ← List.append_assoc]; exact ho5)
            have HR5 := Lib.hid (hr2.out.below (hbb.mono (by omega)))
            have hb7 := hb2.trans (hbb.mono (by omega))
            have hs5 := Nat.le_trans hsz2 hbb.size
            clear ho5 hg5 hbb
            go_wp2_with fail
            go_roundw
            case rel => exact ⟨j + 1, by go_num, by omega, HO5, HR5, hb7, hs5⟩
            case measure => simp [intOf]; omega
          · obtain rfl : j = 4 := by omega
            have HO5 := Lib.hid (show OB wr (w.heap.size + 1) _ (putT t.data.toList ++ putN os.length ++ encOs (os.take (k + 1))) by
              have := hob2.out
              rw [HK.out, ← List.append_assoc]
              rw [encJ_four] at this
              exact this)
            go_wp2_with fail
            go_roundw
            case rel => exact ⟨k + 1, by go_num, by omega, HO5, hr2, hb2, hsz2⟩
            case measure => simp [intOf]; omega
      · obtain rfl : k = os.length := by omega
        go_wp2_with fail
        go_ret
        refine ⟨_, rfl, ?_, hb⟩
        rw [HE.out]
        unfold encP
        have := hob.out
        rw [List.take_length, List.append_assoc] at this
        exact this.less (by omega)
end Go.Proofs.Ytbmhdinaofepdaa
