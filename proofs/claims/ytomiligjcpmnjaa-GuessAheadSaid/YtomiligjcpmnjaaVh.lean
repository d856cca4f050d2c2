/- MERGED of XVd XVe XVf XVg XVh -/
import Derived.Test.YtomiligjcpmnjaaFw
import Derived.Deep.CutBlock
import Derived.Deep.CutRange
import Derived.Test.YtomiligjcpmnjaaKr
/- XVd -/
namespace Go.Proofs.Ytomiligjcpmnjaa
set_option maxRecDepth 100000
open Go.RowKit Go.Maps
set_option linter.unusedVariables false
set_option linter.unusedSimpArgs false

set_option maxHeartbeats 2000000 in
theorem refw_any (b : Kd) (A : Option Addr) (n c : Nat) (P : Option Addr) (p : List UInt8) (L pc : Nat) (w : World) (hok : b.ok) (hL : p.length = L) (hc : L ≤ pc) (hm : pc ≤ maxLen) (hp : RB w w.heap.size P p) (hl : L ≤ 2000) :
    Calls Try.prog 44 #[byV b.k b.o A n c, .slice P L pc] w fun e w' => e = .returned (.agg (aN (wB b p))) ∧ Below w.heap.size w w' := by
  obtain ⟨k, o, tb⟩ := b
  have ho : o ≤ 3 := by unfold Kd.ok at hok; simp only at hok; omega
  have hz := zeroN
  simp only
  have H3 := Lib.hid (w3_is w k o A n c 25)
  obtain ⟨w3, hw3⟩ : ∃ w3, w3_ w k o A n c 25 = w3 := ⟨_, rfl⟩
  rw [hw3] at H3
  unfold w3_ at hw3
  have HW := Lib.hid hw3
  clear hw3
  by_cases hk : k = 2
  · subst hk
    rw [show ((2 : Nat) : Int) = 2 from rfl] at HW H3 ⊢
    by_cases hLo : L < o
    · have HZ : Hid (aN z256 = aN (wB ⟨2, o, tb⟩ p)) := aN_congr (fun v _ => by
        show (0 : Int) = wts o (endN o p) p p.length v
        rw [wts_low o _ p v p.length (by rw [hL]; omega)])
      have hLoz : (L : Int) < (o : Int) := by omega
      unfold byV byA
      go_enter Try.func44, Try.ntmps44
      go_upto_region 3 with fail
      rw [HW.out]
      have G1 := H3.out.g1
      have G2 := H3.out.g2
      have HB := Lib.hid H3.out.bel
      clear hz
      go_wp2_with (first
        | (with_reducible refine wpList_load_n rfl (.tmp 5) rfl (w.heap.size + 1 + 1) (by with_unfolding_all rfl) z256 G2 ?_)
        | (with_reducible refine wpList_store_n rfl (.tmp 4) (.tmp 18) rfl (w.heap.size + 1) (by with_unfolding_all rfl) z256 z256 G1 (by with_unfolding_all rfl) ?_; intro w5 G3 S3 R3))
      exact bodyPost_ret (results_n rfl G3 rfl) rfl ⟨by rw [HZ.out], HB.out.grown R3 HB.out.size (fun k e => by cases e; omega)⟩
    have hoL : o ≤ L := by omega
    have hLoz : ¬ (L : Int) < (o : Int) := by omega
    have hfun : wB ⟨2, o, tb⟩ p = fun v => wts o (endN o p) p L v := by funext v; unfold wB wN; rw [if_pos rfl, hL]
    rw [hfun]
    obtain ⟨E, hE⟩ : ∃ E, endN o p = E := ⟨_, rfl⟩
    rw [hE]
    obtain ⟨lo, hlo⟩ : ∃ lo : Nat, (L : Int) - (o : Int) = lo := ⟨L - o, by omega⟩
    have HLo : Hid (lo = L - o) := by unfold Hid; omega
    have hLlo : L - lo = o := by omega
    have hloL : lo ≤ L := by omega
    have HE : Hid (p.drop lo = E) := by rw [← hE]; unfold endN Hid; rw [hL, HLo.out]
    clear hfun hE hLo
    have HP := Lib.hid hp
    have HL := Lib.hid hL
    have hcut := (hp.below H3.out.bel).cut lo pc (by rw [hL]; exact hloL) (by rw [hL]; exact hc)
    rw [HE.out] at hcut
    have hEl : E.length = o := by rw [← HE.out, List.length_drop, hL]; exact hLlo
    have cv2 := conv_rb hcut o (pc - lo) hEl
    unfold maxLen at hm
    clear hp hL hcut hEl
    unfold byV byA
    go_enter Try.func44, Try.ntmps44
    go_upto_region 4 with fail
    rw [HW.out]
    have hself : Below (w.heap.size + 1 + 1) w3 w3 := Below.refl _ _
    have c0 := H3.out.c0 hself
    have c1 := H3.out.c1 hself
    go_cut [6] from 19 to 26 (fun s6 wx => s6 = .string (str E) ∧ w3 = wx)
    case first =>
      by_cases hpl : pc = lo
      · rw [if_pos hpl, show pc - lo = 0 by omega] at cv2
        subst hpl
        go_wp2_with fail
        go_meet
        exact ⟨rfl, rfl⟩
      · rw [if_neg hpl] at cv2
        go_wp2_with fail
        go_meet
        exact ⟨rfl, rfl⟩
    case rest =>
    obtain ⟨rfl, rfl⟩ := hcut
    have HB0 : Hid (Below w.heap.size w w3) := H3.out.bel
    have HB5 := Lib.hid hself
    have G1 : Hid (GN w3 (w.heap.size + 1) z256) := H3.out.g1
    have G2 : Hid (GN w3 (w.heap.size + 1 + 1) z256) := H3.out.g2
    clear cv2 hself hz
    go_wp2_with fail
    go_loopw [7] (fun v wr => ∃ i : Nat, v = .int .i64 i ∧ o ≤ i ∧ (i ≤ L ∨ i = o) ∧ Hid (Below (w.heap.size + 1 + 1) w3 wr) ∧ Hid (GN wr (w.heap.size + 1 + 1) (wts o E p i))) (fun v _ => L - (intOf v).toNat)
    case atStart =>
      have e : wts o E p o = z256 := by funext v; exact wts_low o _ p v o (Nat.le_refl _)
      exact ⟨o, rfl, Nat.le_refl _, .inr rfl, Below.refl _ _, by rw [e]; exact G2⟩
    case round =>
      clear G2 c0 c1
      obtain ⟨i, rfl, hoi, hiL, HB, HG⟩ := hrel
      have c1 := H3.out.c1 (HB5.out.trans (HB.out.mono (Nat.le_refl _)))
      by_cases hlt : i < L
      · have hltz : (i : Int) < (L : Int) := by omega
        obtain ⟨pb, po, rfl, hpb, -⟩ := HP.out (by rw [HL.out]; omega)
        have HPr : Hid (RB wr w.heap.size (some ⟨pb, po, none⟩) p) := (HP.out.below HB0.out).below (HB.out.mono (by omega))
        obtain ⟨io, hio⟩ : ∃ io : Nat, (i : Int) - (o : Int) = io := ⟨i - o, by omega⟩
        have hne : ¬ pc = io := by omega
        have hio2 : io ≤ i := by omega
        have hipc : i ≤ pc := by omega
        have hlen : i - io = o := by omega
        have HIO : Hid (io = i - o) := by unfold Hid; omega
        have hsub := HPr.out.sub io o pc (by rw [HL.out]; omega) (by rw [HL.out]; exact hc)
        rw [if_neg hne] at hsub
        have hcv := conv_rb hsub o (pc - io) (by rw [List.length_take, List.length_drop, HL.out]; omega)
        simp only [Option.map_some, Addr.add_lit] at hcv
        obtain ⟨x, hx⟩ : ∃ x, (p.drop io).take o = x := ⟨_, rfl⟩
        rw [hx] at hcv
        have HX := Lib.hid hx
        clear hx hsub
        by_cases hxe : x = E
        · subst hxe
          obtain ⟨X, hX⟩ : ∃ X, (p.getD i 0).toNat = X := ⟨_, rfl⟩
          have hX2 : X < 256 := by rw [← hX]; exact UInt8.toNat_lt _
          have cx := HPr.out.cell_ i (by rw [HL.out]; exact hlt)
          rw [hX] at cx
          have gx := HG.out.cell X hX2
          have fx := HG.out.frozen X
          obtain ⟨y, hy⟩ : ∃ y, wts o x p i X = y := ⟨_, rfl⟩
          rw [hy] at gx
          have hb := wts_nonneg o x p X i
          rw [hy] at hb
          have hi2 : (i : Int) ≤ 2000 := by omega
          have HS : Hid (putS (wts o x p i) X (y + 1) = wts o x p (i + 1)) := by rw [← hy]; exact wts_step o x p i X hoi (by rw [← HIO.out]; exact HX.out) hX
          clear hX hy
          go_wp2_with fail
          exact ⟨⟨i + 1, by go_num, by omega, by omega, HB.out.setCell (Nat.le_refl _) _, by rw [← HS.out]; exact HG.out.set X (y + 1)⟩, by simp [intOf]; omega⟩
        · have hs := str_ne hxe
          have hs3 : ((str x).toList == (str E).toList) = false := by rw [str_toList, str_toList]; simpa using hxe
          have HS : Hid (wts o E p i = wts o E p (i + 1)) := wts_skip o E p i (by rw [← HIO.out, HX.out]; exact hxe)
          go_wp2_with fail
          exact ⟨⟨i + 1, by go_num, by omega, by omega, HB, by rw [← HS.out]; exact HG⟩, by simp [intOf]; omega⟩
      · have hltz : ¬ (i : Int) < (L : Int) := by omega
        have hfin : Hid (aN (wts o E p i) = aN fun v => wts o E p L v) := by
          refine aN_congr (fun v _ => ?_)
          rcases hiL with h | h
          · rw [show i = L by omega]
          · rw [h, wts_low o E p v o (Nat.le_refl _), wts_low o E p v L (by omega)]
        have G1b : GN wr (w.heap.size + 1) z256 := G1.out.below HB.out (by omega)
        have G2b := HG.out
        have HB9 : Hid (Below w.heap.size w wr) := HB0.out.trans (HB.out.mono (by omega))
        go_wp2_with (first
          | (with_reducible refine wpList_load_n rfl (.tmp 5) rfl (w.heap.size + 1 + 1) (by with_unfolding_all rfl) (wts o E p i) G2b ?_)
          | (with_reducible refine wpList_store_n rfl (.tmp 4) (.tmp 53) rfl (w.heap.size + 1) (by with_unfolding_all rfl) z256 (wts o E p i) G1b (by with_unfolding_all rfl) ?_; intro w5 G3 S3 R3))
        exact bodyPost_ret (results_n rfl G3 rfl) rfl ⟨by rw [hfin.out], HB9.out.grown R3 HB9.out.size (fun k e => by cases e; omega)⟩
  · have h1 : ((k : Int) != 2) = true := by simp; omega
    have HZ : Hid (aN z256 = aN (wB ⟨k, o, tb⟩ p)) := aN_congr (fun v _ => by unfold wB; rw [if_neg (by exact hk)]; rfl)
    unfold byV byA
    go_enter Try.func44, Try.ntmps44
    go_upto_region 3 with fail
    rw [HW.out]
    have G1 := H3.out.g1
    have G2 := H3.out.g2
    have HB := Lib.hid H3.out.bel
    clear hz
    go_wp2_with (first
      | (with_reducible refine wpList_load_n rfl (.tmp 5) rfl (w.heap.size + 1 + 1) (by with_unfolding_all rfl) z256 G2 ?_)
      | (with_reducible refine wpList_store_n rfl (.tmp 4) (.tmp 18) rfl (w.heap.size + 1) (by with_unfolding_all rfl) z256 z256 G1 (by with_unfolding_all rfl) ?_; intro w5 G3 S3 R3))
    exact bodyPost_ret (results_n rfl G3 rfl) rfl ⟨by rw [HZ.out], HB.out.grown R3 HB.out.size (fun k e => by cases e; omega)⟩
end Go.Proofs.Ytomiligjcpmnjaa

/- XVe -/
namespace Go.Proofs.Ytomiligjcpmnjaa
set_option maxRecDepth 100000
open Go.RowKit Go.Maps
set_option linter.unusedVariables false
set_option linter.unusedSimpArgs false

def ldI (p : List UInt8) : Int := ((lst p).toNat : Int)
def ddI (b : Kd) (p : List UInt8) : Int := if b.k = 3 then ((drw b p).toNat : Int) else -1
theorem sc_wB (b : Kd) (p : List UInt8) (v : Nat) : sc b p v = 2 * wB b p v + (if 0 < p.length ∧ (lst p).toNat = v then 1 else 0) + (if b.k = 3 ∧ (drw b p).toNat = v then 2 else 0) := rfl
theorem lst_nil {p : List UInt8} (h : ¬ 0 < p.length) : lst p = 0 := by
  obtain rfl := List.eq_nil_of_length_eq_zero (by omega : p.length = 0); rfl
/-- what the reference asks: v and the lesser u -/
theorem ah_d1 {b : Kd} {p : List UInt8} {v u : Nat} (hu : u < v) (h : (v : Int) = ddI b p) : decide (sc b p u < sc b p v) = true := by
  unfold ddI at h
  by_cases k3 : b.k = 3
  · rw [if_pos k3] at h
    have hw : ∀ x, wB b p x = 0 := fun x => by unfold wB; rw [if_neg (by omega)]
    refine decide_eq_true ?_
    rw [sc_wB, sc_wB, hw, hw, if_neg (c := b.k = 3 ∧ (drw b p).toNat = u) (by omega), if_pos (c := b.k = 3 ∧ (drw b p).toNat = v) (by omega)]
    split <;> split <;> omega
  · rw [if_neg k3] at h; omega
theorem ah_d2 {b : Kd} {p : List UInt8} {v u : Nat} (hu : u < v) (h : (u : Int) = ddI b p) : decide (sc b p u < sc b p v) = false := by
  unfold ddI at h
  by_cases k3 : b.k = 3
  · rw [if_pos k3] at h
    have hw : ∀ x, wB b p x = 0 := fun x => by unfold wB; rw [if_neg (by omega)]
    refine decide_eq_false ?_
    rw [sc_wB, sc_wB, hw, hw, if_pos (c := b.k = 3 ∧ (drw b p).toNat = u) (by omega), if_neg (c := b.k = 3 ∧ (drw b p).toNat = v) (by omega)]
    split <;> split <;> omega
  · rw [if_neg k3] at h; omega
theorem ah_d0 {b : Kd} {p : List UInt8} {x : Nat} (h : ¬ (x : Int) = ddI b p) : sc b p x = 2 * wB b p x + (if 0 < p.length ∧ (lst p).toNat = x then 1 else 0) := by
  rw [sc_wB, if_neg (c := b.k = 3 ∧ (drw b p).toNat = x)]
  · omega
  · rintro ⟨k3, hx⟩; unfold ddI at h; rw [if_pos k3] at h; omega
theorem ah_more {b : Kd} {p : List UInt8} {v u : Nat} (h1 : ¬ (v : Int) = ddI b p) (h2 : ¬ (u : Int) = ddI b p) (h : wB b p u < wB b p v) : decide (sc b p u < sc b p v) = true := by
  refine decide_eq_true ?_
  rw [ah_d0 h1, ah_d0 h2]; split <;> split <;> omega
theorem ah_less {b : Kd} {p : List UInt8} {v u : Nat} (h1 : ¬ (v : Int) = ddI b p) (h2 : ¬ (u : Int) = ddI b p) (h : wB b p v < wB b p u) : decide (sc b p u < sc b p v) = false := by
  refine decide_eq_false ?_
  rw [ah_d0 h1, ah_d0 h2]; split <;> split <;> omega
theorem ah_last {b : Kd} {p : List UInt8} {v u : Nat} (hu : u < v) (h1 : ¬ (v : Int) = ddI b p) (h2 : ¬ (u : Int) = ddI b p) (h : wB b p v = wB b p u) (hl : (v : Int) = ldI p) : decide (sc b p u < sc b p v) = true := by
  refine decide_eq_true ?_
  unfold ldI at hl
  rw [ah_d0 h1, ah_d0 h2]
  by_cases hp : 0 < p.length
  · rw [if_neg (by omega), if_pos ⟨hp, by omega⟩]; omega
  · rw [lst_nil hp] at hl
    have e : (0 : UInt8).toNat = 0 := rfl
    omega
theorem ah_rest {b : Kd} {p : List UInt8} {v u : Nat} (h1 : ¬ (v : Int) = ddI b p) (h2 : ¬ (u : Int) = ddI b p) (h : wB b p v = wB b p u) (hl : ¬ (v : Int) = ldI p) : decide (sc b p u < sc b p v) = false := by
  refine decide_eq_false ?_
  unfold ldI at hl
  rw [ah_d0 h1, ah_d0 h2, if_neg (c := 0 < p.length ∧ (lst p).toNat = v) (fun x => hl (by omega))]
  split <;> omega
set_option maxHeartbeats 2000000 in
theorem ahead_any (b : Kd) (p : List UInt8) (v u : Nat) (w : World) (hv : v < 256) (hu : u < v) :
    Calls Try.prog 45 #[.int .i64 v, .int .i64 u, .agg (aN (wB b p)), .int .i64 (ldI p), .int .i64 (ddI b p)] w fun e w' => e = .returned (.bool (decide (sc b p u < sc b p v))) ∧ Below w.heap.size w w' := by
  obtain ⟨r, hr⟩ : ∃ r, decide (sc b p u < sc b p v) = r := ⟨_, rfl⟩
  obtain ⟨ld, hld⟩ : ∃ r, ldI p = r := ⟨_, rfl⟩
  obtain ⟨dd, hdd⟩ : ∃ r, ddI b p = r := ⟨_, rfl⟩
  have g := GN.new w (wB b p)
  obtain ⟨w1, hw1⟩ : ∃ w1, w.alloc (.cells (aN (wB b p)) 70) = w1 := ⟨_, rfl⟩
  rw [hw1] at g
  have hu2 : u < 256 := by omega
  have gv := g.cell v hv
  have gu := g.cell u hu2
  have B1 : Hid (Below w.heap.size w w1) := by rw [← hw1]; exact (Below.refl _ _).alloc (Nat.le_refl _) _
  obtain ⟨x, hx⟩ : ∃ x, wB b p v = x := ⟨_, rfl⟩
  obtain ⟨y, hy⟩ : ∃ y, wB b p u = y := ⟨_, rfl⟩
  rw [hx] at gv
  rw [hy] at gu
  have hxr := wB_rng b p v
  rw [hr, hld, hdd]
  have HW := Lib.hid hw1
  by_cases c1 : (v : Int) = dd
  · obtain rfl : r = true := by rw [← hr]; exact ah_d1 hu (c1.trans hdd.symm)
    have z1 : ((v : Int) == dd) = true := by simp [c1]
    have z2 : ((u : Int) == dd) = false := by simp; omega
    clear hr hld hdd hx hy hxr g hw1
    go_enter Try.func45, Try.ntmps45
    go_upto_region 1 with fail
    rw [HW.out]
    clear c1
    go_wp2_with fail
    go_ret
    exact ⟨by simp [z1], B1.out⟩
  have z1 : ((v : Int) == dd) = false := by simpa using c1
  by_cases c2 : (u : Int) = dd
  · obtain rfl : r = false := by rw [← hr]; exact ah_d2 hu (c2.trans hdd.symm)
    have z2 : ((u : Int) == dd) = true := by simp [c2]
    clear hr hld hdd hx hy hxr g hw1 c2 c1
    go_enter Try.func45, Try.ntmps45
    go_upto_region 1 with fail
    rw [HW.out]
    go_wp2_with fail
    go_ret
    exact ⟨by simp [z1], B1.out⟩
  have z2 : ((u : Int) == dd) = false := by simpa using c2
  have d1 : ¬ (v : Int) = ddI b p := fun h => c1 (h.trans hdd)
  have d2 : ¬ (u : Int) = ddI b p := fun h => c2 (h.trans hdd)
  by_cases c3 : x = y
  · have z3 : (x == y) = true := by simp [c3]
    by_cases c4 : (v : Int) = ld
    · obtain rfl : r = true := by rw [← hr]; exact ah_last hu d1 d2 (by rw [hx, hy, c3]) (c4.trans hld.symm)
      have z4 : ((v : Int) == ld) = true := by simp [c4]
      subst c3
      clear hr hld hdd hx hy hxr g hw1 c1 c2 d1 d2 c4
      go_enter Try.func45, Try.ntmps45
      go_upto_region 1 with fail
      rw [HW.out]
      go_wp2_with fail
      go_big_region
      all_goals go_wp2_with fail
      all_goals go_ret
      all_goals exact ⟨by simp [z4], B1.out.drew⟩
    · obtain rfl : r = false := by rw [← hr]; exact ah_rest d1 d2 (by rw [hx, hy, c3]) (fun h => c4 (h.trans hld))
      have z4 : ((v : Int) == ld) = false := by simpa using c4
      subst c3
      clear hr hld hdd hx hy hxr g hw1 c1 c2 d1 d2 c4
      go_enter Try.func45, Try.ntmps45
      go_upto_region 1 with fail
      rw [HW.out]
      go_wp2_with fail
      go_big_region
      all_goals go_wp2_with fail
      all_goals go_ret
      all_goals exact ⟨by simp [z4], B1.out.drew⟩
  · have z3 : (x == y) = false := by simpa using c3
    have z3b : (x != y) = true := by simpa using c3
    by_cases c4 : y < x
    · obtain rfl : r = true := by rw [← hr]; exact ah_more d1 d2 (by rw [hx, hy]; exact c4)
      clear hr hld hdd hx hy hxr g hw1 c1 c2 d1 d2 c3
      go_enter Try.func45, Try.ntmps45
      go_upto_region 1 with fail
      rw [HW.out]
      go_wp2_with fail
      go_big_region
      all_goals go_wp2_with fail
      all_goals go_big_region
      all_goals go_wp2_with fail
      all_goals go_ret
      all_goals exact ⟨by simp [c4], B1.out.drew.drew⟩
    · obtain rfl : r = false := by rw [← hr]; exact ah_less d1 d2 (by rw [hx, hy]; omega)
      clear hr hld hdd hx hy hxr g hw1 c1 c2 d1 d2 c3
      go_enter Try.func45, Try.ntmps45
      go_upto_region 1 with fail
      rw [HW.out]
      go_wp2_with fail
      go_big_region
      all_goals go_wp2_with fail
      all_goals go_big_region
      all_goals go_wp2_with fail
      all_goals go_ret
      all_goals exact ⟨by simp [c4], B1.out.drew.drew⟩
end Go.Proofs.Ytomiligjcpmnjaa

/- XVf -/
namespace Go.Proofs.Ytomiligjcpmnjaa
set_option maxRecDepth 100000
open Go.RowKit Go.Maps
set_option linter.unusedVariables false
set_option linter.unusedSimpArgs false

/-- the best of those below v that are not taken -/
def Bst (S : Nat → Int) (t : Nat → Bool) (bI : Int) (v : Nat) : Prop :=
  (bI = -1 ∧ ∀ x, x < v → t x = true) ∨ (∃ n : Nat, bI = n ∧ n < v ∧ t n = false ∧ ∀ x, x < v → t x = false → S x ≤ S n ∧ (x < n → S x < S n))
theorem bst_zero (S : Nat → Int) (t : Nat → Bool) : Bst S t (-1) 0 := .inl ⟨rfl, fun x h => by omega⟩
theorem bst_skip {S : Nat → Int} {t : Nat → Bool} {bI : Int} {v : Nat} (h : Bst S t bI v) (ht : t v = true) : Bst S t bI (v + 1) := by
  rcases h with ⟨h1, h2⟩ | ⟨n, h1, h2, h3, h4⟩
  · refine .inl ⟨h1, fun x hx => ?_⟩
    by_cases e : x = v
    · rw [e]; exact ht
    · exact h2 x (by omega)
  · refine .inr ⟨n, h1, by omega, h3, fun x hx hf => ?_⟩
    by_cases e : x = v
    · rw [e, ht] at hf; cases hf
    · exact h4 x (by omega) hf
theorem bst_first {S : Nat → Int} {t : Nat → Bool} {v : Nat} (h : Bst S t (-1) v) (ht : t v = false) : Bst S t v (v + 1) := by
  rcases h with ⟨h1, h2⟩ | ⟨n, h1, h2, h3, h4⟩
  · refine .inr ⟨v, rfl, by omega, ht, fun x hx hf => ?_⟩
    by_cases e : x = v
    · rw [e]; omega
    · rw [h2 x (by omega)] at hf; cases hf
  · omega
theorem bst_next {S : Nat → Int} {t : Nat → Bool} {n v : Nat} (h : Bst S t n v) (ht : t v = false) : Bst S t (if decide (S n < S v) = true then (v : Int) else (n : Int)) (v + 1) := by
  rcases h with ⟨h1, h2⟩ | ⟨m, h1, h2, h3, h4⟩
  · omega
  · obtain rfl : n = m := by omega
    by_cases c : S n < S v
    · rw [if_pos (decide_eq_true c)]
      refine .inr ⟨v, rfl, by omega, ht, fun x hx hf => ?_⟩
      by_cases e : x = v
      · rw [e]; omega
      · have := h4 x (by omega) hf; omega
    · rw [if_neg (by simpa using c)]
      refine .inr ⟨n, rfl, by omega, h3, fun x hx hf => ?_⟩
      by_cases e : x = v
      · rw [e]; omega
      · exact h4 x (by omega) hf
theorem bst_end {S : Nat → Int} {j : Nat} {bI : Int} (hj : j < 256) (h : Bst S (sn (rk S) j) bI 256) : bI = (((rk S).getD j 0).toNat : Int) := by
  have hy := sn_fresh S j hj
  have hy2 : ((rk S).getD j 0).toNat < 256 := UInt8.toNat_lt _
  rcases h with ⟨h1, h2⟩ | ⟨n, h1, h2, h3, h4⟩
  · rw [h2 _ hy2] at hy; cases hy
  · have h5 := h4 _ hy2 hy
    have hx := rk_mem S (UInt8.ofNat n)
    have en : (UInt8.ofNat n).toNat = n := by rw [UInt8.toNat_ofNat']; omega
    obtain ⟨i, hi, e⟩ := List.getElem_of_mem hx
    have hi2 : i < 256 := by rw [rk_len] at hi; exact hi
    have e2 : (rk S).getD i 0 = UInt8.ofNat n := by rw [List.getD, List.getElem?_eq_getElem hi]; exact e
    rcases Nat.lt_trichotomy i j with c | c | c
    · have : sn (rk S) j n = true := (sn_mem _ _ _ (by rw [rk_len]; omega)).2 ⟨i, c, by rw [e2, en]⟩
      rw [this] at h3; cases h3
    · rw [← c, e2, en]; exact h1
    · have := rk_get_ah S j i c hi2
      rw [e2] at this
      unfold ah at this
      rw [en] at this
      omega
def slLen : Value → Nat
  | .slice _ n _ => n
  | _ => 0
theorem wpList_load_n_on {w : World} {ops : Array Oper} {rest : List Oper} {op : Oper} {a : Act} {Q : Exit → Act → World → Prop} (hw : Region.wanted op (yielded ops a.tmps) = true) (x : Operand) (ho : op.op = .load 70 x)
    (b : Nat) (hx : a.eval x = .pointer (some ⟨b, 0, none⟩)) (S : Nat → Int) (h : GN w b S)
    (hk : wpList Try.prog ops Q rest (a.put op.dst (.agg (aN S))) w) : wpList Try.prog ops Q (op :: rest) a w := by
  refine wpList_step fun K hK => ?_
  rw [if_pos hw]
  have hrun := run_loadVar_mid (P := Try.prog) w b 0 70 (aL S) _ h.range Try.underlying70 rfl (by rw [arr_size, aL_len])
  unfold Oper.wp execOp
  simp only [ho, hx, Instr.loadAt, Instr.sureAddr, Sem.run_bind, Sem.run_pure, Result.andThen_ok, hrun]
  exact hK _ _ hk
theorem wp_load_n {w : World} {op : Oper} {a : Act} {K : Act → World → Prop} {Q : Exit → Act → World → Prop} (x : Operand) (ho : op.op = .load 70 x)
    (b : Nat) (hx : a.eval x = .pointer (some ⟨b, 0, none⟩)) (S : Nat → Int) (h : GN w b S) (hk : K (a.put op.dst (.agg (aN S))) w) : op.wp Try.prog a w K Q := by
  have hrun := run_loadVar_mid (P := Try.prog) w b 0 70 (aL S) _ h.range Try.underlying70 rfl (by rw [arr_size, aL_len])
  unfold Oper.wp execOp
  simp only [ho, hx, Instr.loadAt, Instr.sureAddr, Sem.run_bind, Sem.run_pure, Result.andThen_ok, hrun]
  exact hk
set_option maxHeartbeats 1000000 in
theorem rrank_none (z o : Int) (A : Option Addr) (n c : Nat) (P : Option Addr) (L pc : Nat) (k : Int) (w : World) (hn : n ≤ maxLen) (r : Bool) (hmay : mayB z o n = r) (h : r = false ∨ k < 1) :
    Calls Try.prog 33 #[.agg #[.int .i64 z, .int .i64 o, .slice A n c], .slice P L pc, .int .i64 k] w fun e w' => e = .returned (.slice none 0 0) ∧ Below w.heap.size w w' := by
  obtain ⟨w2, hw2⟩ : ∃ w2, w.alloc (.cells #[.int .i64 z, .int .i64 o, .slice A n c] 25) = w2 := ⟨_, rfl⟩
  have b2 : Below w.heap.size w w2 := by rw [← hw2]; exact (Below.refl _ _).alloc (Nat.le_refl _) _
  have HM := Lib.hid (mayBy_at z o A n c w2 hn r hmay)
  rw [← hw2] at HM
  have HW := Lib.hid hw2
  have B2 := Lib.hid b2
  clear hw2 b2 hmay
  cases r with
  | false =>
    go_enter Try.func33, Try.ntmps33
    go_wp2_with fail
    (with_reducible refine HM.out.mono ?_)
    rintro e w5 ⟨rfl, hb5⟩
    rw [HW.out] at hb5
    have HB5 := Lib.hid (B2.out.trans (hb5.mono B2.out.size))
    clear hb5
    go_wp2_with fail
    go_ret
    exact ⟨rfl, HB5.out⟩
  | true =>
    have hk : k < 1 := by rcases h with h | h; cases h; exact h
    go_enter Try.func33, Try.ntmps33
    go_wp2_with fail
    (with_reducible refine HM.out.mono ?_)
    rintro e w5 ⟨rfl, hb5⟩
    rw [HW.out] at hb5
    have HB5 := Lib.hid (B2.out.trans (hb5.mono B2.out.size))
    clear hb5
    go_wp2_with fail
    go_ret
    exact ⟨rfl, HB5.out⟩
set_option maxHeartbeats 4000000 in
theorem rrank_any (b : Kd) (z o : Int) (hz : z = (b.k : Int)) (ho : o = (b.o : Int)) (A : Option Addr) (n c : Nat) (P : Option Addr) (p : List UInt8) (L pc : Nat) (k : Int) (w : World) (hk : KM w b A n c) (hp : PM w P p L pc) (hl : L ≤ 2000) (hk1 : 1 ≤ k) (m : Nat) (hm : min k 256 = (m : Int)) :
    Calls Try.prog 33 #[.agg #[.int .i64 z, .int .i64 o, .slice A n c], .slice P L pc, .int .i64 k] w fun e w' => (∃ v, e = .returned v ∧ OB w' w.heap.size v ((rk (sc b p)).take m)) ∧ Below w.heap.size w w' := by
  have hzn := zeroN
  have hzb := zeroB
  obtain ⟨w2, hw2⟩ : ∃ w2, w.alloc (.cells #[.int .i64 z, .int .i64 o, .slice A n c] 25) = w2 := ⟨_, rfl⟩
  have b2 : Below w.heap.size w w2 := by rw [← hw2]; exact (Below.refl _ _).alloc (Nat.le_refl _) _
  have s2 : w2.heap.size = w.heap.size + 1 := by rw [← hw2]; simp
  have hbox : w2.heap[w.heap.size]? = some (.cells #[.int .i64 z, .int .i64 o, .slice A n c] 25 (0, 0)) := by
    rw [← hw2]; exact heap_alloc_last w _
  have hmay : mayB z o n = true := by rw [hz, ho]; exact hk.may
  have HM := Lib.hid (mayBy_at z o A n c w2 hk.nm true hmay)
  rw [← hw2] at HM
  have HW := Lib.hid hw2
  have B2 := Lib.hid b2; have S2 := Lib.hid s2; have BX := Lib.hid (box3 hbox)
  have HK := Lib.hid (hk.then_ b2)
  have HP := Lib.hid (hp.then_ b2)
  have HZ := Lib.hid hz; have HO := Lib.hid ho
  have HMm := Lib.hid hm
  obtain ⟨S, hS⟩ : ∃ S, sc b p = S := ⟨_, rfl⟩
  rw [hS]
  have HSS := Lib.hid hS
  have hk1n : ¬ k < 1 := by omega
  clear hw2 b2 s2 hbox hmay hk hp hz ho hm hS
  go_enter Try.func33, Try.ntmps33
  go_wp2_with fail
  (with_reducible refine HM.out.mono ?_)
  rintro e w3 ⟨rfl, hb3⟩
  rw [HW.out] at hb3
  have HB3 := Lib.hid (B2.out.trans (hb3.mono B2.out.size))
  have X3 : Hid (Below (w.heap.size + 1) w2 w3) := hb3.mono (by rw [S2.out]; exact Nat.le_refl _)
  have HK3 := Lib.hid (HK.out.then_ hb3)
  have HP3 := Lib.hid (HP.out.then_ hb3)
  have c30 := (BX.out w3 X3.out).1
  have c31 := (BX.out w3 X3.out).2.1
  have c32 := (BX.out w3 X3.out).2.2
  have hwt := refw_any b A n c P p L pc w3 HK3.out.ok HP3.out.len HP3.out.nc HP3.out.cm HP3.out.t hl
  unfold byV byA at hwt
  rw [← HZ.out, ← HO.out] at hwt
  have HE := Lib.hid hwt
  clear hb3 HM HK HP hwt HW
  go_wp2_with fail
  (with_reducible refine HE.out.mono ?_)
  rintro e w5 ⟨rfl, hb5⟩
  have HB5 := Lib.hid (HB3.out.trans (hb5.mono HB3.out.size))
  have X5 : Hid (Below (w.heap.size + 1) w2 w5) := X3.out.trans (hb5.mono (by have := X3.out.size; have := S2.out; omega))
  have HK5 := Lib.hid (HK3.out.then_ hb5)
  have HP5 := Lib.hid (HP3.out.then_ hb5)
  have g6 : GN (w5.alloc (.cells (aN z256) 70)) w5.heap.size z256 := GN.new w5 z256
  clear hb5 HE c30 c31 c32 HB3 X3 HK3 HP3
  go_upto_if 26 with (with_reducible refine wpList_store_n rfl (.tmp 7) (.tmp 23) rfl w5.heap.size (by with_unfolding_all rfl) z256 (wB b p) g6 (by with_unfolding_all rfl) ?_; intro w7 G7 S7 R7)
  obtain ⟨s, hs⟩ : ∃ s, w5.heap.size = s := ⟨_, rfl⟩
  have s7 : w7.heap.size = s + 1 := by rw [S7, ← hs]; simp
  have hsw : w.heap.size + 1 ≤ s := by rw [← hs]; have := X5.out.size; have := S2.out; omega
  have b57 : Below s w5 w7 := by
    rw [← hs]; exact ((Below.refl _ _).alloc (Nat.le_refl _) (.cells (aN z256) 70)).grown R7 (by simp) (fun k e => by cases e; exact Nat.le_refl _)
  have HB7 := Lib.hid (HB5.out.trans (b57.mono (by omega)))
  have X7 : Hid (Below (w.heap.size + 1) w2 w7) := X5.out.trans (b57.mono hsw)
  have b57' : Below w5.heap.size w5 w7 := by rw [hs]; exact b57
  have HK7 := Lib.hid (HK5.out.then_ b57')
  have HP7 := Lib.hid (HP5.out.then_ b57')
  rw [hs] at G7 ⊢
  have HG7 := Lib.hid G7
  clear hs S7 R7 b57 b57' g6 G7 HB5 X5 HK5 HP5 hzn
  obtain ⟨ld, hld⟩ : ∃ r, ldI p = r := ⟨_, rfl⟩
  have HLD := Lib.hid hld
  obtain ⟨dd, hdd⟩ : ∃ r, ddI b p = r := ⟨_, rfl⟩
  have HDD := Lib.hid hdd
  clear hld hdd
  go_cut [8] from 27 to 33 (fun s8 wx => s8 = .int .i64 ld ∧ w7 = wx)
  case first =>
    by_cases hL0 : L = 0
    · subst hL0
      have hl0 : ld = 0 := by
        rw [← HLD.out]; unfold ldI; rw [lst_nil (by rw [HP7.out.len]; omega)]; rfl
      subst hl0
      go_wp2_with fail
      go_meet
      exact ⟨rfl, rfl⟩
    · have hLz : (0 : Int) < (L : Int) := by omega
      have hLn : 0 < L := by omega
      obtain ⟨l1, hl1⟩ : ∃ l1 : Nat, (L : Int) - 1 = l1 := ⟨L - 1, by omega⟩
      obtain ⟨pb, po, rfl, hpb, -⟩ := HP7.out.t (by rw [HP7.out.len]; omega)
      have cx := HP7.out.t.cell_ l1 (by rw [HP7.out.len]; omega)
      have hl2 : p.getD l1 0 = lst p := by unfold lst; rw [HP7.out.len, show L - 1 = l1 by omega]
      have hl3 : ((lst p).toNat : Int) = ld := HLD.out
      rw [hl2, hl3] at cx
      have hl1n : l1 < L := by omega
      have hldr : 0 ≤ ld ∧ ld ≤ 255 := by rw [← hl3]; have := (lst p).toNat_lt; omega
      clear hl2 hl3
      go_wp2_with fail
      go_meet
      exact ⟨by first | rfl | (congr 1; omega), rfl⟩
  case rest =>
  obtain ⟨rfl, rfl⟩ := hcut
  have c70 := (BX.out w7 X7.out).1
  have c72 := (BX.out w7 X7.out).2.2
  go_upto_if 36 with fail
  go_cut [9] from 37 to 47 (fun s9 wx => s9 = .int .i64 dd ∧ Hid (Below w7.heap.size w7 wx))
  case first =>
    by_cases h3 : b.k = 3
    · have hkz : (z == 3) = true := by rw [HZ.out, h3]; rfl
      have hkz2 : z = 3 := by rw [HZ.out, h3]; rfl
      have htb : 1 ≤ n ∧ n ≤ 1000 := by have := HK7.out.ok; unfold Kd.ok at this; have h0 := HK7.out.len; omega
      obtain ⟨ta, tq, rfl, hta, -⟩ := HK7.out.t (by rw [HK7.out.len]; omega)
      obtain ⟨r, hr⟩ : ∃ r : Nat, (L : Int).tmod (n : Int) = r := ⟨L % n, by rw [Int.tmod_eq_emod_of_nonneg (by omega)]; rfl⟩
      have hrn : r = L % n := by rw [Int.tmod_eq_emod_of_nonneg (by omega)] at hr; exact_mod_cast hr.symm
      have hrlt : r < n := by rw [hrn]; exact Nat.mod_lt _ (by omega)
      have cx := HK7.out.t.cell_ r (by rw [HK7.out.len]; exact hrlt)
      have hl2 : b.tb.getD r 0 = drw b p := by unfold drw; rw [HK7.out.len, HP7.out.len, hrn]
      have hl3 : ((drw b p).toNat : Int) = dd := by rw [← HDD.out]; unfold ddI; rw [if_pos h3]
      rw [hl2, hl3] at cx
      have hddr : 0 ≤ dd ∧ dd ≤ 255 := by rw [← hl3]; have := (drw b p).toNat_lt; omega
      have hn0 : ((n : Int) == 0) = false := by simp; omega
      have hn1 : ¬ (n : Int) = 0 := by omega
      have hlp : (L : Int) ≤ 2000 := by omega
      have HBd : Hid (Below w7.heap.size w7 w7.drew) := (Below.refl _ _).drew
      clear hl2 hl3 hrn h3
      go_wp2_with fail
      go_big_region
      all_goals go_wp2_with fail
      all_goals go_meet
      all_goals exact ⟨by first | rfl | (congr 1; omega), HBd⟩
    · have hkz : (z == 3) = false := by rw [HZ.out]; simp; omega
      have hd1 : dd = -1 := by rw [← HDD.out]; unfold ddI; rw [if_neg h3]
      subst hd1
      have HBd : Hid (Below w7.heap.size w7 w7) := Below.refl _ _
      clear h3
      go_wp2_with fail
      go_meet
      exact ⟨rfl, HBd⟩
  case rest =>
  obtain ⟨rfl, HB78⟩ := hcut
  obtain ⟨w8, hw8⟩ : ∃ w8, wc = w8 := ⟨_, rfl⟩
  rw [hw8] at HB78 ⊢
  clear hw8 c70 c72
  have HG8 := Lib.hid (HG7.out.then_ HB78.out)
  have HB8 := Lib.hid (HB7.out.trans (HB78.out.mono (by omega)))
  have hs8 : s < w8.heap.size := HG8.out.lt
  clear HB7 HG7 X7 HK7 HP7 HB78 s7
  go_wp2_with fail
  obtain ⟨q, hq⟩ : ∃ q, w8.heap.size = q := ⟨_, rfl⟩
  obtain ⟨w9, hw9⟩ : ∃ w9, w8.alloc (.cells (bN f256) 83) = w9 := ⟨_, rfl⟩
  have G9 : Hid (GB w9 q (sn (rk S) 0)) := by rw [sn_zero, ← hq, ← hw9]; exact GB.new w8 f256
  have HG9 : Hid (GN w9 s (wB b p)) := by rw [← hw9]; exact HG8.out.alloc _
  have HB9 : Hid (Below w.heap.size w w9) := by rw [← hw9]; exact HB8.out.alloc HB8.out.size _
  have hsq : s < q := by rw [← hq]; exact hs8
  have hs9 : w9.heap.size = q + 1 := by rw [← hw9, ← hq]; simp
  have hwq : w.heap.size ≤ q := by rw [← hq]; exact HB8.out.size
  rw [hw9, hq]
  have O9 : Hid (OB w9 (q + 1) (.slice none 0 0) ((rk S).take 0)) := by rw [List.take_zero]; exact OB.nil _ _
  have S9 := Lib.hid hs9
  clear hq hw9 HG8 HB8 hs8 hzb hs9
  go_loopw [11] (fun s11 wr => ∃ (j : Nat) (v : Value), s11 = v ∧ j ≤ m ∧ Hid (OB wr (q + 1) v ((rk S).take j)) ∧ Hid (GB wr q (sn (rk S) j)) ∧ Hid (Below q w9 wr)) (fun v _ => 256 - slLen v)
  case atStart => exact ⟨0, _, rfl, Nat.zero_le _, O9, G9, Below.refl _ _⟩
  case round =>
    clear O9 G9
    obtain ⟨j, v, rfl, hj, HO1, HGB, HBq⟩ := hrel
    have hm256 : m ≤ 256 := by have := HMm.out; omega
    obtain ⟨A9, c9, rfl, hc9, hm9, hr9⟩ := HO1.out.form_n j (by rw [List.length_take, rk_len]; omega)
    obtain ⟨w10, hw10⟩ : ∃ w10, wr = w10 := ⟨_, rfl⟩
    rw [hw10] at HO1 HGB HBq ⊢
    clear hr9 hw10
    have hz10 : Hid (q + 1 ≤ w10.heap.size) := by unfold Hid; rw [← S9.out]; exact HBq.out.size
    by_cases hlt : j < m
    · have hjk : (j : Int) < k := by have := HMm.out; omega
      have hj256 : (j : Int) < 256 := by omega
      have hj2 : j < 256 := by omega
      have HG10 : Hid (GN w10 s (wB b p)) := HG9.out.below HBq.out hsq
      go_wp2_with fail
      go_loopw [12, 13] (fun s12 s13 wr => ∃ (bI : Int) (x : Nat), s12 = .int .i64 bI ∧ s13 = .int .i64 x ∧ x ≤ 256 ∧ Hid (Bst S (sn (rk S) j) bI x) ∧ Hid (Below w10.heap.size w10 wr)) (fun _ v _ => 256 - (intOf v).toNat)
      case atStart => exact ⟨-1, 0, rfl, rfl, by omega, bst_zero _ _, Below.refl _ _⟩
      case round =>
        obtain ⟨bI, x, rfl, rfl, hx, HBS, HB10⟩ := hrel
        have GBr := HGB.out.then_ HB10.out
        have GNr := HG10.out.then_ HB10.out
        by_cases hxl : x < 256
        · have hxz : (x : Int) < 256 := by omega
          have ct := GBr.cell x hxl
          obtain ⟨tv, htv⟩ : ∃ tv, sn (rk S) j x = tv := ⟨_, rfl⟩
          rw [htv] at ct
          cases tv with
          | true =>
            have HB2 : Hid (Bst S (sn (rk S) j) bI (x + 1)) := bst_skip HBS.out htv
            clear HBS htv GBr GNr
            go_wp2_with fail
            exact ⟨⟨bI, x + 1, rfl, by go_num, by omega, HB2, HB10⟩, by simp [intOf]; omega⟩
          | false =>
            by_cases hb0 : bI < 0
            · obtain rfl : bI = -1 := by rcases HBS.out with ⟨h1, _⟩ | ⟨n, h1, _⟩ <;> omega
              have HB2 : Hid (Bst S (sn (rk S) j) x (x + 1)) := bst_first HBS.out htv
              clear HBS htv GBr GNr
              go_wp2_with fail
              exact ⟨⟨x, x + 1, rfl, by go_num, by omega, HB2, HB10⟩, by simp [intOf]; omega⟩
            · obtain ⟨y, rfl⟩ : ∃ y : Nat, bI = y := ⟨bI.toNat, by omega⟩
              have hyx : y < x := by rcases HBS.out with ⟨h1, _⟩ | ⟨n, h1, h2, _⟩ <;> omega
              have hnx : Hid (Bst S (sn (rk S) j) (if decide (S y < S x) = true then (x : Int) else (y : Int)) (x + 1)) := bst_next HBS.out htv
              have hah := ahead_any b p x y wr hxl hyx
              rw [HSS.out, HLD.out, HDD.out] at hah
              obtain ⟨r, hr⟩ : ∃ r, decide (S y < S x) = r := ⟨_, rfl⟩
              rw [hr] at hah hnx
              have HA := Lib.hid hah
              clear HBS htv GBr hah hr hyx
              cases r with
              | true =>
                go_wp2_with (first
                  | (refine wpList_load_n_on (by rfl) (.tmp 7) rfl s (by with_unfolding_all rfl) (wB b p) GNr ?_)
                  | (refine wp_load_n (.tmp 7) rfl s (by with_unfolding_all rfl) (wB b p) GNr ?_)
                  | (go_at_call 45; with_reducible refine HA.out.mono ?_; rintro e w12 ⟨rfl, hb12⟩; have HB12 := Lib.hid (HB10.out.trans (hb12.mono HB10.out.size)); clear hb12))
                exact ⟨⟨x, x + 1, rfl, by go_num, by omega, hnx, HB12⟩, by simp [intOf]; omega⟩
              | false =>
                go_wp2_with (first
                  | (refine wpList_load_n_on (by rfl) (.tmp 7) rfl s (by with_unfolding_all rfl) (wB b p) GNr ?_)
                  | (refine wp_load_n (.tmp 7) rfl s (by with_unfolding_all rfl) (wB b p) GNr ?_)
                  | (go_at_call 45; with_reducible refine HA.out.mono ?_; rintro e w12 ⟨rfl, hb12⟩; have HB12 := Lib.hid (HB10.out.trans (hb12.mono HB10.out.size)); clear hb12))
                exact ⟨⟨y, x + 1, rfl, by go_num, by omega, hnx, HB12⟩, by simp [intOf]; omega⟩
        · obtain rfl : x = 256 := by omega
          have hbe := bst_end hj2 HBS.out
          obtain ⟨V, hV⟩ : ∃ V, ((rk S).getD j 0).toNat = V := ⟨_, rfl⟩
          have hV2 : V < 256 := by rw [← hV]; exact UInt8.toNat_lt _
          rw [hV] at hbe
          subst hbe
          have ct := GBr.cell V hV2
          have ft := GBr.frozen V
          obtain ⟨tv, htv⟩ : ∃ tv, sn (rk S) j V = tv := ⟨_, rfl⟩
          rw [htv] at ct
          obtain ⟨w11, hw11⟩ : ∃ w11, wr.setCell ⟨q, V, none⟩ (.bool true) = w11 := ⟨_, rfl⟩
          have G11 : Hid (GB w11 q (sn (rk S) (j + 1))) := by
            have := GBr.set V true
            rw [← hV, sn_step _ _ (by rw [rk_len]; exact hj2)] at this
            rw [hV, hw11] at this
            exact this
          have hzr : q + 1 ≤ wr.heap.size := by have := HB10.out.size; have := hz10.out; omega
          have O11 : Hid (OB w11 (q + 1) (.slice A9 j c9) ((rk S).take j)) := by
            rw [← hw11]
            refine World.ownsRow.kept (HO1.out.below HB10.out (Nat.le_refl _)) (grown_set wr q V (.bool true)) ?_
            right
            intro e
            have := HO1.out.ge q e
            omega
          have hs11 : w11.heap.size = wr.heap.size := by rw [← hw11]; simp [World.setCell]
          have B11 : Hid (Below q w9 w11) := by
            rw [← hw11]; exact (HBq.out.trans (HB10.out.mono (by have := hz10.out; omega))).setCell (Nat.le_refl _) _
          have HVn : Hid ((rk S).getD j 0 = (rk S).getD j 0) := rfl
          have R13 : Hid (RB (w11.alloc (.cells #[.int .u8 (V : Int)] 5)) (w11.heap.size + 1) (some ⟨w11.heap.size, 0, none⟩) [(rk S).getD j 0]) := by
            have h := rb_cells w11 [(rk S).getD j 0] 5 (w11.heap.size + 1) (by omega)
            simp only [List.map_cons, List.map_nil, vb, hV] at h
            exact h
          have O13 : Hid (OB (w11.alloc (.cells #[.int .u8 (V : Int)] 5)) (q + 1) (.slice A9 j c9) ((rk S).take j)) := O11.out.below ((Below.refl _ _).alloc (Nat.le_refl _) _) (Nat.le_refl _)
          have hl13 : Hid (((rk S).take j).length + [(rk S).getD j 0].length ≤ 140737488355328) := by unfold Hid; rw [List.length_take, rk_len]; simp; omega
          have hs13 : Hid (q + 1 ≤ (w11.alloc (.cells #[.int .u8 (V : Int)] 5)).heap.size) := by unfold Hid; simp; omega
          have HW11 := Lib.hid hw11
          have HVV := Lib.hid hV
          clear HBS hV htv GBr GNr hw11 HB10 hs11
          go_upto_region 20 with fail
          rw [HW11.out]
          clear ct ft
          go_wp2_with (at_builtin; refine wpList_append_bytes rfl (.tmp 80) (.tmp 83) rfl (q + 1) _ ((rk S).take j) [(rk S).getD j 0] rfl O13.out (w11.heap.size + 1) (some ⟨w11.heap.size, 0, none⟩) 1 rfl R13.out hl13.out hs13.out ?_; intro v14 w14 O14 G14 E14)
          have htk : (rk S).take j ++ [(rk S).getD j 0] = (rk S).take (j + 1) := by
            rw [List.take_add_one, List.getD, List.getElem?_eq_getElem (by rw [rk_len]; exact hj2)]; rfl
          rw [htk] at O14
          obtain ⟨A14, c14, rfl, -, -, -⟩ := O14.form_n (j + 1) (by rw [List.length_take, rk_len]; omega)
          refine ⟨⟨j + 1, _, rfl, by omega, O14, ?_, ?_⟩, by simp [slLen]; omega⟩
          · refine (G11.out.alloc _).below (B := q + 1) ⟨G14.os, G14.tape, G14.output, G14.size, fun i hi => G14.block i (by have := hs13.out; omega) (fun e => ?_)⟩ (Nat.lt_succ_self _)
            have := O13.out.ge i e.symm
            omega
          · exact (B11.out.alloc (by have := B11.out.size; have := S9.out; omega) _).grown G14 (by have := hs13.out; omega) (fun k e => by have := O13.out.ge k e; omega)
    · obtain rfl : j = m := by omega
      have HBf := Lib.hid (HB9.out.trans (HBq.out.mono hwq))
      have HOf : Hid (OB w10 w.heap.size (.slice A9 j c9) ((rk S).take j)) := HO1.out.less (by omega)
      by_cases hjk : (j : Int) < k
      · have hj256 : ¬ (j : Int) < 256 := by have := HMm.out; omega
        go_wp2_with fail
        go_ret
        exact ⟨⟨_, rfl, HOf.out⟩, HBf.out⟩
      · go_wp2_with fail
        go_ret
        exact ⟨⟨_, rfl, HOf.out⟩, HBf.out⟩
end Go.Proofs.Ytomiligjcpmnjaa

/- XVg -/
namespace Go.Proofs.Ytomiligjcpmnjaa
set_option maxRecDepth 100000
open Go.RowKit Go.Maps
set_option linter.unusedVariables false
set_option linter.unusedSimpArgs false

/-- two rows that lie apart -/
def Ap (l out : Value) : Prop := ∀ k, l.ownBlock = some k → out.ownBlock ≠ some k
theorem ap_kept {w w' : World} {base : Nat} {l out : Value} {x : List UInt8} (h : OB w base out x) (ha : Ap l out) (hg : w.grownBy w' l.ownBlock) : OB w' base out x := by
  refine World.ownsRow.kept h hg ?_
  cases hv : out.ownBlock with
  | none => exact .inl rfl
  | some k => exact .inr (fun e => ha k e.symm hv)
theorem ap_kept' {w w' : World} {base : Nat} {l out : Value} {x : List UInt8} (h : OB w base l x) (ha : Ap l out) (hg : w.grownBy w' out.ownBlock) : OB w' base l x := by
  refine World.ownsRow.kept h hg ?_
  cases hv : l.ownBlock with
  | none => exact .inl rfl
  | some k => exact .inr (fun e => ha k hv e.symm)
set_option maxHeartbeats 1000000 in
theorem rchain_none (z o : Int) (A : Option Addr) (n c : Nat) (P : Option Addr) (L pc : Nat) (k : Int) (w : World) (hn : n ≤ maxLen) (hmay : mayB z o n = false) :
    Calls Try.prog 34 #[.agg #[.int .i64 z, .int .i64 o, .slice A n c], .slice P L pc, .int .i64 k] w fun e w' => e = .returned (.slice none 0 0) ∧ Below w.heap.size w w' := by
  obtain ⟨w2, hw2⟩ : ∃ w2, w.alloc (.cells #[.int .i64 z, .int .i64 o, .slice A n c] 25) = w2 := ⟨_, rfl⟩
  have b2 : Below w.heap.size w w2 := by rw [← hw2]; exact (Below.refl _ _).alloc (Nat.le_refl _) _
  have HM := Lib.hid (mayBy_at z o A n c w2 hn false hmay)
  rw [← hw2] at HM
  have HW := Lib.hid hw2
  have B2 := Lib.hid b2
  clear hw2 b2 hmay
  go_enter Try.func34, Try.ntmps34
  go_wp2_with fail
  (with_reducible refine HM.out.mono ?_)
  rintro e w5 ⟨rfl, hb5⟩
  rw [HW.out] at hb5
  have HB5 := Lib.hid (B2.out.trans (hb5.mono B2.out.size))
  clear hb5
  go_wp2_with fail
  go_ret
  exact ⟨rfl, HB5.out⟩
set_option maxHeartbeats 4000000 in
theorem rchain_any (b : Kd) (z o : Int) (hz : z = (b.k : Int)) (ho : o = (b.o : Int)) (A : Option Addr) (n c : Nat) (P : Option Addr) (p : List UInt8) (L pc : Nat) (k : Int) (w : World) (hk : KM w b A n c) (hp : PM w P p L pc) (hl : L ≤ 1000) (m : Nat) (hm : min (max k 0) 1000 = (m : Int)) :
    Calls Try.prog 34 #[.agg #[.int .i64 z, .int .i64 o, .slice A n c], .slice P L pc, .int .i64 k] w fun e w' => (∃ v, e = .returned v ∧ OB w' w.heap.size v (chN b m p)) ∧ Below w.heap.size w w' := by
  obtain ⟨w2, hw2⟩ : ∃ w2, w.alloc (.cells #[.int .i64 z, .int .i64 o, .slice A n c] 25) = w2 := ⟨_, rfl⟩
  have b2 : Below w.heap.size w w2 := by rw [← hw2]; exact (Below.refl _ _).alloc (Nat.le_refl _) _
  have s2 : w2.heap.size = w.heap.size + 1 := by rw [← hw2]; simp
  have hbox : w2.heap[w.heap.size]? = some (.cells #[.int .i64 z, .int .i64 o, .slice A n c] 25 (0, 0)) := by
    rw [← hw2]; exact heap_alloc_last w _
  have hmay : mayB z o n = true := by rw [hz, ho]; exact hk.may
  have HM := Lib.hid (mayBy_at z o A n c w2 hk.nm true hmay)
  rw [← hw2] at HM
  have HW := Lib.hid hw2
  have B2 := Lib.hid b2; have S2 := Lib.hid s2; have BX := Lib.hid (box3 hbox)
  have hk2 := hk.then_ b2
  have HKx : Hid (∀ wx, Below (w.heap.size + 1) w2 wx → KM wx b A n c) := fun wx hx => ⟨hk2.ok, hk2.len, hk2.nc, hk2.cm, RB.more (hk2.t.below (hx.mono (by rw [s2]; exact Nat.le_refl _))) hx.size⟩
  have HP := Lib.hid (hp.then_ b2)
  have HZ := Lib.hid hz; have HO := Lib.hid ho
  have HMm := Lib.hid hm
  have HLp : Hid (p.length = L) := hp.len
  clear hw2 b2 s2 hbox hmay hk hk2 hp hz ho hm
  go_enter Try.func34, Try.ntmps34
  go_wp2_with fail
  (with_reducible refine HM.out.mono ?_)
  rintro e w3 ⟨rfl, hb3⟩
  rw [HW.out] at hb3
  have HB3 := Lib.hid (B2.out.trans (hb3.mono B2.out.size))
  have X3 : Hid (Below (w.heap.size + 1) w2 w3) := hb3.mono (by rw [S2.out]; exact Nat.le_refl _)
  have HP3 := Lib.hid (HP.out.then_ hb3)
  have hs3 : Hid (w.heap.size + 1 ≤ w3.heap.size) := by unfold Hid; have := X3.out.size; have := S2.out; omega
  have hP1 : Hid (Value.slice P L pc = .slice P p.length pc) := by rw [HP3.out.len]; rfl
  have hl1 : Hid (([] : List UInt8).length + p.length ≤ 140737488355328) := by unfold Hid; rw [HP3.out.len]; simp; omega
  clear hb3 HM HP HW
  go_wp2_with (at_builtin; refine wpList_append_bytes rfl (.const (.slice none 0 0)) (.tmp 14) rfl (w.heap.size + 1) _ [] p rfl (OB.nil _ _) w3.heap.size P pc hP1.out HP3.out.t hl1.out hs3.out ?_; intro v5 w5 O5 G5 E5)
  rw [List.nil_append] at O5
  have hb35 : Below w3.heap.size w3 w5 := (Below.refl _ _).grown G5 (Nat.le_refl _) (fun k e => by cases e)
  have X5 : Hid (Below (w.heap.size + 1) w2 w5) := X3.out.trans (hb35.mono hs3.out)
  have O6 : Hid (OB w5 (w.heap.size + 1) v5 (p ++ chN b 0 p)) := by simpa [Hid, chN] using O5
  have O7 : Hid (OB w5 (w.heap.size + 1) (.slice none 0 0) (chN b 0 p)) := OB.nil _ _
  have A7 : Hid (Ap v5 (.slice none 0 0)) := fun k hk e => by cases e
  clear O5 G5 E5 hb35 hP1 hl1 HP3 HB3 X3 hs3
  go_loopw [7, 8, 9] (fun s7 s8 s9 wr => ∃ (j : Nat) (l out : Value), s7 = l ∧ s8 = out ∧ s9 = .int .i64 j ∧ j ≤ m ∧ Hid (OB wr (w.heap.size + 1) l (p ++ chN b j p)) ∧ Hid (OB wr (w.heap.size + 1) out (chN b j p)) ∧ Hid (Ap l out) ∧ Hid (Below (w.heap.size + 1) w2 wr)) (fun _ _ v _ => m - (intOf v).toNat)
  case atStart => exact ⟨0, _, _, rfl, rfl, rfl, Nat.zero_le _, O6, O7, A7, X5⟩
  case round =>
    clear O6 O7 A7 X5
    obtain ⟨j, l, out, rfl, rfl, rfl, hj, HL, HOu, HAp, HB⟩ := hrel
    have hm1 : m ≤ 1000 := by have := HMm.out; omega
    by_cases hlt : j < m
    · have hjk : (j : Int) < k := by have := HMm.out; omega
      have hj1 : (j : Int) < 1000 := by omega
      obtain ⟨q, hq⟩ : ∃ q, p ++ chN b j p = q := ⟨_, rfl⟩
      rw [hq] at HL
      have hqL : q.length = L + j := by rw [← hq, List.length_append, chN_len, HLp.out]
      obtain ⟨A7, c7, rfl, hc7, hm7, hr7⟩ := HL.out.form_n (L + j) hqL
      obtain ⟨B7, d7, rfl, -, -, -⟩ := HOu.out.form_n j (chN_len _ _ _)
      have c0 := (BX.out _ HB.out).1
      have c1 := (BX.out _ HB.out).2.1
      have c2 := (BX.out _ HB.out).2.2
      obtain ⟨x, hx⟩ : ∃ x, nxt b q = x := ⟨_, rfl⟩
      have hR := rrank_any b z o HZ.out HO.out A n c A7 q (L + j) c7 1 wr (HKx.out wr HB.out) ⟨hqL, hc7, hm7, hr7⟩ (by omega) (by omega) 1 (by decide)
      have ht1 : (rk (sc b q)).take 1 = [x] := by obtain ⟨t, ht⟩ := rk_cons (sc b q); rw [ht, ← hx]; rfl
      rw [ht1] at hR
      have HR := Lib.hid hR
      have HX := Lib.hid hx; have HQ := Lib.hid hq; have HQL := Lib.hid hqL
      clear hR ht1 hx hq hqL hr7
      go_wp2_with fail
      (with_reducible refine HR.out.mono ?_)
      rintro e w10 ⟨⟨v, rfl, o10⟩, hb10⟩
      obtain ⟨gr, cr, rfl, hgr, -, -⟩ := o10.some_ (by simp)
      have rr := o10.cells
      have cr0 := rr.cell_ 0 (by simp)
      have e0 : ([x] : List UInt8).getD 0 0 = x := rfl
      rw [e0] at cr0
      simp only [Nat.add_zero] at cr0
      have hgr10 : gr < w10.heap.size := cell_lt cr0
      have CR0 := Lib.hid cr0
      have HL10 : Hid (OB w10 (w.heap.size + 1) (.slice A7 (L + j) c7) q) := HL.out.below hb10 (Nat.le_refl _)
      have HO10 : Hid (OB w10 (w.heap.size + 1) (.slice B7 j d7) (chN b j p)) := HOu.out.below hb10 (Nat.le_refl _)
      have LOl : Hid (Low (.slice A7 (L + j) c7) wr.heap.size) := HL.out.low
      have LOo : Hid (Low (.slice B7 j d7) wr.heap.size) := HOu.out.low
      have hwr : w.heap.size + 1 ≤ wr.heap.size := by have := HB.out.size; have := S2.out; omega
      have hw10 : wr.heap.size ≤ w10.heap.size := hb10.size
      have HB10 : Hid (Below (w.heap.size + 1) w2 w10) := HB.out.trans (hb10.mono hwr)
      obtain ⟨w11, hw11⟩ : ∃ w11, w10.alloc (.cells #[.int .u8 (x.toNat : Int)] 5) = w11 := ⟨_, rfl⟩
      have b11 : Below w10.heap.size w10 w11 := by rw [← hw11]; exact (Below.refl _ _).alloc (Nat.le_refl _) _
      have s11 : w11.heap.size = w10.heap.size + 1 := by rw [← hw11]; simp
      have R11 : Hid (RB w11 (w10.heap.size + 1) (some ⟨w10.heap.size, 0, none⟩) [x]) := by rw [← hw11]; exact rb_cells w10 [x] 5 (w10.heap.size + 1) (by omega)
      have HL11 : Hid (OB w11 (w.heap.size + 1) (.slice A7 (L + j) c7) q) := HL10.out.below b11 (Nat.le_refl _)
      have HO11 : Hid (OB w11 (w.heap.size + 1) (.slice B7 j d7) (chN b j p)) := HO10.out.below b11 (Nat.le_refl _)
      have hl11 : Hid (q.length + [x].length ≤ 140737488355328) := by unfold Hid; rw [HQL.out]; simp; omega
      have hb11 : Hid (w.heap.size + 1 ≤ w11.heap.size) := by unfold Hid; omega
      have HW11 := Lib.hid hw11
      have C11 : Hid (w11.cell? ⟨gr, 0, none⟩ = some (.int .u8 (x.toNat : Int))) := (b11.cell (p := ⟨gr, 0, none⟩) hgr10).trans CR0.out
      have HB11 : Hid (Below (w.heap.size + 1) w2 w11) := HB10.out.trans (b11.mono (by omega))
      have S11 := Lib.hid s11
      clear o10 rr hb10 e0 hw11 b11 HL HOu HR HB c0 c1 c2 HL10 HO10 HB10 s11
      go_upto_region 10 with (at_builtin; refine wpList_append_bytes rfl (.tmp 28) (.tmp 32) rfl (w.heap.size + 1) _ q [x] rfl (by rw [HW11.out]; exact HL11.out) (w10.heap.size + 1) (some ⟨w10.heap.size, 0, none⟩) 1 rfl (by rw [HW11.out]; exact R11.out) hl11.out (by rw [HW11.out]; exact hb11.out) ?_; intro v12 w12 O12 G12 E12)
      rw [HW11.out] at G12 E12
      have cr12 : w12.cell? ⟨gr, 0, none⟩ = some (.int .u8 (x.toNat : Int)) := by
        rw [← C11.out]
        have hb := G12.block gr (by have := S11.out; omega) (fun e => absurd (LOl.out gr e.symm) (Nat.not_lt.2 hgr))
        unfold World.cell?
        simp only [hb]
      have HO12 : Hid (OB w12 (w.heap.size + 1) (.slice B7 j d7) (chN b j p)) := ap_kept HO11.out HAp.out G12
      have HA12 : Hid (Ap v12 (.slice B7 j d7)) := fun k hk e => by
        rcases E12 with h | h
        · rw [h] at hk; exact HAp.out k hk e
        · rw [h] at hk
          have h1 := LOo.out k e
          have h2 := Option.some.inj hk
          have := S11.out
          omega
      have hz12 := G12.size
      have HB12 : Hid (Below (w.heap.size + 1) w2 w12) := HB11.out.grown G12 (by have := hb11.out; have := HB11.out.size; omega) HL11.out.ge
      obtain ⟨A12, c12, rfl, -, -, -⟩ := O12.form_n (L + j + 1) (by rw [List.length_append, HQL.out]; rfl)
      have HL12 := Lib.hid O12
      have hs12 : w.heap.size + 1 ≤ w12.heap.size := by have := hb11.out; omega
      obtain ⟨w13, hw13⟩ : ∃ w13, w12.alloc (.cells #[.int .u8 (x.toNat : Int)] 5) = w13 := ⟨_, rfl⟩
      have b13 : Below w12.heap.size w12 w13 := by rw [← hw13]; exact (Below.refl _ _).alloc (Nat.le_refl _) _
      have s13 : w13.heap.size = w12.heap.size + 1 := by rw [← hw13]; simp
      have R13 : Hid (RB w13 (w12.heap.size + 1) (some ⟨w12.heap.size, 0, none⟩) [x]) := by rw [← hw13]; exact rb_cells w12 [x] 5 (w12.heap.size + 1) (by omega)
      have HL13 : Hid (OB w13 (w.heap.size + 1) (.slice A12 (L + j + 1) c12) (q ++ [x])) := HL12.out.below b13 (Nat.le_refl _)
      have HO13 : Hid (OB w13 (w.heap.size + 1) (.slice B7 j d7) (chN b j p)) := HO12.out.below b13 (Nat.le_refl _)
      have hl13 : Hid ((chN b j p).length + [x].length ≤ 140737488355328) := by unfold Hid; rw [chN_len]; simp; omega
      have hb13 : Hid (w.heap.size + 1 ≤ w13.heap.size) := by unfold Hid; omega
      have HB13 : Hid (Below (w.heap.size + 1) w2 w13) := HB12.out.trans (b13.mono hs12)
      have LO12 : Hid (Low (.slice A12 (L + j + 1) c12) w12.heap.size) := HL12.out.low
      have HW13 := Lib.hid hw13
      have S13 := Lib.hid s13
      clear hw13 b13 s13 O12 E12 G12
      go_wp2_with (at_builtin; refine wpList_append_bytes rfl (.tmp 34) (.tmp 38) rfl (w.heap.size + 1) _ (chN b j p) [x] rfl (by rw [HW13.out]; exact HO13.out) (w12.heap.size + 1) (some ⟨w12.heap.size, 0, none⟩) 1 rfl (by rw [HW13.out]; exact R13.out) hl13.out (by rw [HW13.out]; exact hb13.out) ?_; intro v14 w14 O14 G14 E14)
      rw [HW13.out] at G14 E14
      have hjj : chN b (j + 1) p = chN b j p ++ [x] := by rw [chN_snoc, HQ.out, HX.out]
      have hq2 : p ++ chN b (j + 1) p = q ++ [x] := by rw [hjj, ← List.append_assoc, HQ.out]
      refine ⟨⟨j + 1, _, v14, rfl, rfl, by go_num, by omega, ?_, ?_, ?_, ?_⟩, by simp [intOf]; omega⟩
      · rw [hq2]; exact ap_kept' HL13.out HA12.out G14
      · rw [hjj]; exact O14
      · intro k hk e
        rcases E14 with h | h
        · rw [h] at e; exact HA12.out k hk e
        · rw [h] at e
          have h1 := LO12.out k hk
          have h2 := Option.some.inj e
          have := S13.out
          omega
      · exact HB13.out.grown G14 hb13.out HO13.out.ge
    · obtain rfl : j = m := by omega
      obtain ⟨A7, c7, rfl, -, -, -⟩ := HL.out.form_n (L + j) (by rw [List.length_append, chN_len, HLp.out])
      have HBf := Lib.hid (B2.out.trans (HB.out.mono (by omega)))
      have HOf := Lib.hid (HOu.out.less (b' := w.heap.size) (by omega))
      by_cases hjk : (j : Int) < k
      · have hj1 : ¬ (j : Int) < 1000 := by have := HMm.out; omega
        go_wp2_with fail
        go_ret
        exact ⟨⟨_, rfl, HOf.out⟩, HBf.out⟩
      · go_wp2_with fail
        go_ret
        exact ⟨⟨_, rfl, HOf.out⟩, HBf.out⟩
end Go.Proofs.Ytomiligjcpmnjaa

/- XVh -/
namespace Go.Proofs.Ytomiligjcpmnjaa
set_option maxRecDepth 100000
open Go.RowKit Go.Maps
set_option linter.unusedVariables false
set_option linter.unusedSimpArgs false

section
variable {P : Program} {ops : Array Oper} {Q : Exit → Act → World → Prop} {md : Region.Mode} {S S' : World → Prop}
/-- from here on more holds -/
theorem wpAnyH_more (hs : ∀ w, S' w → S w) : ∀ (fuel : Nat) (listed : Array Bool) (a : Act) (w : World), wpAnyH P md ops Q S' fuel listed a w → wpAnyH P md ops Q S fuel listed a w
  | 0, _, _, _, h => h
  | fuel + 1, _, _, _, h => ⟨h.1, fun i hi => wpOp_mono (fun a' w' h' => ⟨hs w' h'.1, wpAnyH_more hs fuel _ a' w' h'.2⟩) (h.2 i hi)⟩
end
/-- a slice of the bytes R -/
def Res (e : Ending) (w' : World) (R : List UInt8) : Prop := ∃ A c, e = .returned (.slice A R.length c) ∧ RB w' w'.heap.size A R
theorem res_ob {w' : World} {base : Nat} {v : Value} {R : List UInt8} (h : OB w' base v R) : Res (.returned v) w' R := by
  obtain ⟨A, c, rfl, _, _, hr⟩ := h.form_n R.length rfl
  exact ⟨A, c, rfl, hr⟩
theorem res_nil (w' : World) : Res (.returned (.slice none 0 0)) w' [] := ⟨none, 0, rfl, RB.nil _ _ _⟩
def rkR (r : Bool) (b : Kd) (p : List UInt8) (m : Nat) : List UInt8 := if r then (rk (sc b p)).take m else []
def chR (r : Bool) (b : Kd) (p : List UInt8) (m : Nat) : List UInt8 := if r then chN b m p else []
theorem gen_kd {z o : Int} {X c : Nat} {A : Option Addr} {tb : List UInt8} {w : World} (h : mayB z o X = true) (ht : PM w A tb X c) : KM w (Kd.mk z.toNat o.toNat tb) A X c ∧ z = (((Kd.mk z.toNat o.toNat tb).k : Nat) : Int) ∧ o = (((Kd.mk z.toNat o.toNat tb).o : Nat) : Int) := by
  have hk := may_kd h ht.len
  exact ⟨⟨hk.1, ht.len, ht.nc, ht.cm, ht.t⟩, hk.2.1, hk.2.2⟩
theorem rank_gen (z o : Int) (A : Option Addr) (X c : Nat) (tb : List UInt8) (P : Option Addr) (p : List UInt8) (L pc : Nat) (k : Int) (w : World) (ht : PM w A tb X c) (hp : PM w P p L pc) (hl : L ≤ 1000) (r : Bool) (hr : mayB z o X = r) (m : Nat) (hm : min (max k 0) 256 = (m : Int)) :
    Calls Try.prog 22 #[.agg #[.int .i64 z, .int .i64 o, .slice A X c], .slice P L pc, .int .i64 k] w fun e w' => Res e w' (rkR r ⟨z.toNat, o.toNat, tb⟩ p m) ∧ Below w.heap.size w w' := by
  cases r with
  | false => exact (rank_none z o A X c P L pc k w (Nat.le_trans ht.nc ht.cm) hr).mono fun e w' ⟨he, hb⟩ => ⟨by rw [he]; exact res_nil w', hb⟩
  | true =>
    obtain ⟨hk, hz, ho⟩ := gen_kd hr ht
    have hlen : ((rk (sc ⟨z.toNat, o.toNat, tb⟩ p)).take m).length = m := by rw [List.length_take, rk_len]; omega
    exact (rank_at _ z o hz ho A X c P p L pc k w hk hp (by omega) m hm _ rfl).mono fun e w' ⟨⟨g, he, _, hR⟩, hb⟩ => ⟨⟨some ⟨g, 0, none⟩, 256, by rw [he]; show _ = Ending.returned (.slice _ ((rk (sc ⟨z.toNat, o.toNat, tb⟩ p)).take m).length _); rw [hlen], hR⟩, hb⟩
theorem chain_gen (z o : Int) (A : Option Addr) (X c : Nat) (tb : List UInt8) (P : Option Addr) (p : List UInt8) (L pc : Nat) (k : Int) (w : World) (ht : PM w A tb X c) (hp : PM w P p L pc) (hl : L ≤ 1000) (r : Bool) (hr : mayB z o X = r) (m : Nat) (hm : min (max k 0) 1000 = (m : Int)) :
    Calls Try.prog 31 #[.agg #[.int .i64 z, .int .i64 o, .slice A X c], .slice P L pc, .int .i64 k] w fun e w' => Res e w' (chR r ⟨z.toNat, o.toNat, tb⟩ p m) ∧ Below w.heap.size w w' := by
  cases r with
  | false => exact (chain_none z o A X c P L pc k w (Nat.le_trans ht.nc ht.cm) hr).mono fun e w' ⟨he, hb⟩ => ⟨by rw [he]; exact res_nil w', hb⟩
  | true =>
    obtain ⟨hk, hz, ho⟩ := gen_kd hr ht
    exact (chain_at _ z o hz ho A X c P p L pc k w hk hp hl m hm _ rfl).mono fun e w' ⟨⟨A', c', he, _, _, hR⟩, hb⟩ => ⟨⟨A', c', by rw [he]; show _ = Ending.returned (.slice _ (chN _ m p).length _); rw [chN_len], hR⟩, hb⟩
theorem rrank_gen (z o : Int) (A : Option Addr) (X c : Nat) (tb : List UInt8) (P : Option Addr) (p : List UInt8) (L pc : Nat) (k : Int) (w : World) (ht : PM w A tb X c) (hp : PM w P p L pc) (hl : L ≤ 1000) (r : Bool) (hr : mayB z o X = r) (m : Nat) (hm : min (max k 0) 256 = (m : Int)) :
    Calls Try.prog 33 #[.agg #[.int .i64 z, .int .i64 o, .slice A X c], .slice P L pc, .int .i64 k] w fun e w' => Res e w' (rkR r ⟨z.toNat, o.toNat, tb⟩ p m) ∧ Below w.heap.size w w' := by
  cases r with
  | false => exact (rrank_none z o A X c P L pc k w (Nat.le_trans ht.nc ht.cm) false hr (.inl rfl)).mono fun e w' ⟨he, hb⟩ => ⟨by rw [he]; exact res_nil w', hb⟩
  | true =>
    by_cases hk1 : k < 1
    · obtain rfl : m = 0 := by omega
      exact (rrank_none z o A X c P L pc k w (Nat.le_trans ht.nc ht.cm) true hr (.inr hk1)).mono fun e w' ⟨he, hb⟩ => ⟨by rw [he]; show Res _ _ ((rk (sc ⟨z.toNat, o.toNat, tb⟩ p)).take 0); rw [List.take_zero]; exact res_nil w', hb⟩
    · obtain ⟨hk, hz, ho⟩ := gen_kd hr ht
      exact (rrank_any _ z o hz ho A X c P p L pc k w hk hp (by omega) (by omega) m (by omega)).mono fun e w' ⟨⟨v, he, ho⟩, hb⟩ => ⟨by rw [he]; exact res_ob ho, hb⟩
theorem rchain_gen (z o : Int) (A : Option Addr) (X c : Nat) (tb : List UInt8) (P : Option Addr) (p : List UInt8) (L pc : Nat) (k : Int) (w : World) (ht : PM w A tb X c) (hp : PM w P p L pc) (hl : L ≤ 1000) (r : Bool) (hr : mayB z o X = r) (m : Nat) (hm : min (max k 0) 1000 = (m : Int)) :
    Calls Try.prog 34 #[.agg #[.int .i64 z, .int .i64 o, .slice A X c], .slice P L pc, .int .i64 k] w fun e w' => Res e w' (chR r ⟨z.toNat, o.toNat, tb⟩ p m) ∧ Below w.heap.size w w' := by
  cases r with
  | false => exact (rchain_none z o A X c P L pc k w (Nat.le_trans ht.nc ht.cm) hr).mono fun e w' ⟨he, hb⟩ => ⟨by rw [he]; exact res_nil w', hb⟩
  | true =>
    obtain ⟨hk, hz, ho⟩ := gen_kd hr ht
    exact (rchain_any _ z o hz ho A X c P p L pc k w hk hp hl m hm).mono fun e w' ⟨⟨v, he, ho⟩, hb⟩ => ⟨by rw [he]; exact res_ob ho, hb⟩
end Go.Proofs.Ytomiligjcpmnjaa
