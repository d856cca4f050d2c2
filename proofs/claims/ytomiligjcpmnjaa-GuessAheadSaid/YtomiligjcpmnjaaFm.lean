/- THE PROGRAM: scoresOf, first. -/
import Derived.Test.YtomiligjcpmnjaaFl
import Derived.Deep.CutBlock
import Derived.Deep.CutRange
namespace Go.Proofs.Ytomiligjcpmnjaa
set_option maxRecDepth 100000
open Go.RowKit
set_option linter.unusedVariables false
set_option linter.unusedSimpArgs false

def dbl (W : Nat → Int) (i : Nat) : Nat → Int := fun v => if v < i then 2 * W v else W v
theorem dbl_step (W : Nat → Int) (i : Nat) (y : Int) (h : W i = y) : putS (dbl W i) i (y * 2) = dbl W (i + 1) := by
  funext v
  unfold putS dbl
  by_cases c : v = i
  · rw [if_pos c, c, if_pos (by omega), h]; omega
  · rw [if_neg c]
    by_cases c2 : v < i
    · rw [if_pos c2, if_pos (by omega)]
    · rw [if_neg c2, if_neg (by omega)]
def wB (b : Kd) (p : List UInt8) : Nat → Int := fun v => if b.k = 2 then wN b.o p v else 0
theorem wB_rng (b : Kd) (p : List UInt8) (v : Nat) : 0 ≤ wB b p v ∧ wB b p v ≤ p.length := by
  unfold wB
  split
  · exact wts_nonneg _ _ _ _ _
  · omega
/-- with the last one's -/
def s1 (b : Kd) (p : List UInt8) : Nat → Int := fun v => 2 * wB b p v + (if 0 < p.length ∧ (lst p).toNat = v then 1 else 0)
theorem s1_zero (b : Kd) (p : List UInt8) (h : p.length = 0) (v : Nat) (hv : v < 256) : dbl (wB b p) 256 v = s1 b p v := by
  unfold dbl s1; rw [if_pos hv, if_neg (by omega)]; omega
theorem s1_some (b : Kd) (p : List UInt8) (h : 0 < p.length) (X : Nat) (hX : (lst p).toNat = X) (v : Nat) (hv : v < 256) (y : Int) (hy : dbl (wB b p) 256 X = y) : putS (dbl (wB b p) 256) X (y + 1) v = s1 b p v := by
  have hX2 : X < 256 := by rw [← hX]; exact UInt8.toNat_lt _
  unfold putS s1
  by_cases c : v = X
  · rw [if_pos c, if_pos ⟨h, by rw [hX, c]⟩, ← hy, c]; unfold dbl; rw [if_pos hX2]
  · rw [if_neg c, if_neg (fun hh => c (by rw [← hh.2, hX]))]; unfold dbl; rw [if_pos hv]; omega
theorem sc_other (b : Kd) (p : List UInt8) (h : b.k ≠ 3) : sc b p = s1 b p := by
  funext v
  unfold sc s1 wB
  rw [if_neg (c := b.k = 3 ∧ _) (fun hh => h hh.1)]; omega
theorem sc_drawn (b : Kd) (p : List UInt8) (h : b.k = 3) (X : Nat) (hX : (drw b p).toNat = X) (y : Int) (hy : s1 b p X = y) : putS (s1 b p) X (y + 2) = sc b p := by
  funext v
  unfold putS
  by_cases c : v = X
  · rw [if_pos c, ← hy]
    unfold sc s1 wB
    rw [if_pos (c := b.k = 3 ∧ _) ⟨h, by rw [hX, c]⟩, c]
  · rw [if_neg c]
    unfold sc s1 wB
    rw [if_neg (c := b.k = 3 ∧ _) (fun hh => c (by rw [← hh.2, hX]))]; omega
theorem s1_rng (b : Kd) (p : List UInt8) (v : Nat) : 0 ≤ s1 b p v ∧ s1 b p v ≤ 2 * p.length + 1 := by
  have := wB_rng b p v
  unfold s1
  split <;> omega
theorem GN.congr {w : World} {b : Nat} {S T : Nat → Int} (h : GN w b S) (e : ∀ v, v < 256 → S v = T v) : GN w b T := by
  unfold GN at h ⊢; rw [← aN_congr e]; exact h
set_option maxHeartbeats 2000000 in
theorem scores_any (b : Kd) (A : Option Addr) (n c : Nat) (P : Option Addr) (p : List UInt8) (L pc : Nat) (w : World) (hok : b.ok) (hn : b.tb.length = n) (hnc : n ≤ c) (hcm : c ≤ maxLen) (ht : RB w w.heap.size A b.tb) (hL : p.length = L) (hc : L ≤ pc) (hm : pc ≤ maxLen) (hp : RB w w.heap.size P p) (hl : L ≤ 2000) :
    Calls Try.prog 36 #[byV b.k b.o A n c, .slice P L pc] w fun e w' => e = .returned (.agg (aN (sc b p))) ∧ Below w.heap.size w w' := by
  have hz := zeroN
  obtain ⟨w2, hw2⟩ : ∃ w2, (w.alloc (.cells #[.int .i64 b.k, .int .i64 b.o, .slice A n c] 39)).alloc (.cells (aN z256) 70) = w2 := ⟨_, rfl⟩
  have b2 : Below w.heap.size w w2 := by rw [← hw2]; exact ((Below.refl _ _).alloc (Nat.le_refl _) _).alloc (by simp) _
  have s2 : w2.heap.size = w.heap.size + 2 := by rw [← hw2]; simp
  have g2 : GN w2 (w.heap.size + 1) z256 := by
    rw [← hw2]
    have := GN.new (w.alloc (.cells #[.int .i64 b.k, .int .i64 b.o, .slice A n c] 39)) z256
    simpa using this
  have hbox : w2.heap[w.heap.size]? = some (.cells (byA b.k b.o A n c) 39 (0, 0)) := by
    rw [← hw2]
    have h0 := heap_alloc_last w (.cells #[.int .i64 b.k, .int .i64 b.o, .slice A n c] 39)
    exact (Below.heap_alloc (w.alloc (.cells #[.int .i64 b.k, .int .i64 b.o, .slice A n c] 39)) (.cells (aN z256) 70) w.heap.size (by simp)).trans h0
  have hwg := weigh_any b A n c P p L pc w2 hok hL hc hm (RB.more (hp.below b2) (by rw [s2]; omega)) hl
  have hW : (fun v => if b.k = 2 then wN b.o p v else 0) = wB b p := rfl
  rw [hW] at hwg
  have HE := Lib.hid hwg
  have HW := Lib.hid hw2
  have B2 := Lib.hid b2; have S2 := Lib.hid s2; have G2 := Lib.hid g2; have HBX := Lib.hid hbox
  have HP := Lib.hid hp; have HT := Lib.hid ht; have HL := Lib.hid hL; have HN := Lib.hid hn
  have hm2 := hm; have hcm2 := hcm
  unfold maxLen at hm2 hcm2
  rw [← HW.out] at HE
  clear hwg hw2 b2 s2 g2 hbox hp ht hL hn hW hm hcm
  unfold byV byA at HE ⊢
  go_enter Try.func36, Try.ntmps36
  go_wp2_with fail
  (with_reducible refine HE.out.mono ?_)
  rintro e w5 ⟨rfl, hb5⟩
  rw [HW.out] at hb5
  have G6 : Hid (GN (w5.alloc (.cells (aN z256) 70)) w5.heap.size z256) := GN.new w5 z256
  have g6 := G6.out
  go_wp2_with (with_reducible refine wpList_store_n rfl (.tmp 5) (.tmp 10) rfl w5.heap.size (by with_unfolding_all rfl) z256 (wB b p) g6 (by with_unfolding_all rfl) ?_; intro w7 G7 S7 R7)
  have HB5 := Lib.hid hb5
  have hs0 : w.heap.size + 2 ≤ w5.heap.size := by rw [← S2.out]; exact hb5.size
  obtain ⟨s, hs⟩ : ∃ s, w5.heap.size = s := ⟨_, rfl⟩
  have B7 : Hid (Below s w5 w7) := by
    rw [← hs]
    exact ((Below.refl _ _).alloc (Nat.le_refl _) (.cells (aN z256) 70)).grown R7 (by simp) (fun k e => by cases e; exact Nat.le_refl _)
  rw [hs] at G7 hs0 ⊢
  have HS5 := Lib.hid hs
  have G7h := Lib.hid G7
  have L0 := Lib.hid hl
  clear hb5 g6 G6 HE hs S7 R7 G7 hz
  go_loopw [11] (fun v wr => ∃ i : Nat, v = .int .i64 i ∧ i ≤ 256 ∧ Hid (Below s w5 wr) ∧ Hid (GN wr s (dbl (wB b p) i))) (fun v _ => 256 - (intOf v).toNat)
  case atStart => exact ⟨0, rfl, by omega, B7, by
    have : dbl (wB b p) 0 = wB b p := by funext v; unfold dbl; rw [if_neg (by omega)]
    rw [this]; exact G7h⟩
  case round =>
    clear G7h B7
    obtain ⟨i, rfl, hi, HB, HG⟩ := hrel
    by_cases hlt : i < 256
    · have hltz : (i : Int) < 256 := by omega
      obtain ⟨y, hy⟩ : ∃ y, wB b p i = y := ⟨_, rfl⟩
      have hy2 := wB_rng b p i
      rw [hy, HL.out] at hy2
      have cy := HG.out.cell i hlt
      have fy := HG.out.frozen i
      have hd : dbl (wB b p) i i = y := by unfold dbl; rw [if_neg (by omega), hy]
      rw [hd] at cy
      have HD : Hid (putS (dbl (wB b p) i) i (y * 2) = dbl (wB b p) (i + 1)) := dbl_step _ i y hy
      clear hy hd
      go_wp2_with fail
      exact ⟨⟨i + 1, by go_num, by omega, HB.out.setCell (Nat.le_refl _) _, by rw [← HD.out]; exact HG.out.set i (y * 2)⟩, by simp [intOf]; omega⟩
    · obtain rfl : i = 256 := by omega
      have BX : Hid (∀ wx, Below s w5 wx → wx.cell? ⟨w.heap.size, 0, none⟩ = some (.int .i64 b.k) ∧ wx.cell? ⟨w.heap.size, 2, none⟩ = some (.slice A n c) ∧ Below w.heap.size w wx ∧ GN wx (w.heap.size + 1) z256) := fun wx hx => by
        have h1 : Below w.heap.size w wx := B2.out.trans ((HB5.out.mono (by rw [S2.out]; omega)).trans (hx.mono (by omega)))
        have h2 : Below (w.heap.size + 2) w2 wx := (HB5.out.mono (by rw [S2.out]; omega)).trans (hx.mono hs0)
        exact ⟨(h2.cell (p := ⟨w.heap.size, 0, none⟩) (by show w.heap.size < _; omega)).trans (cell_of_row _ _ _ _ _ _ HBX.out),
          (h2.cell (p := ⟨w.heap.size, 2, none⟩) (by show w.heap.size < _; omega)).trans (cell_of_row _ _ _ _ _ _ HBX.out), h1, G2.out.below h2 (by omega)⟩
      clear G2 HBX B2 HB5 S2 HW hlt hi
      go_upto_if 23 with fail
      go_cut [7] from 24 to 32 (fun s7 wx => s7 = .int .i64 L ∧ Hid (Below s w5 wx) ∧ Hid (GN wx s (s1 b p)))
      case first =>
        by_cases hL0 : L = 0
        · subst hL0
          have HG1 : Hid (GN wr s (s1 b p)) := HG.out.congr (fun v hv => s1_zero b p HL.out v hv)
          go_wp2_with fail
          go_meet
          exact ⟨rfl, HB, HG1⟩
        · have hLz : (0 : Int) < (L : Int) := by omega
          obtain ⟨l1, hl1⟩ : ∃ l1 : Nat, (L : Int) - 1 = l1 := ⟨L - 1, by omega⟩
          obtain ⟨pb, po, rfl, hpb, -⟩ := HP.out (by rw [HL.out]; omega)
          have HPr : Hid (RB wr w.heap.size (some ⟨pb, po, none⟩) p) := HP.out.below (BX.out wr HB.out).2.2.1
          obtain ⟨X, hX⟩ : ∃ X, (lst p).toNat = X := ⟨_, rfl⟩
          have hX2 : X < 256 := by rw [← hX]; exact UInt8.toNat_lt _
          have cx := HPr.out.cell_ l1 (by rw [HL.out]; omega)
          have hl2 : p.getD l1 0 = lst p := by unfold lst; rw [HL.out, show L - 1 = l1 by omega]
          rw [hl2, hX] at cx
          have gx := HG.out.cell X hX2
          have fx := HG.out.frozen X
          obtain ⟨y, hy⟩ : ∃ y, dbl (wB b p) 256 X = y := ⟨_, rfl⟩
          rw [hy] at gx
          have hyr : 0 ≤ y ∧ y ≤ 5000 := by
            have := wB_rng b p X
            rw [HL.out] at this
            rw [← hy]; unfold dbl; rw [if_pos hX2]
            have := L0.out
            omega
          have HG1 : Hid (GN (wr.setCell ⟨s, X, none⟩ (.int .i64 (y + 1))) s (s1 b p)) := (HG.out.set X (y + 1)).congr (fun v hv => s1_some b p (by rw [HL.out]; omega) X hX v hv y hy)
          have hl1n : l1 < L := by omega
          clear hX hy hl2 hL0
          go_wp2_with fail
          go_meet
          exact ⟨rfl, HB.out.setCell (Nat.le_refl _) _, HG1⟩
      case rest =>
        obtain ⟨rfl, HB1, HG1⟩ := hcut
        clear HG HB
        obtain ⟨w9, hw9⟩ : ∃ w9, wc = w9 := ⟨_, rfl⟩
        rw [hw9] at HB1 HG1 ⊢
        clear hw9
        have c0 := (BX.out w9 HB1.out).1
        have c2 := (BX.out w9 HB1.out).2.1
        go_upto_if 35 with fail
        go_cut [7] from 36 to 49 (fun s7 wx => s7 = .int .i64 L ∧ Hid (Below s w5 wx) ∧ Hid (GN wx s (sc b p)))
        case first =>
          by_cases hk : b.k = 3
          · have hkz : ((b.k : Int) == 3) = true := by rw [hk]; rfl
            have hkz2 : (b.k : Int) = 3 := by omega
            have htb : 1 ≤ n ∧ n ≤ 1000 := by have := hok; unfold Kd.ok at this; have h0 := HN.out; omega
            obtain ⟨ta, tq, rfl, hta, -⟩ := HT.out (by rw [HN.out]; omega)
            have HTr : Hid (RB w9 w.heap.size (some ⟨ta, tq, none⟩) b.tb) := HT.out.below (BX.out w9 HB1.out).2.2.1
            obtain ⟨r, hr⟩ : ∃ r : Nat, (L : Int).tmod (n : Int) = r := ⟨L % n, by rw [Int.tmod_eq_emod_of_nonneg (by omega)]; rfl⟩
            have hrn : r = L % n := by rw [Int.tmod_eq_emod_of_nonneg (by omega)] at hr; exact_mod_cast hr.symm
            have hrlt : r < n := by rw [hrn]; exact Nat.mod_lt _ (by omega)
            obtain ⟨X, hX⟩ : ∃ X, (drw b p).toNat = X := ⟨_, rfl⟩
            have hX2 : X < 256 := by rw [← hX]; exact UInt8.toNat_lt _
            have cx := HTr.out.cell_ r (by rw [HN.out]; exact hrlt)
            have hl2 : b.tb.getD r 0 = drw b p := by unfold drw; rw [HN.out, HL.out, hrn]
            rw [hl2, hX] at cx
            have gx := HG1.out.cell X hX2
            have fx := HG1.out.frozen X
            obtain ⟨y, hy⟩ : ∃ y, s1 b p X = y := ⟨_, rfl⟩
            rw [hy] at gx
            have hyr : 0 ≤ y ∧ y ≤ 5000 := by
              have := s1_rng b p X
              rw [HL.out, hy] at this
              have := L0.out
              omega
            have HG2 : Hid (GN (w9.setCell ⟨s, X, none⟩ (.int .i64 (y + 2))).drew s (sc b p)) := by
              have := HG1.out.set X (y + 2)
              rw [sc_drawn b p hk X hX y hy] at this
              exact this
            have hn0 : ((n : Int) == 0) = false := by simp; omega
            have hn1 : ¬ (n : Int) = 0 := by omega
            clear hX hy hl2 hrn hk
            go_wp2_with fail
            go_big_region
            all_goals go_wp2_with fail
            all_goals go_meet
            all_goals exact ⟨rfl, (HB1.out.setCell (Nat.le_refl _) _).drew, HG2⟩
          · have hkz : ((b.k : Int) == 3) = false := by simp; omega
            have HG2 : Hid (GN w9 s (sc b p)) := by rw [sc_other b p hk]; exact HG1
            clear hk
            go_wp2_with fail
            go_meet
            exact ⟨rfl, HB1, HG2⟩
        case rest =>
          obtain ⟨rfl, HB2, HG2⟩ := hcut
          have G5 := HG2.out
          have G4 := (BX.out wc HB2.out).2.2.2
          have HBf := Lib.hid (BX.out wc HB2.out).2.2.1
          clear c0 c2 HB1 HG1
          go_wp2_with (first
            | (with_reducible refine wpList_load_n rfl (.tmp 5) rfl s (by with_unfolding_all rfl) (sc b p) G5 ?_)
            | (with_reducible refine wpList_store_n rfl (.tmp 4) (.tmp 50) rfl (w.heap.size + 1) (by with_unfolding_all rfl) z256 (sc b p) G4 (by with_unfolding_all rfl) ?_; intro w8 G8 S8 R8))
          exact bodyPost_ret (results_n rfl G8 rfl) rfl ⟨rfl, HBf.out.grown R8 HBf.out.size (fun k e => by cases e; omega)⟩

/-- the first of the greatest, below n -/
def BestN (S : Nat → Int) (b n : Nat) : Prop := b < 256 ∧ (b < n ∨ b = 0) ∧ (∀ j, j < b → S j < S b) ∧ ∀ j, j < n → S j ≤ S b
set_option maxHeartbeats 2000000 in
theorem first_any (b : Kd) (A : Option Addr) (n c : Nat) (P : Option Addr) (p : List UInt8) (L pc : Nat) (w : World) (hok : b.ok) (hn : b.tb.length = n) (hnc : n ≤ c) (hcm : c ≤ maxLen) (ht : RB w w.heap.size A b.tb) (hL : p.length = L) (hc : L ≤ pc) (hm : pc ≤ maxLen) (hp : RB w w.heap.size P p) (hl : L ≤ 2000) :
    Calls Try.prog 43 #[byV b.k b.o A n c, .slice P L pc] w fun e w' => e = .returned (.int .u8 ((nxt b p).toNat : Int)) ∧ Below w.heap.size w w' := by
  have hz := zeroN
  obtain ⟨w2, hw2⟩ : ∃ w2, w.alloc (.cells #[.int .i64 b.k, .int .i64 b.o, .slice A n c] 39) = w2 := ⟨_, rfl⟩
  have b2 : Below w.heap.size w w2 := by rw [← hw2]; exact (Below.refl _ _).alloc (Nat.le_refl _) _
  have s2 : w2.heap.size = w.heap.size + 1 := by rw [← hw2]; simp
  have HE := Lib.hid (scores_any b A n c P p L pc w2 hok hn hnc hcm (RB.more (ht.below b2) (by rw [s2]; omega)) hL hc hm (RB.more (hp.below b2) (by rw [s2]; omega)) hl)
  have HW := Lib.hid hw2
  rw [← HW.out] at HE
  have B2 := Lib.hid b2; have S2 := Lib.hid s2
  obtain ⟨S, hS⟩ : ∃ S, sc b p = S := ⟨_, rfl⟩
  have hnx : nxt b p = hd S := by unfold nxt; rw [hS]
  rw [hnx]
  rw [hS] at HE
  clear hw2 b2 s2 hp ht hL hn hcm hm hnx hS
  unfold byV byA at HE ⊢
  go_enter Try.func43, Try.ntmps43
  go_wp2_with fail
  (with_reducible refine HE.out.mono ?_)
  rintro e w5 ⟨rfl, hb5⟩
  rw [HW.out] at hb5
  have g6 : GN (w5.alloc (.cells (aN z256) 70)) w5.heap.size z256 := GN.new w5 z256
  have HB5 : Hid (Below w.heap.size w w5) := B2.out.trans (hb5.mono (by rw [S2.out]; omega))
  clear hb5 HE
  go_wp2_with (first
    | (with_reducible refine wpList_store_n rfl (.tmp 5) (.tmp 11) rfl w5.heap.size (by with_unfolding_all rfl) z256 S g6 (by with_unfolding_all rfl) ?_; intro w7 G7 S7 R7)
    | (with_reducible refine wpList_load_n rfl (.tmp 5) rfl w5.heap.size (by with_unfolding_all rfl) S G7 ?_))
  have HB7 : Hid (Below w.heap.size w w7) := (HB5.out.alloc HB5.out.size (.cells (aN z256) 70)).grown R7 (by have := HB5.out.size; simp; omega) (fun k e => by cases e; exact HB5.out.size)
  obtain ⟨s, hs⟩ : ∃ s, w5.heap.size = s := ⟨_, rfl⟩
  rw [hs] at G7 ⊢
  clear hz g6 HB5 hs S7 R7
  have HG := Lib.hid G7
  go_loopw [6, 13] (fun u v wr => ∃ k i : Nat, u = .int .i64 k ∧ v = .int .i64 i ∧ i ≤ 256 ∧ Hid (BestN S k i) ∧ w7 = wr) (fun _ v _ => 256 - (intOf v).toNat)
  case atStart => exact ⟨0, 0, rfl, rfl, by omega, ⟨by omega, .inr rfl, fun j h => by omega, fun j h => by omega⟩, rfl⟩
  case round =>
    obtain ⟨k, i, rfl, rfl, hi, HBe, rfl⟩ := hrel
    by_cases hlt : i < 256
    · have hltz : (i : Int) < 256 := by omega
      have hk1 : k < 256 := HBe.out.1
      obtain ⟨x, hx⟩ : ∃ x, S i = x := ⟨_, rfl⟩
      obtain ⟨y, hy⟩ : ∃ y, S k = y := ⟨_, rfl⟩
      have ci := index_n S i hlt
      rw [hx] at ci
      have ck := HG.out.cell k hk1
      rw [hy] at ck
      have hcs := HBe.out
      unfold BestN at hcs
      by_cases hxy : y < x
      · have HN : Hid (BestN S i (i + 1)) := by
          refine ⟨hlt, .inl (by omega), fun j hj => ?_, fun j hj => ?_⟩
          · have := hcs.2.2.2 j hj; omega
          · by_cases e : j = i
            · rw [e]; omega
            · have := hcs.2.2.2 j (by omega); omega
        clear hx hy hcs
        go_wp2_with fail
        exact ⟨⟨i, i + 1, rfl, by go_num, by omega, HN, trivial⟩, by simp [intOf]; omega⟩
      · have HN : Hid (BestN S k (i + 1)) := by
          refine ⟨hk1, by omega, hcs.2.2.1, fun j hj => ?_⟩
          by_cases e : j = i
          · rw [e]; omega
          · exact hcs.2.2.2 j (by omega)
        clear hx hy hcs
        go_wp2_with fail
        exact ⟨⟨k, i + 1, rfl, by go_num, by omega, HN, trivial⟩, by simp [intOf]; omega⟩
    · obtain rfl : i = 256 := by omega
      have hkb := HBe.out
      have hk1 : k < 256 := hkb.1
      have hh : hd S = UInt8.ofNat k := best_hd ⟨hkb.1, hkb.2.2.1, hkb.2.2.2⟩
      have HH : Hid ((hd S).toNat = k) := by unfold Hid; rw [hh, UInt8.toNat_ofNat']; omega
      clear hkb hh
      go_wp2_with fail
      go_ret
      exact ⟨by rw [HH.out]; rfl, HB7.out⟩
end Go.Proofs.Ytomiligjcpmnjaa
