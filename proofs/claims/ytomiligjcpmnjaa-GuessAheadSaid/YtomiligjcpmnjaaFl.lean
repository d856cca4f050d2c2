/- THE PROGRAM: ending, weigh, scoresOf, first. -/
import Derived.Test.YtomiligjcpmnjaaFk
import Derived.Test.YtomiligjcpmnjaaKv
import Derived.Test.YtomiligjcpmnjaaKw
namespace Go.Proofs.Ytomiligjcpmnjaa
set_option maxRecDepth 100000
open Go.RowKit
set_option linter.unusedVariables false
set_option linter.unusedSimpArgs false

set_option maxHeartbeats 1000000 in
theorem ending_any (z : Int) (o : Nat) (A : Option Addr) (n c : Nat) (P : Option Addr) (p : List UInt8) (L pc B : Nat) (w : World) (hL : p.length = L) (hc : L ≤ pc) (hm : pc ≤ maxLen) (hp : RB w B P p) (hB : B ≤ w.heap.size) (ho : o ≤ 3) (m : Nat) (hmm : (endN o p).length = m) :
    Calls Try.prog 42 #[byV z o A n c, .slice P L pc] w fun e w' => ∃ A' c', e = .returned (.slice A' m c') ∧ RB w' B A' (endN o p) ∧ Below w.heap.size w w' := by
  unfold maxLen at hm
  by_cases h0 : L ≤ o
  · have he : endN o p = p := by unfold endN; rw [hL, show L - o = 0 by omega]; rfl
    obtain rfl : L = m := by rw [← hmm, he, hL]
    have HR : Hid (RB w B P (endN o p)) := by rw [he]; exact hp
    clear hp he hmm hL
    by_cases hp0 : pc = 0
    · obtain rfl : L = 0 := by omega
      subst hp0
      by_cases h1 : o = 0
      · subst h1
        unfold byV byA
        go_enter Try.func42, Try.ntmps42
        go_wp2_with fail
        go_ret
        have hb : Below w.heap.size w (w.alloc (.cells #[.int .i64 z, .int .i64 0, .slice A n c] 39)) := (Below.refl _ _).alloc (Nat.le_refl _) _
        exact ⟨P, _, rfl, HR.out.below (hb.mono hB), hb⟩
      · have h2 : (0 : Int) - (o : Int) < 0 := by omega
        unfold byV byA
        go_enter Try.func42, Try.ntmps42
        go_wp2_with fail
        go_ret
        have hb : Below w.heap.size w (w.alloc (.cells #[.int .i64 z, .int .i64 (o : Int), .slice A n c] 39)) := (Below.refl _ _).alloc (Nat.le_refl _) _
        exact ⟨P, _, rfl, HR.out.below (hb.mono hB), hb⟩
    · by_cases h1 : L = o
      · have h2 : (L : Int) - (o : Int) = 0 := by omega
        clear h1 h0
        unfold byV byA
        go_enter Try.func42, Try.ntmps42
        go_wp2_with fail
        go_ret
        have hb : Below w.heap.size w (w.alloc (.cells #[.int .i64 z, .int .i64 (o : Int), .slice A n c] 39)) := (Below.refl _ _).alloc (Nat.le_refl _) _
        exact ⟨P, _, rfl, HR.out.below (hb.mono hB), hb⟩
      · obtain ⟨d, hd⟩ : ∃ d : Int, (L : Int) - (o : Int) = d := ⟨_, rfl⟩
        have h2 : d < 0 := by omega
        have hd1 : -9223372036854775808 ≤ d ∧ d ≤ 9223372036854775807 := by omega
        clear h0 h1
        unfold byV byA
        go_enter Try.func42, Try.ntmps42
        go_wp2_with fail
        go_ret
        have hb : Below w.heap.size w (w.alloc (.cells #[.int .i64 z, .int .i64 (o : Int), .slice A n c] 39)) := (Below.refl _ _).alloc (Nat.le_refl _) _
        exact ⟨P, _, rfl, HR.out.below (hb.mono hB), hb⟩
  · obtain ⟨k, hd⟩ : ∃ k : Nat, (L : Int) - (o : Int) = k := ⟨L - o, by omega⟩
    have hk : max (k : Int) 0 = (k : Int) := by omega
    have hkn : k = L - o := by omega
    have hr := hp.cut k pc (by omega) (by omega)
    have he : p.drop k = endN o p := by unfold endN; rw [hkn, hL]
    rw [he] at hr
    have hml : L - k = m := by rw [← hmm, ← he, List.length_drop, hL]
    have HM := Lib.hid hml
    have hkl : k ≤ L := by omega
    by_cases hpk : pc = k
    · rw [if_pos hpk] at hr
      have HR := Lib.hid hr
      subst hpk
      obtain rfl : m = 0 := by omega
      clear hp hr he hkn hml hmm hL h0
      unfold byV byA
      go_enter Try.func42, Try.ntmps42
      go_wp2_with fail
      go_ret
      have hb : Below w.heap.size w (w.alloc (.cells #[.int .i64 z, .int .i64 (o : Int), .slice A n c] 39)) := (Below.refl _ _).alloc (Nat.le_refl _) _
      exact ⟨P, _, rfl, HR.out.below (hb.mono hB), hb⟩
    · rw [if_neg hpk] at hr
      have HR := Lib.hid hr
      clear hp hr he hkn hml hmm hL h0
      unfold byV byA
      go_enter Try.func42, Try.ntmps42
      go_wp2_with fail
      go_ret
      have hb : Below w.heap.size w (w.alloc (.cells #[.int .i64 z, .int .i64 (o : Int), .slice A n c] 39)) := (Below.refl _ _).alloc (Nat.le_refl _) _
      exact ⟨P.map (·.add k), _, by rw [← HM.out]; rfl, HR.out.below (hb.mono hB), hb⟩

theorem str_ne {a b : List UInt8} (h : a ≠ b) : str a ≠ str b := fun e => h (by have := congrArg ByteArray.toList e; rwa [str_toList, str_toList] at this)
/-- a part of a row reads on -/
theorem RB.sub {w : World} {B : Nat} {A : Option Addr} {l : List UInt8} (h : RB w B A l) (a n cap : Nat) (hn : a + n ≤ l.length) (hc : l.length ≤ cap) : RB w B (if cap = a then A else A.map (·.add a)) ((l.drop a).take n) :=
  (h.cut a cap (by omega) hc).take n
theorem RB.cell_ {w : World} {B b off : Nat} {l : List UInt8} (h : RB w B (some ⟨b, off, none⟩) l) (k : Nat) (hk : k < l.length) : w.cell? ⟨b, off + k, none⟩ = some (.int .u8 ((l.getD k 0).toNat : Int)) := by
  obtain ⟨b', off', e, hb, hc⟩ := h (by omega)
  cases e
  rw [hc k hk]
  simp [vb, List.getD, List.getElem?_eq_getElem hk]
def z256 : Nat → Int := fun _ => 0
theorem zeroN (w : World) : (zeroValue 70).run Try.prog w = .ok (.agg (aN z256)) w :=
  (zero_of_info (P := Try.prog) (t := 70) (v := .agg (aN z256)) (n := 256) (by kernel_rfl)).1 w
def byO (z o : Int) (A : Option Addr) (n c : Nat) : Obj := .cells (byA z o A n c) 39
theorem wts_step (o : Nat) (e p : List UInt8) (i X : Nat) (h : o ≤ i) (he : (p.drop (i - o)).take o = e) (hX : (p.getD i 0).toNat = X) : putS (wts o e p i) X (wts o e p i X + 1) = wts o e p (i + 1) := by
  funext v
  have h0 : wts o e p (i + 1) v = wts o e p i v + (if hit o e p i v then 1 else 0) := rfl
  rw [h0]
  unfold putS
  by_cases c : v = X
  · rw [if_pos c, c, if_pos (show hit o e p i X from ⟨h, he, hX⟩)]
  · rw [if_neg c, if_neg (fun hh => c (by rw [← hh.2.2, hX]))]; omega
theorem wts_skip (o : Nat) (e p : List UInt8) (i : Nat) (he : (p.drop (i - o)).take o ≠ e) : wts o e p i = wts o e p (i + 1) := by
  funext v
  have h0 : wts o e p (i + 1) v = wts o e p i v + (if hit o e p i v then 1 else 0) := rfl
  rw [h0, if_neg (fun hh => he hh.2.1)]; omega
/-- the box of a kind and two arrays of zeros, laid one behind the other -/
def w3_ (w : World) (z o : Int) (A : Option Addr) (n c : Nat) (t : TypeId) : World := ((w.alloc (.cells #[.int .i64 z, .int .i64 o, .slice A n c] t)).alloc (.cells (aN z256) 70)).alloc (.cells (aN z256) 70)
structure W3 (w w3 : World) (z o : Int) (A : Option Addr) (n c : Nat) (t : TypeId) : Prop where
  bel : Below w.heap.size w w3
  g1 : GN w3 (w.heap.size + 1) z256
  g2 : GN w3 (w.heap.size + 1 + 1) z256
  sz : w3.heap.size = w.heap.size + 3
  box : w3.heap[w.heap.size]? = some (.cells (byA z o A n c) t (0, 0))
theorem w3_is (w : World) (z o : Int) (A : Option Addr) (n c : Nat) (t : TypeId) : W3 w (w3_ w z o A n c t) z o A n c t := by
  unfold w3_
  refine ⟨(((Below.refl _ _).alloc (Nat.le_refl _) _).alloc (by simp) _).alloc (by simp; omega) _, ?_, ?_, by simp, ?_⟩
  · have := (GN.new (w.alloc (.cells #[.int .i64 z, .int .i64 o, .slice A n c] t)) z256).alloc (.cells (aN z256) 70)
    simpa using this
  · have := GN.new ((w.alloc (.cells #[.int .i64 z, .int .i64 o, .slice A n c] t)).alloc (.cells (aN z256) 70)) z256
    simpa using this
  · have h0 := heap_alloc_last w (.cells #[.int .i64 z, .int .i64 o, .slice A n c] t)
    have h1 := (Below.heap_alloc (w.alloc (.cells #[.int .i64 z, .int .i64 o, .slice A n c] t)) (.cells (aN z256) 70) w.heap.size (by simp)).trans h0
    exact (Below.heap_alloc ((w.alloc (.cells #[.int .i64 z, .int .i64 o, .slice A n c] t)).alloc (.cells (aN z256) 70)) (.cells (aN z256) 70) w.heap.size (by simp; omega)).trans h1
theorem W3.c0 {w w3 w' : World} {z o : Int} {A : Option Addr} {n c : Nat} {t : TypeId} (h : W3 w w3 z o A n c t) (hb : Below (w.heap.size + 1 + 1) w3 w') : w'.cell? ⟨w.heap.size, 0, none⟩ = some (.int .i64 z) :=
  (hb.cell (p := ⟨w.heap.size, 0, none⟩) (by show w.heap.size < _; omega)).trans (cell_of_row _ _ _ _ _ _ h.box)
theorem W3.c1 {w w3 w' : World} {z o : Int} {A : Option Addr} {n c : Nat} {t : TypeId} (h : W3 w w3 z o A n c t) (hb : Below (w.heap.size + 1 + 1) w3 w') : w'.cell? ⟨w.heap.size, 1, none⟩ = some (.int .i64 o) :=
  (hb.cell (p := ⟨w.heap.size, 1, none⟩) (by show w.heap.size < _; omega)).trans (cell_of_row _ _ _ _ _ _ h.box)
set_option maxHeartbeats 2000000 in
theorem weigh_any (b : Kd) (A : Option Addr) (n c : Nat) (P : Option Addr) (p : List UInt8) (L pc : Nat) (w : World) (hok : b.ok) (hL : p.length = L) (hc : L ≤ pc) (hm : pc ≤ maxLen) (hp : RB w w.heap.size P p) (hl : L ≤ 2000) :
    Calls Try.prog 46 #[byV b.k b.o A n c, .slice P L pc] w fun e w' => e = .returned (.agg (aN fun v => if b.k = 2 then wN b.o p v else 0)) ∧ Below w.heap.size w w' := by
  obtain ⟨k, o, tb⟩ := b
  have ho : o ≤ 3 := by unfold Kd.ok at hok; simp only at hok; omega
  have hz := zeroN
  simp only
  have H3 := Lib.hid (w3_is w k o A n c 39)
  obtain ⟨w3, hw3⟩ : ∃ w3, w3_ w k o A n c 39 = w3 := ⟨_, rfl⟩
  rw [hw3] at H3
  unfold w3_ at hw3
  have HW := Lib.hid hw3
  clear hw3
  by_cases hk : k = 2
  · subst hk
    rw [show ((2 : Nat) : Int) = 2 from rfl] at HW H3 ⊢
    simp only [if_true]
    obtain ⟨m, hmm⟩ : ∃ m, (endN o p).length = m := ⟨_, rfl⟩
    have HE := ending_any 2 o A n c P p L pc w.heap.size w3 hL hc hm (hp.below H3.out.bel) (by rw [H3.out.sz]; omega) ho m hmm
    have hfun : (fun v => wN o p v) = fun v => wts o (endN o p) p L v := by funext v; unfold wN; rw [hL]
    rw [hfun]
    obtain ⟨E, hE⟩ : ∃ E, endN o p = E := ⟨_, rfl⟩
    rw [hE] at HE hmm ⊢
    replace HE := Lib.hid HE
    clear hfun hE
    have HP := Lib.hid hp
    have HL := Lib.hid hL
    have HMM := Lib.hid hmm
    unfold maxLen at hm
    rw [← HW.out] at HE
    clear hp hL hmm
    unfold byV byA at HE ⊢
    go_enter Try.func46, Try.ntmps46
    go_wp2_with fail
    (with_reducible refine HE.out.mono ?_)
    rintro e w4 ⟨A4, c4, rfl, hr4, hb4⟩
    rw [HW.out] at hb4
    have hcv := conv_rb hr4 m c4 HMM.out
    have HB0 : Hid (Below w.heap.size w w4) := H3.out.bel.trans (hb4.mono (by rw [H3.out.sz]; omega))
    have HB4 := Lib.hid hb4
    have hb5 : Below (w.heap.size + 1 + 1) w3 w4 := hb4.mono (by rw [H3.out.sz]; omega)
    have c0 := H3.out.c0 hb5
    have c1 := H3.out.c1 hb5
    have HB5 := Lib.hid hb5
    have G1 : Hid (GN w4 (w.heap.size + 1) z256) := H3.out.g1.below hb4 (by rw [H3.out.sz]; omega)
    have G2 : Hid (GN w4 (w.heap.size + 1 + 1) z256) := H3.out.g2.below hb4 (by rw [H3.out.sz]; omega)
    clear hr4 hb4 hb5 HE
    go_wp2_with fail
    go_loopw [7] (fun v wr => ∃ i : Nat, v = .int .i64 i ∧ o ≤ i ∧ (i ≤ L ∨ i = o) ∧ Hid (Below (w.heap.size + 1 + 1) w4 wr) ∧ Hid (GN wr (w.heap.size + 1 + 1) (wts o E p i))) (fun v _ => L - (intOf v).toNat)
    case atStart =>
      have e : wts o E p o = z256 := by funext v; exact wts_low o _ p v o (Nat.le_refl _)
      exact ⟨o, rfl, Nat.le_refl _, .inr rfl, Below.refl _ _, by rw [e]; exact G2⟩
    case round =>
      clear G2 c0 c1 hcv
      obtain ⟨i, rfl, hoi, hiL, HB, HG⟩ := hrel
      have c1 := H3.out.c1 (HB5.out.trans (HB.out.mono (Nat.le_refl _)))
      by_cases hlt : i < L
      · have hltz : (i : Int) < (L : Int) := by omega
        obtain ⟨pb, po, rfl, hpb, -⟩ := HP.out (by rw [HL.out]; omega)
        have HPr : Hid (RB wr w.heap.size (some ⟨pb, po, none⟩) p) := (HP.out.below HB0.out).below (HB.out.mono (by omega))
        obtain ⟨io, hio⟩ : ∃ io : Nat, (i : Int) - (o : Int) = io := ⟨i - o, by omega⟩
        have hne : ¬ pc = io := by omega
        have hio2 : io ≤ i := by omega
        have hipc : i ≤ pc := by omega
        have hlen : i - io = o := by omega
        have HIO : Hid (io = i - o) := by unfold Hid; omega
        have hsub := HPr.out.sub io o pc (by rw [HL.out]; omega) (by rw [HL.out]; exact hc)
        rw [if_neg hne] at hsub
        have hcv := conv_rb hsub o (pc - io) (by rw [List.length_take, List.length_drop, HL.out]; omega)
        simp only [Option.map_some, Addr.add_lit] at hcv
        obtain ⟨x, hx⟩ : ∃ x, (p.drop io).take o = x := ⟨_, rfl⟩
        rw [hx] at hcv
        have HX := Lib.hid hx
        clear hx hsub
        by_cases hxe : x = E
        · subst hxe
          obtain ⟨X, hX⟩ : ∃ X, (p.getD i 0).toNat = X := ⟨_, rfl⟩
          have hX2 : X < 256 := by rw [← hX]; exact UInt8.toNat_lt _
          have cx := HPr.out.cell_ i (by rw [HL.out]; exact hlt)
          rw [hX] at cx
          have gx := HG.out.cell X hX2
          have fx := HG.out.frozen X
          obtain ⟨y, hy⟩ : ∃ y, wts o x p i X = y := ⟨_, rfl⟩
          rw [hy] at gx
          have hb := wts_nonneg o x p X i
          rw [hy] at hb
          have hi2 : (i : Int) ≤ 2000 := by omega
          have HS : Hid (putS (wts o x p i) X (y + 1) = wts o x p (i + 1)) := by rw [← hy]; exact wts_step o x p i X hoi (by rw [← HIO.out]; exact HX.out) hX
          clear hX hy
          go_wp2_with fail
          exact ⟨⟨i + 1, by go_num, by omega, by omega, HB.out.setCell (Nat.le_refl _) _, by rw [← HS.out]; exact HG.out.set X (y + 1)⟩, by simp [intOf]; omega⟩
        · have hs := str_ne hxe
          have hs3 : ((str x).toList == (str E).toList) = false := by rw [str_toList, str_toList]; simpa using hxe
          have HS : Hid (wts o E p i = wts o E p (i + 1)) := wts_skip o E p i (by rw [← HIO.out, HX.out]; exact hxe)
          go_wp2_with fail
          exact ⟨⟨i + 1, by go_num, by omega, by omega, HB, by rw [← HS.out]; exact HG⟩, by simp [intOf]; omega⟩
      · have hltz : ¬ (i : Int) < (L : Int) := by omega
        have hfin : Hid (aN (wts o E p i) = aN fun v => wts o E p L v) := by
          refine aN_congr (fun v _ => ?_)
          rcases hiL with h | h
          · rw [show i = L by omega]
          · rw [h, wts_low o E p v o (Nat.le_refl _), wts_low o E p v L (by omega)]
        have G1b : GN wr (w.heap.size + 1) z256 := G1.out.below HB.out (by omega)
        have G2b := HG.out
        have HB9 : Hid (Below w.heap.size w wr) := HB0.out.trans (HB.out.mono (by omega))
        go_wp2_with (first
          | (with_reducible refine wpList_load_n rfl (.tmp 5) rfl (w.heap.size + 1 + 1) (by with_unfolding_all rfl) (wts o E p i) G2b ?_)
          | (with_reducible refine wpList_store_n rfl (.tmp 4) (.tmp 42) rfl (w.heap.size + 1) (by with_unfolding_all rfl) z256 (wts o E p i) G1b (by with_unfolding_all rfl) ?_; intro w5 G3 S3 R3))
        exact bodyPost_ret (results_n rfl G3 rfl) rfl ⟨by rw [hfin.out], HB9.out.grown R3 HB9.out.size (fun k e => by cases e; omega)⟩
  · have h1 : ((k : Int) != 2) = true := by simp; omega
    simp only [if_neg hk]
    unfold byV byA
    go_enter Try.func46, Try.ntmps46
    go_upto_region 3 with fail
    rw [HW.out]
    have G1 := H3.out.g1
    have G2 := H3.out.g2
    have HB := Lib.hid H3.out.bel
    clear hz
    go_wp2_with (first
      | (with_reducible refine wpList_load_n rfl (.tmp 5) rfl (w.heap.size + 1 + 1) (by with_unfolding_all rfl) z256 G2 ?_)
      | (with_reducible refine wpList_store_n rfl (.tmp 4) (.tmp 11) rfl (w.heap.size + 1) (by with_unfolding_all rfl) z256 z256 G1 (by with_unfolding_all rfl) ?_; intro w5 G3 S3 R3))
    exact bodyPost_ret (results_n rfl G3 rfl) rfl ⟨rfl, HB.out.grown R3 HB.out.size (fun k e => by cases e; omega)⟩
end Go.Proofs.Ytomiligjcpmnjaa
