/- WALK of layer 21: the law CoreAgain. -/
import Derived.Test.YtclgcfofgiejgaaDoorCoy
import Derived.Test.YtclgcfofgiejgaaDoorKi
namespace Go.Proofs.YtclgcfofgiejgaaDoor
set_option maxRecDepth 100000
open Go.RowKit
set_option linter.unusedVariables false
set_option linter.unusedSimpArgs false

abbrev cfR : Cf := cfG 3 0 3 0 16
/-- three players; what was pressed, when the last one was heard, what it has -/
def stR (bs : List UInt8) (he h ck : Nat) : Pl := ⟨[bs, [], []], ck, [⟨0, 0, 0, 0, false⟩, ⟨0, 0, 0, 0, false⟩, ⟨he, h, 0, 0, false⟩], [], [], false⟩
theorem stR_new : newP cfR = stR [] 0 0 0 := rfl
theorem stR_press (bs : List UInt8) (hb : bs.length < 16) (b : UInt8) : pressP cfR (stR bs 0 0 0) b = (0, stR (bs ++ [b]) 0 0 0) := by
  have hh : (stR bs 0 0 0).head cfR = bs.length := rfl
  have hf : frontP (stR bs 0 0 0).L = 0 := by
    show frontP [bs, [], []] = 0
    unfold frontP
    simp
  unfold pressP
  rw [hh, hf, if_neg (show ¬ (stR bs 0 0 0).cl = true from fun e => by cases e), if_neg (by omega), if_neg (show ¬ cfR.wi ≤ bs.length - 0 from by show ¬ 16 ≤ bs.length - 0; omega)]
  rfl
theorem stR_recv (bs : List UInt8) (he h ck a : Nat) : recvP cfR (stR bs he h ck) (some ⟨1, 2, 0, 3, 0, (a : Int), 0, 0, []⟩) = (0, stR bs ck (if a ≤ bs.length then max h a else h) ck) := by
  rw [recv_in rfl ⟨rfl, show (2 : Int) < 3 by decide, rfl⟩ rfl]
  have hl : learnP cfR (hearP (stR bs he h ck) (2 : Int).toNat) ⟨1, 2, 0, 3, 0, (a : Int), 0, 0, []⟩ = stR bs ck (if a ≤ bs.length then max h a else h) ck := by
    show (⟨[bs, [], []], ck, [⟨0, 0, 0, 0, false⟩, ⟨0, 0, 0, 0, false⟩, learnPr bs.length ⟨ck, h, 0, 0, false⟩ ⟨1, 2, 0, 3, 0, (a : Int), 0, 0, []⟩], [], [], false⟩ : Pl) = _
    unfold learnPr
    dsimp only
    by_cases hc : a ≤ bs.length
    · rw [if_pos hc, if_pos (by omega), if_neg (by omega), if_neg (by omega)]; rfl
    · rw [if_neg hc, if_neg (by omega), if_neg (by omega), if_neg (by omega)]; rfl
  show (0, heldN (learnP cfR (hearP (stR bs he h ck) (2 : Int).toNat) ⟨1, 2, 0, 3, 0, (a : Int), 0, 0, []⟩) 3) = _
  rw [hl, held_same (fun x _ => not_bad0 rfl x) 3]
def xsR (bs : List UInt8) (h : Nat) : List (Nat × List UInt8) := [(1, encC 1 ((0 : Nat) : Int) ((1 : Nat) : Int) 3 ((0 : Nat) : Int) ((0 : Nat) : Int) ((0 : Nat) : Int) 0 ((bs.drop 0).take 32)), (2, encC 1 ((0 : Nat) : Int) ((2 : Nat) : Int) 3 (h : Int) ((0 : Nat) : Int) ((0 : Nat) : Int) 0 ((bs.drop h).take 32))]
theorem stR_late (bs : List UInt8) (he h ck : Nat) (h1 : ck + 1 < 40) : lateP cfR { stR bs he h ck with ck := (stR bs he h ck).ck + 1 } = none := by
  have e1 : decide (0 + 40 ≤ ck + 1) = false := by simp; omega
  have e2 : decide (he + 40 ≤ ck + 1) = false := by simp; omega
  show List.find? (isLate cfR { stR bs he h ck with ck := ck + 1 }) [0, 1, 2] = none
  have f0 : isLate cfR { stR bs he h ck with ck := ck + 1 } 0 = false := rfl
  have f1 : isLate cfR { stR bs he h ck with ck := ck + 1 } 1 = decide (0 + 40 ≤ ck + 1) := rfl
  have f2 : isLate cfR { stR bs he h ck with ck := ck + 1 } 2 = decide (he + 40 ≤ ck + 1) := rfl
  rw [List.find?_cons, f0, List.find?_cons, f1, e1, List.find?_cons, f2, e2]
  rfl
theorem stR_tick (bs : List UInt8) (he h ck : Nat) (h1 : ck + 1 < 40) : tickP cfR (stR bs he h ck) = (xsR bs h, stR bs he h (ck + 1)) := by
  unfold tickP
  rw [if_neg (show ¬ (stR bs he h ck).cl = true from fun e => by cases e), stR_late bs he h ck h1]
  rfl
theorem stR_ok (bs : List UInt8) (he h ck : Nat) (hb : bs.length ≤ 16) (hh : h ≤ 1000) (h1 : he ≤ 100) (h2 : ck ≤ 100) : Ok cfR 100 (stR bs he h ck) := by
  refine ⟨rfl, fun l hl => ?_, rfl, fun x hx => ?_, h2, Nat.zero_le _, fun m hm => (by cases hm), Nat.zero_le _⟩
  · have : l = bs ∨ l = [] := by simpa [stR] using hl
    rcases this with rfl | rfl
    · omega
    · simp
  · have hx2 : x = ⟨0, 0, 0, 0, false⟩ ∨ x = ⟨he, h, 0, 0, false⟩ := by simpa [stR] using hx
    rcases hx2 with rfl | rfl
    · exact ⟨Nat.zero_le _, by decide, by decide, by decide, by decide⟩
    · exact ⟨h1, hh, by show 0 ≤ 1000; omega, by show (0 : Int) ≤ 0; omega, by show (0 : Int) ≤ _; omega⟩
theorem way20 (z : Int) : ∃ (t : Int) (F : Nat), z.tmod 20 = t ∧ -20 < t ∧ t < 20 ∧ (t + 20).tmod 20 = (F : Int) ∧ (t + 20) % 20 = (F : Int) ∧ F < 20 := by
  have h1 : z.tmod 20 < 20 := Int.tmod_lt_of_pos _ (by omega)
  have h2 : -20 < z.tmod 20 := by
    have := Int.lt_tmod_of_pos z (b := 20) (by omega)
    exact this
  have h3 : 0 ≤ (z.tmod 20 + 20) % 20 := Int.emod_nonneg _ (by omega)
  have h4 : (z.tmod 20 + 20) % 20 < 20 := Int.emod_lt_of_pos _ (by omega)
  refine ⟨_, ((z.tmod 20 + 20) % 20).toNat, rfl, h2, h1, ?_, ?_, by omega⟩
  · rw [Int.tmod_eq_emod_of_nonneg (by omega)]; omega
  · omega
set_option maxHeartbeats 4000000 in
theorem again21_law (A : Option Addr) (l : List UInt8) (n c : Nat) (A1 : Option Addr) (zs : List Int) (n1 c1 : Nat) (w : World) (hT : TabW w) (hr : RB w w.heap.size A l) (hn : l.length = n) (hc : n ≤ c) (hm : c ≤ maxLen) (hr1 : RI w w.heap.size A1 zs) (hn1 : zs.length = n1) (hc1 : n1 ≤ c1) (hm1 : c1 ≤ maxLen) (hz : ∀ z ∈ zs, -9223372036854775808 ≤ z ∧ z ≤ 9223372036854775807) :
    Calls Tryd.prog 6 #[.slice A n c, .slice A1 n1 c1] w fun e w' => e = .returned (.bool true) ∧ Below w.heap.size w w' := by
  have HB := Lib.hid (begun21_any w hT)
  obtain ⟨x, hx⟩ : ∃ x, l.take 16 = x := ⟨_, rfl⟩
  obtain ⟨X, hX⟩ : ∃ X, x.length = X := ⟨_, rfl⟩
  have hX2 : X ≤ 16 ∧ X ≤ c := by rw [← hx, List.length_take] at hX; omega
  obtain ⟨hX16, hXc⟩ := hX2
  have HS := Lib.hid (fun W => short_n A l n c 16 W hn (by omega) hc hm X (by rw [hx, hX]) 16 rfl)
  have HRX : Hid (RB w w.heap.size A x) := by show RB _ _ _ _; rw [← hx]; exact hr.take 16
  have HX := Lib.hid hX; have HT := Lib.hid hT; have HM := Lib.hid hm; have HXC := Lib.hid hXc; have H16 := Lib.hid hX16
  have HR1 := Lib.hid hr1; have HN1 := Lib.hid hn1; have HZ := Lib.hid hz
  have hcm : cfR.may := cfG_may (by omega) (by omega) (by omega) (by omega) (by omega) (by omega) (by omega) (by omega)
  have HF := Lib.hid (may_fit hcm)
  have HNew := Lib.hid (fun W (hb : Below w.heap.size w W) => at_new (w0 := w) (w := W) (O := noB) hb (no_noB _ _) cfR hcm)
  unfold Cf.v cfV at HNew
  rw [stR_new] at HNew
  obtain ⟨s0, hs0⟩ : ∃ s0, str x = s0 := ⟨_, rfl⟩
  have HS0 := Lib.hid hs0
  clear hT hr hn hm hx hX hcm hc hr1 hn1 hc1 hm1 hz hs0
  go_enter Tryd.func6, Tryd.ntmps6
  go_wp2_with (first
    | (go_at_call 12; (refine HB.out.mono ?_); rintro en w1 ⟨rfl, hb⟩; have HB1 := Lib.hid hb; clear hb)
    | (go_at_call 28; (refine (HS.out _).mono ?_); rintro e w2 ⟨rfl, rfl⟩)
    | (go_at_call 13; (refine (HNew.out _ HB1.out).mono ?_); rintro en w2 ⟨cc, q, rfl, ha, -⟩; have HA2 := Lib.hid ha; clear ha HNew))
  go_loopw [8] (fun ii wr => ∃ k : Nat, ii = .int .i64 (k : Int) ∧ k ≤ X ∧ Hid (At w wr cfR cc q (stR (x.take k) 0 0 0) noB)) (fun ii _ => X - (intOf ii).toNat)
  case atStart => exact ⟨0, rfl, by omega, HA2⟩
  case round =>
    obtain ⟨k, rfl, hk, HA⟩ := hrel
    by_cases hlt : k < X
    · have hkX : (k : Int) < (X : Int) := by omega
      have hk2 : Hid (k + 1 ≤ X) := hlt
      have hms : Hid (X - (k + 1) < X - k) := by show _ < _; omega
      obtain ⟨b, off, rfl, hbl, hbc⟩ := HRX.out (by rw [HX.out]; omega)
      have hkx : k < x.length := by rw [HX.out]; exact hlt
      have cx := (HA.out.be.cell (p := ⟨b, off + k, none⟩) hbl).trans (hbc k hkx)
      obtain ⟨v, hv⟩ : ∃ v, x[k]'hkx = v := ⟨_, rfl⟩
      rw [hv] at cx
      have htk : x.take (k + 1) = x.take k ++ [v] := by rw [take_snoc x k v (by rw [List.getElem?_eq_getElem hkx, hv])]
      have hlk : (x.take k).length < 16 := by rw [List.length_take]; omega
      have HPR := Lib.hid (at_press HF.out HA.out (stR_ok (x.take k) 0 0 0 (by omega) (by omega) (by omega) (by omega)) v 0 _ (stR_press (x.take k) hlk v))
      rw [← htk] at HPR
      unfold vb at cx HPR
      clear hbl hbc hv htk hlk
      go_wp2_with (first | (go_at_call 21; (refine HPR.out.mono ?_); rintro en w3 ⟨rfl, ha, -⟩; have HA3 := Lib.hid ha; clear ha))
      go_roundw
      case rel => exact ⟨k + 1, by go_num, hk2.out, HA3⟩
      case measure => simp [intOf]; have := hms.out; omega
    · obtain rfl : X = k := by omega
      have HA3 : Hid (At w wr cfR cc q (stR x 0 0 0) noB) := by have h := HA.out; rw [← HX.out, List.take_length] at h; exact h
      clear HA
      go_wp2_with fail
      go_loopw [9, 10, 11, 12, 13, 14, 15, 16] (fun had ii aa ll pp oo qq o2 wr2 => ∃ (j h he : Nat), ii = .int .i64 (j : Int) ∧ had = .int .i64 (h : Int) ∧ j ≤ 20 ∧ j ≤ n1 ∧ h ≤ X ∧ he ≤ 20 ∧ Hid (At w wr2 cfR cc q (stR x he h j) noB)) (fun _ ii _ _ _ _ _ _ _ => n1 - (intOf ii).toNat)
      case atStart => exact ⟨0, 0, 0, rfl, rfl, by omega, by omega, by omega, by omega, HA3⟩
      case round =>
        obtain ⟨j, h, he, rfl, rfl, hj, hj1, hhX, hhe, HA⟩ := hrel
        by_cases hjn : j < n1
        · have hjni : (j : Int) < (n1 : Int) := by omega
          by_cases hj20 : j < 20
          · have hj20i : (j : Int) < 20 := by omega
            obtain ⟨b1, off1, rfl, hbl1, hbc1⟩ := HR1.out (by rw [HN1.out]; omega)
            have hjz : j < zs.length := by rw [HN1.out]; exact hjn
            have cz := (HA.out.be.cell (p := ⟨b1, off1 + j, none⟩) hbl1).trans (hbc1 j hjz)
            obtain ⟨z, hzz⟩ : ∃ z, zs[j]'hjz = z := ⟨_, rfl⟩
            rw [hzz] at cz
            have hzb := HZ.out z (by rw [← hzz]; exact List.getElem_mem _)
            obtain ⟨t, a, u1, u2, u3, u4, u5, ha20⟩ := way20 z
            have hjk2 : Hid (j + 1 ≤ 20 ∧ j + 1 ≤ n1) := ⟨hj20, hjn⟩
            have hms : Hid (n1 - (j + 1) < n1 - j) := by show _ < _; omega
            obtain ⟨h2, hh2⟩ : ∃ h2, (if a ≤ x.length then max h a else h) = h2 := ⟨_, rfl⟩
            rw [HX.out] at hh2
            have hcase : (a ≤ X ∧ max h a = h2) ∨ (X < a ∧ h = h2) := by
              by_cases hax : a ≤ X
              · rw [if_pos hax] at hh2; exact .inl ⟨hax, hh2⟩
              · rw [if_neg hax] at hh2; exact .inr ⟨by omega, hh2⟩
            have hh2X : h2 ≤ X := by omega
            obtain ⟨L1, hL1⟩ : ∃ L1, (encC 1 2 0 3 0 a 0 0 []).length = L1 := ⟨_, rfl⟩
            have HL1 := Lib.hid hL1
            have HL1b : Hid (L1 ≤ 4096) := by show _ ≤ _; have := enc_short 1 2 0 3 0 a 0 0 []; omega
            have HP1 := Lib.hid (refpk_nil 2 0 3 a 0 0 ⟨by omega, by omega⟩ L1 hL1)
            have HI1 : Hid (Told (encC 1 2 0 3 0 a 0 0 []) (some ⟨1, 2, 0, 3, 0, (a : Int), 0, 0, []⟩)) := is_in (f := 2) (t := 0) (ac := a) (fr := 0) (by omega) (by omega) (by omega) ⟨by omega, by omega⟩ (by omega) (by omega) (by simp) ⟨by omega, by omega⟩
            have HRV : Hid (recvP cfR (stR x he h j) (some ⟨1, 2, 0, 3, 0, (a : Int), 0, 0, []⟩) = (0, stR x j h2 j)) := by show _ = _; rw [stR_recv, HX.out, hh2]
            have HO0 : Hid (Ok cfR 100 (stR x he h j)) := stR_ok x he h j (by rw [HX.out]; exact H16.out) (by omega) (by omega) (by omega)
            have HO1 : Hid (Ok cfR 100 (stR x j h2 j)) := stR_ok x j h2 j (by rw [HX.out]; exact H16.out) (by omega) (by omega) (by omega)
            have HTI : Hid (tickP cfR (stR x j h2 j) = (xsR x h2, stR x j h2 (j + 1))) := stR_tick x j h2 j (by omega)
            obtain ⟨pr, hpr⟩ : ∃ pr, (x.drop h2).take 32 = pr := ⟨_, rfl⟩
            have hpr2 : pr = x.drop h2 := by rw [← hpr]; exact List.take_of_length_le (by rw [List.length_drop, HX.out]; omega)
            obtain ⟨D, hD⟩ : ∃ D, X - h2 = D := ⟨_, rfl⟩
            have hprl : pr.length = D := by rw [hpr2, List.length_drop, HX.out, hD]
            obtain ⟨y, hy⟩ : ∃ y, encC 1 ((0 : Nat) : Int) ((2 : Nat) : Int) 3 (h2 : Int) ((0 : Nat) : Int) ((0 : Nat) : Int) 0 pr = y := ⟨_, rfl⟩
            obtain ⟨y1, hy1⟩ : ∃ y1, encC 1 ((0 : Nat) : Int) ((1 : Nat) : Int) 3 ((0 : Nat) : Int) ((0 : Nat) : Int) ((0 : Nat) : Int) 0 x = y1 := ⟨_, rfl⟩
            have HXS : Hid (xsR x h2 = [(1, y1), (2, y)]) := by show _ = _; unfold xsR; rw [hpr, hy, List.drop_zero, List.take_of_length_le (by rw [HX.out]; omega), hy1]
            have HIS : Hid (IsK y ⟨1, ((0 : Nat) : Int), ((2 : Nat) : Int), 3, (h2 : Int), ((0 : Nat) : Int), ((0 : Nat) : Int), 0, pr⟩) := by show IsK _ _; rw [← hy]; exact is_in2 (by omega) (by omega) (by omega) ⟨by omega, by omega⟩ (by omega) (by omega) (by omega) (by omega) ⟨by omega, by omega⟩
            have HIS1 : Hid (IsK y1 ⟨1, ((0 : Nat) : Int), ((1 : Nat) : Int), 3, ((0 : Nat) : Int), ((0 : Nat) : Int), ((0 : Nat) : Int), 0, x⟩) := by show IsK _ _; rw [← hy1]; exact is_in2 (by omega) (by omega) (by omega) ⟨by omega, by omega⟩ (by omega) (by omega) (by omega) (by rw [HX.out]; omega) ⟨by omega, by omega⟩
            have HYL : Hid (y.length ≤ 4096) := by show _ ≤ _; rw [← hy]; have := enc_short 1 ((0 : Nat) : Int) ((2 : Nat) : Int) 3 (h2 : Int) ((0 : Nat) : Int) ((0 : Nat) : Int) 0 pr; omega
            have HYL1 : Hid (y1.length ≤ 4096) := by show _ ≤ _; rw [← hy1]; have := enc_short 1 ((0 : Nat) : Int) ((1 : Nat) : Int) 3 ((0 : Nat) : Int) ((0 : Nat) : Int) ((0 : Nat) : Int) 0 x; omega
            have HPRD := Lib.hid hpr2
            obtain ⟨s1, hs1⟩ : ∃ s1, str pr = s1 := ⟨_, rfl⟩
            have HS1 := Lib.hid hs1
            have HDD := Lib.hid hD
            clear hL1 hh2 hpr hpr2 hprl hy hy1 hs1 hbl1 hbc1 hzz hD
            rcases hcase with ⟨hax, hmx⟩ | ⟨hax, hmx⟩
            · have hai : (a : Int) ≤ (X : Int) := by omega
              have hmi : max (h : Int) (a : Int) = (h2 : Int) := by omega
              go_wp2_with (first
                | (go_at_call 15; (refine (HP1.out _).mono ?_); rintro en w4 ⟨A5, c5, rfl, q1, q2, q3, hb⟩; have HA5 := Lib.hid (HA.out.belows hb); have H51 := Lib.hid q1; have H52 := Lib.hid q2; have H53 := Lib.hid q3; clear q1 q2 q3 hb)
                | (go_at_call 16; (refine (at_recv HF.out HA5.out HO0.out HT.out (by omega) A5 _ L1 c5 H53.out HL1.out H51.out H52.out HL1b.out _ HI1.out 0 _ HRV.out).mono ?_); rintro en w6 ⟨rfl, ha, -⟩; have HA6 := Lib.hid ha; clear ha)
                | (go_at_call 17; (refine (at_tick HF.out HA6.out HO1.out HT.out (by omega) _ _ HTI.out).mono ?_); rintro en w7 ⟨v7, B7, rfl, ht, ha, -⟩; rw [HXS.out] at ht; obtain ⟨A7, p7, rfl⟩ := ht.form 2 rfl; obtain ⟨g7, M7, n7, c7, rfl, hg7, -, -, k2, r7, l7, q1, q2⟩ := ht.get 0 1 y1 rfl; obtain ⟨g8, M8, n8, c8, e8, -, -, -, k5, r8, l8, q5, q6⟩ := ht.get 1 2 y rfl; injection e8 with e8; injection e8 with e8; subst e8; have HR7 := Lib.hid r7; have HL7 := Lib.hid l7; have HQ1 := Lib.hid q1; have HQ2 := Lib.hid q2; have HR8 := Lib.hid r8; have HL8 := Lib.hid l8; have HQ5 := Lib.hid q5; have HQ6 := Lib.hid q6; have HK5 := Lib.hid k5; have HG7 := Lib.hid hg7; have HA7 := Lib.hid (ha.less (fun k hk => hk.elim) : At w w7 cfR cc q _ noB); clear ht ha r7 l7 q1 q2 r8 l8 q5 q6 k5 hg7)
                | (go_at_call 29; first
                    | (have h99 := HB8.out; clear h99; refine (unp_yes M8 y n8 c8 _ (HR8.out.next HB9.out) HL8.out HQ5.out HQ6.out (by rw [← HL8.out]; exact HYL.out) _ HIS.out).mono ?_; rintro en w10 ⟨A10, n10, c10, rfl, hr10, hl10, hb10⟩; have HR10 := Lib.hid hr10; have HL10 := Lib.hid hl10; have HB10 := Lib.hid hb10; clear hr10 hl10 hb10)
                    | (refine (unp_yes M7 y1 n7 c7 _ HR7.out HL7.out HQ1.out HQ2.out (by rw [← HL7.out]; exact HYL1.out) _ HIS1.out).mono ?_; rintro en w8 ⟨A8, n9, c9, rfl, hr8, hl8, hb8⟩; have HRr8 := Lib.hid hr8; have HLl8 := Lib.hid hl8; have HB8 := Lib.hid hb8; have HB9 := Lib.hid (hb8.alloc hb8.size (pkO 1 0 1 3 0 A8 n9 c9 0 0 0)); have k5' := (HB9.out.cell (p := ⟨g7, 1 * 3 + 2, none⟩) HG7.out).trans HK5.out; clear hr8 hl8 hb8)))
              obtain ⟨PD, hPD⟩ : ∃ PD, (if c = h2 then A else A.map (fun x => x.add h2)) = PD := ⟨_, rfl⟩
              have hD := HDD.out
              obtain ⟨CD, hCD⟩ : ∃ CD, c - h2 = CD := ⟨_, rfl⟩
              obtain ⟨W11, hW11⟩ : ∃ W11, W11 = w10.alloc (pkO 1 0 2 3 (h2 : Int) A10 n10 c10 0 0 0) := ⟨_, rfl⟩
              have HB11 : Hid (Below w10.heap.size w10 W11) := by rw [hW11]; exact (Below.refl _ _).alloc (Nat.le_refl _) _
              have HBA : Hid (Below w7.heap.size w7 W11) := (HB9.out.trans (HB10.out.mono HB9.out.size)).trans (HB11.out.mono (Nat.le_trans HB9.out.size HB10.out.size))
              have HB12 : Hid (Below w.heap.size w W11) := HA7.out.be.trans (HBA.out.mono HA7.out.be.size)
              have HK13 : Hid (PkM W11 w8.heap.size 1 0 1 3 0 A8 n9 c9 0 0 0) := by
                have q := PkM.new w8 1 0 1 3 0 A8 n9 c9 0 0 0
                have q2 := q.below HB10.out q.lt
                exact q2.below HB11.out q2.lt
              have HK15 : Hid (PkM W11 w10.heap.size 1 0 2 3 (h2 : Int) A10 n10 c10 0 0 0) := by rw [hW11]; exact heap_alloc_new w10 _
              have hcv1 : (convert 29 9 (.slice A8 n9 c9)).run Tryd.prog W11.drew = .ok (.string s0) W11.drew := by
                rw [← HS0.out]
                have h9 : RB W11.drew w8.heap.size A8 x := (((HRr8.out.below ((Below.refl w8.heap.size w8).alloc (Nat.le_refl _) _)).below (HB10.out.mono (by simp))).below (HB11.out.mono (by have := HB10.out.size; simp at this; omega))).below (Below.refl _ _).drew
                exact conv_rb h9 n9 c9 HLl8.out
              have hcv0 : (convert 29 9 (.slice A X c)).run Tryd.prog W11.drew = .ok (.string s0) W11.drew := by
                rw [← HS0.out]
                exact conv_rb (HRX.out.below (HB12.out.drew)) X c HX.out
              have hcv3 : (convert 29 9 (.slice A10 n10 c10)).run Tryd.prog W11.drew = .ok (.string s1) W11.drew := by
                rw [← HS1.out]
                exact conv_rb ((HR10.out.below HB11.out).below (Below.refl _ _).drew) n10 c10 HL10.out
              have hcv2 : (convert 29 9 (.slice PD D CD)).run Tryd.prog W11.drew = .ok (.string s1) W11.drew := by
                rw [← HS1.out, HPRD.out, ← hPD]
                have h9 := (HRX.out.below (HB12.out.drew)).cut h2 c (by rw [HX.out]; omega) (by rw [HX.out]; exact HXC.out)
                exact conv_rb h9 D CD (by rw [List.length_drop, HX.out]; exact hD)
              obtain ⟨-, -, z2, -, z4, z5, -, -, -⟩ := HK13.out.c
              obtain ⟨-, -, v2, -, v4, v5, -, -, -⟩ := HK15.out.c
              have HW11 := Lib.hid hW11
              rw [← HW11.out]
              have HAF := Lib.hid (HA7.out.belows HBA.out.drew)
              clear hW11 HW11
              go_big_region
              go_wp2_with fail
              go_roundw
              case rel => exact ⟨j + 1, h2, j, by go_num, rfl, hjk2.out.1, hjk2.out.2, by omega, by omega, HAF⟩
              case measure => simp [intOf]; have := hms.out; omega
            · have hai : (X : Int) < (a : Int) := by omega
              have had : decide ((a : Int) ≤ (X : Int)) = false := by simp; omega
              have hae : decide (a ≤ X) = false := by simp; omega
              obtain rfl : h2 = h := hmx.symm
              go_wp2_with (first
                | (go_at_call 15; (refine (HP1.out _).mono ?_); rintro en w4 ⟨A5, c5, rfl, q1, q2, q3, hb⟩; have HA5 := Lib.hid (HA.out.belows hb); have H51 := Lib.hid q1; have H52 := Lib.hid q2; have H53 := Lib.hid q3; clear q1 q2 q3 hb)
                | (go_at_call 16; (refine (at_recv HF.out HA5.out HO0.out HT.out (by omega) A5 _ L1 c5 H53.out HL1.out H51.out H52.out HL1b.out _ HI1.out 0 _ HRV.out).mono ?_); rintro en w6 ⟨rfl, ha, -⟩; have HA6 := Lib.hid ha; clear ha)
                | (go_at_call 17; (refine (at_tick HF.out HA6.out HO1.out HT.out (by omega) _ _ HTI.out).mono ?_); rintro en w7 ⟨v7, B7, rfl, ht, ha, -⟩; rw [HXS.out] at ht; obtain ⟨A7, p7, rfl⟩ := ht.form 2 rfl; obtain ⟨g7, M7, n7, c7, rfl, hg7, -, -, k2, r7, l7, q1, q2⟩ := ht.get 0 1 y1 rfl; obtain ⟨g8, M8, n8, c8, e8, -, -, -, k5, r8, l8, q5, q6⟩ := ht.get 1 2 y rfl; injection e8 with e8; injection e8 with e8; subst e8; have HR7 := Lib.hid r7; have HL7 := Lib.hid l7; have HQ1 := Lib.hid q1; have HQ2 := Lib.hid q2; have HR8 := Lib.hid r8; have HL8 := Lib.hid l8; have HQ5 := Lib.hid q5; have HQ6 := Lib.hid q6; have HK5 := Lib.hid k5; have HG7 := Lib.hid hg7; have HA7 := Lib.hid (ha.less (fun k hk => hk.elim) : At w w7 cfR cc q _ noB); clear ht ha r7 l7 q1 q2 r8 l8 q5 q6 k5 hg7)
                | (go_at_call 29; first
                    | (have h99 := HB8.out; clear h99; refine (unp_yes M8 y n8 c8 _ (HR8.out.next HB9.out) HL8.out HQ5.out HQ6.out (by rw [← HL8.out]; exact HYL.out) _ HIS.out).mono ?_; rintro en w10 ⟨A10, n10, c10, rfl, hr10, hl10, hb10⟩; have HR10 := Lib.hid hr10; have HL10 := Lib.hid hl10; have HB10 := Lib.hid hb10; clear hr10 hl10 hb10)
                    | (refine (unp_yes M7 y1 n7 c7 _ HR7.out HL7.out HQ1.out HQ2.out (by rw [← HL7.out]; exact HYL1.out) _ HIS1.out).mono ?_; rintro en w8 ⟨A8, n9, c9, rfl, hr8, hl8, hb8⟩; have HRr8 := Lib.hid hr8; have HLl8 := Lib.hid hl8; have HB8 := Lib.hid hb8; have HB9 := Lib.hid (hb8.alloc hb8.size (pkO 1 0 1 3 0 A8 n9 c9 0 0 0)); have k5' := (HB9.out.cell (p := ⟨g7, 1 * 3 + 2, none⟩) HG7.out).trans HK5.out; clear hr8 hl8 hb8)))
              obtain ⟨PD, hPD⟩ : ∃ PD, (if c = h2 then A else A.map (fun x => x.add h2)) = PD := ⟨_, rfl⟩
              have hD := HDD.out
              obtain ⟨CD, hCD⟩ : ∃ CD, c - h2 = CD := ⟨_, rfl⟩
              obtain ⟨W11, hW11⟩ : ∃ W11, W11 = w10.alloc (pkO 1 0 2 3 (h2 : Int) A10 n10 c10 0 0 0) := ⟨_, rfl⟩
              have HB11 : Hid (Below w10.heap.size w10 W11) := by rw [hW11]; exact (Below.refl _ _).alloc (Nat.le_refl _) _
              have HBA : Hid (Below w7.heap.size w7 W11) := (HB9.out.trans (HB10.out.mono HB9.out.size)).trans (HB11.out.mono (Nat.le_trans HB9.out.size HB10.out.size))
              have HB12 : Hid (Below w.heap.size w W11) := HA7.out.be.trans (HBA.out.mono HA7.out.be.size)
              have HK13 : Hid (PkM W11 w8.heap.size 1 0 1 3 0 A8 n9 c9 0 0 0) := by
                have q := PkM.new w8 1 0 1 3 0 A8 n9 c9 0 0 0
                have q2 := q.below HB10.out q.lt
                exact q2.below HB11.out q2.lt
              have HK15 : Hid (PkM W11 w10.heap.size 1 0 2 3 (h2 : Int) A10 n10 c10 0 0 0) := by rw [hW11]; exact heap_alloc_new w10 _
              have hcv1 : (convert 29 9 (.slice A8 n9 c9)).run Tryd.prog W11.drew = .ok (.string s0) W11.drew := by
                rw [← HS0.out]
                have h9 : RB W11.drew w8.heap.size A8 x := (((HRr8.out.below ((Below.refl w8.heap.size w8).alloc (Nat.le_refl _) _)).below (HB10.out.mono (by simp))).below (HB11.out.mono (by have := HB10.out.size; simp at this; omega))).below (Below.refl _ _).drew
                exact conv_rb h9 n9 c9 HLl8.out
              have hcv0 : (convert 29 9 (.slice A X c)).run Tryd.prog W11.drew = .ok (.string s0) W11.drew := by
                rw [← HS0.out]
                exact conv_rb (HRX.out.below (HB12.out.drew)) X c HX.out
              have hcv3 : (convert 29 9 (.slice A10 n10 c10)).run Tryd.prog W11.drew = .ok (.string s1) W11.drew := by
                rw [← HS1.out]
                exact conv_rb ((HR10.out.below HB11.out).below (Below.refl _ _).drew) n10 c10 HL10.out
              have hcv2 : (convert 29 9 (.slice PD D CD)).run Tryd.prog W11.drew = .ok (.string s1) W11.drew := by
                rw [← HS1.out, HPRD.out, ← hPD]
                have h9 := (HRX.out.below (HB12.out.drew)).cut h2 c (by rw [HX.out]; omega) (by rw [HX.out]; exact HXC.out)
                exact conv_rb h9 D CD (by rw [List.length_drop, HX.out]; exact hD)
              obtain ⟨-, -, z2, -, z4, z5, -, -, -⟩ := HK13.out.c
              obtain ⟨-, -, v2, -, v4, v5, -, -, -⟩ := HK15.out.c
              have HW11 := Lib.hid hW11
              rw [← HW11.out]
              have HAF := Lib.hid (HA7.out.belows HBA.out.drew)
              clear hW11 HW11
              go_big_region
              go_wp2_with fail
              go_roundw
              case rel => exact ⟨j + 1, h2, j, by go_num, rfl, hjk2.out.1, hjk2.out.2, by omega, by omega, HAF⟩
              case measure => simp [intOf]; have := hms.out; omega
          · obtain rfl : j = 20 := by omega
            go_wp2_with fail
            go_ret
            exact ⟨rfl, HA.out.be⟩
        · obtain rfl : n1 = j := by omega
          go_wp2_with fail
          go_ret
          exact ⟨rfl, HA.out.be⟩
end Go.Proofs.YtclgcfofgiejgaaDoor
