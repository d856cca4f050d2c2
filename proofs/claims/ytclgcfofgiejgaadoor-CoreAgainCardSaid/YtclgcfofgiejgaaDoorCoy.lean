/- WALK of layer 21: the law CoreSends. -/
import Derived.Test.YtclgcfofgiejgaaDoorCox
namespace Go.Proofs.YtclgcfofgiejgaaDoor
set_option maxRecDepth 100000
open Go.RowKit
set_option linter.unusedVariables false
set_option linter.unusedSimpArgs false

/-- two players; what was pressed, what the other one has -/
def stP (bs : List UInt8) (h ck : Nat) : Pl := ⟨[bs, []], ck, [⟨0, 0, 0, 0, false⟩, ⟨0, h, 0, 0, false⟩], [], [], false⟩
theorem stP_new : newP cfW = stP [] 0 0 := rfl
theorem stP_press (bs : List UInt8) (h : Nat) (hb : bs.length < 16) (b : UInt8) : pressP cfW (stP bs h 0) b = (0, stP (bs ++ [b]) h 0) := by
  have hh : (stP bs h 0).head cfW = bs.length := rfl
  have hf : frontP (stP bs h 0).L = 0 := by
    show frontP [bs, []] = 0
    unfold frontP
    simp
  unfold pressP
  rw [hh, hf, if_neg (show ¬ (stP bs h 0).cl = true from fun e => by cases e), if_neg (by omega), if_neg (show ¬ cfW.wi ≤ bs.length - 0 from by show ¬ 16 ≤ bs.length - 0; omega)]
  rfl
theorem not_bad0 {s : Pl} (h : s.ms = []) (x : Pr) : ¬ Bad s x := fun hb => by
  have h1 := hb.2.1; have h2 := hb.2.2.1
  rw [h] at h2
  simp at h2
  omega
theorem stP_recv (bs : List UInt8) (h a : Nat) : recvP cfW (stP bs h 0) (some ⟨1, 1, 0, 3, 0, (a : Int), 0, 0, []⟩) = (0, stP bs (if a ≤ bs.length then max h a else h) 0) := by
  rw [recv_in rfl ⟨rfl, show (1 : Int) < 2 by decide, rfl⟩ rfl]
  have hl : learnP cfW (hearP (stP bs h 0) (1 : Int).toNat) ⟨1, 1, 0, 3, 0, (a : Int), 0, 0, []⟩ = stP bs (if a ≤ bs.length then max h a else h) 0 := by
    show (⟨[bs, []], 0, [⟨0, 0, 0, 0, false⟩, learnPr bs.length ⟨0, h, 0, 0, false⟩ ⟨1, 1, 0, 3, 0, (a : Int), 0, 0, []⟩], [], [], false⟩ : Pl) = _
    unfold learnPr
    dsimp only
    by_cases hc : a ≤ bs.length
    · rw [if_pos hc, if_pos (by omega), if_neg (by omega), if_neg (by omega)]; rfl
    · rw [if_neg hc, if_neg (by omega), if_neg (by omega), if_neg (by omega)]; rfl
  show (0, heldN (learnP cfW (hearP (stP bs h 0) (1 : Int).toNat) ⟨1, 1, 0, 3, 0, (a : Int), 0, 0, []⟩) 2) = _
  rw [hl, held_same (fun x _ => not_bad0 rfl x) 2]
def xsP (bs : List UInt8) (h : Nat) : List (Nat × List UInt8) := [(1, encC 1 ((0 : Nat) : Int) ((1 : Nat) : Int) 3 (h : Int) ((0 : Nat) : Int) ((0 : Nat) : Int) 0 ((bs.drop h).take 32))]
theorem stP_tick (bs : List UInt8) (h : Nat) : tickP cfW (stP bs h 0) = (xsP bs h, stP bs h 1) := rfl
theorem stP_ok (bs : List UInt8) (h : Nat) (hb : bs.length ≤ 16) (hh : h ≤ 1000) : Ok cfW 0 (stP bs h 0) := by
  refine ⟨rfl, fun l hl => ?_, rfl, fun x hx => ?_, Nat.le_refl _, Nat.zero_le _, fun m hm => (by cases hm), Nat.le_refl _⟩
  · have : l = bs ∨ l = [] := by simpa [stP] using hl
    rcases this with rfl | rfl
    · omega
    · simp
  · have hx2 : x = ⟨0, 0, 0, 0, false⟩ ∨ x = ⟨0, h, 0, 0, false⟩ := by simpa [stP] using hx
    rcases hx2 with rfl | rfl
    · exact ⟨Nat.le_refl _, by decide, by decide, by decide, by decide⟩
    · exact ⟨Nat.le_refl _, hh, by show 0 ≤ 1000; omega, by show (0 : Int) ≤ 0; omega, by show (0 : Int) ≤ _; omega⟩
theorem is_in2 {f t fi ac fr : Nat} {id su : Int} {l : List UInt8} (h1 : f ≤ 7) (h2 : t ≤ 7) (h3 : f ≠ t) (h4 : 0 ≤ id ∧ id ≤ 1000) (h0 : fi ≤ 1000) (h5 : ac ≤ 1000) (h6 : fr ≤ 1000) (h7 : l.length ≤ 32) (h8 : 0 ≤ su ∧ su ≤ 4294967295) : IsK (encC 1 f t id fi ac fr su l) ⟨1, f, t, id, fi, ac, fr, su, l⟩ := by
  have hm : mayC 1 f t id fi ac fr su l.length := by unfold mayC; omega
  exact ⟨hm, h8, by unfold encC; rw [if_pos hm]; rfl⟩
set_option maxHeartbeats 1000000 in
theorem sends21_law (A : Option Addr) (l : List UInt8) (n c : Nat) (ack : Int) (w : World) (hT : TabW w) (hr : RB w w.heap.size A l) (hn : l.length = n) (hc : n ≤ c) (hm : c ≤ maxLen) :
    Calls Tryd.prog 8 #[.slice A n c, .int .i64 ack] w fun e w' => e = .returned (.bool true) ∧ Below w.heap.size w w' := by
  have HB := Lib.hid (begun21_any w hT)
  obtain ⟨x, hx⟩ : ∃ x, l.take 16 = x := ⟨_, rfl⟩
  obtain ⟨X, hX⟩ : ∃ X, x.length = X := ⟨_, rfl⟩
  have hX2 : X ≤ 16 ∧ X ≤ c := by rw [← hx, List.length_take] at hX; omega
  obtain ⟨hX16, hXc⟩ := hX2
  have HS := Lib.hid (fun W => short_n A l n c 16 W hn (by omega) hc hm X (by rw [hx, hX]) 16 rfl)
  have HRX : Hid (RB w w.heap.size A x) := by show RB _ _ _ _; rw [← hx]; exact hr.take 16
  have HX := Lib.hid hX; have HT := Lib.hid hT; have HM := Lib.hid hm; have HXC := Lib.hid hXc; have H16 := Lib.hid hX16
  have hcm : cfW.may := cfG_may (by omega) (by omega) (by omega) (by omega) (by omega) (by omega) (by omega) (by omega)
  have HF := Lib.hid (may_fit hcm)
  have HNew := Lib.hid (fun W (hb : Below w.heap.size w W) => at_new (w0 := w) (w := W) (O := noB) hb (no_noB _ _) cfW hcm)
  unfold Cf.v cfV at HNew
  rw [stP_new] at HNew
  clear hT hr hn hm hx hX hcm hc
  go_enter Tryd.func8, Tryd.ntmps8
  go_wp2_with (first
    | (go_at_call 12; (refine HB.out.mono ?_); rintro en w1 ⟨rfl, hb⟩; have HB1 := Lib.hid hb; clear hb)
    | (go_at_call 28; (refine (HS.out _).mono ?_); rintro e w2 ⟨rfl, rfl⟩)
    | (go_at_call 13; (refine (HNew.out _ HB1.out).mono ?_); rintro en w2 ⟨cc, q, rfl, ha, -⟩; have HA2 := Lib.hid ha; clear ha HNew))
  go_loopw [8] (fun ii wr => ∃ k : Nat, ii = .int .i64 (k : Int) ∧ k ≤ X ∧ Hid (At w wr cfW cc q (stP (x.take k) 0 0) noB)) (fun ii _ => X - (intOf ii).toNat)
  case atStart => exact ⟨0, rfl, by omega, HA2⟩
  case round =>
    obtain ⟨k, rfl, hk, HA⟩ := hrel
    by_cases hlt : k < X
    · have hkX : (k : Int) < (X : Int) := by omega
      have hk2 : Hid (k + 1 ≤ X) := hlt
      have hms : Hid (X - (k + 1) < X - k) := by show _ < _; omega
      obtain ⟨b, off, rfl, hbl, hbc⟩ := HRX.out (by rw [HX.out]; omega)
      have hkx : k < x.length := by rw [HX.out]; exact hlt
      have cx := (HA.out.be.cell (p := ⟨b, off + k, none⟩) hbl).trans (hbc k hkx)
      obtain ⟨v, hv⟩ : ∃ v, x[k]'hkx = v := ⟨_, rfl⟩
      rw [hv] at cx
      have htk : x.take (k + 1) = x.take k ++ [v] := by rw [take_snoc x k v (by rw [List.getElem?_eq_getElem hkx, hv])]
      have hlk : (x.take k).length < 16 := by rw [List.length_take]; omega
      have HPR := Lib.hid (at_press HF.out HA.out (stP_ok (x.take k) 0 (by omega) (by omega)) v 0 _ (stP_press (x.take k) 0 hlk v))
      rw [← htk] at HPR
      unfold vb at cx HPR
      clear hbl hbc hv htk hlk
      go_wp2_with (first | (go_at_call 21; (refine HPR.out.mono ?_); rintro en w3 ⟨rfl, ha, -⟩; have HA3 := Lib.hid ha; clear ha))
      go_roundw
      case rel => exact ⟨k + 1, by go_num, hk2.out, HA3⟩
      case measure => simp [intOf]; have := hms.out; omega
    · obtain rfl : X = k := by omega
      have HA3 : Hid (At w wr cfW cc q (stP x 0 0) noB) := by have h := HA.out; rw [← HX.out, List.take_length] at h; exact h
      clear HA
      by_cases g0 : ack < 0
      · go_wp2_with fail
        go_ret
        exact ⟨rfl, HA3.out.be⟩
      by_cases g1 : 1000 < ack
      · go_wp2_with fail
        go_ret
        exact ⟨rfl, HA3.out.be⟩
      obtain ⟨a, rfl⟩ : ∃ a : Nat, ack = a := ⟨ack.toNat, by omega⟩
      obtain ⟨L1, hL1⟩ : ∃ L1, (encC 1 1 0 3 0 a 0 0 []).length = L1 := ⟨_, rfl⟩
      have HL1 := Lib.hid hL1
      have HL1b : Hid (L1 ≤ 4096) := by show _ ≤ _; have := enc_short 1 1 0 3 0 a 0 0 []; omega
      have HP1 := Lib.hid (refpk_nil 1 0 3 a 0 0 ⟨by omega, by omega⟩ L1 hL1)
      have HI1 : Hid (Told (encC 1 1 0 3 0 a 0 0 []) (some ⟨1, 1, 0, 3, 0, (a : Int), 0, 0, []⟩)) := is_in (f := 1) (t := 0) (ac := a) (fr := 0) (by omega) (by omega) (by omega) ⟨by omega, by omega⟩ (by omega) (by omega) (by simp) ⟨by omega, by omega⟩
      obtain ⟨H, hH⟩ : ∃ H, (if a ≤ x.length then max 0 a else 0) = H := ⟨_, rfl⟩
      have hHx : H ≤ X := by rw [← hH]; split <;> (try omega); rw [HX.out] at *; omega
      have HR1 : Hid (recvP cfW (stP x 0 0) (some ⟨1, 1, 0, 3, 0, (a : Int), 0, 0, []⟩) = (0, stP x H 0)) := by show _ = _; rw [stP_recv, hH]
      have HO0 : Hid (Ok cfW 0 (stP x 0 0)) := stP_ok x 0 (by rw [HX.out]; exact H16.out) (by omega)
      have HO1 : Hid (Ok cfW 0 (stP x H 0)) := stP_ok x H (by rw [HX.out]; exact H16.out) (by omega)
      obtain ⟨pr, hpr⟩ : ∃ pr, (x.drop H).take 32 = pr := ⟨_, rfl⟩
      have hpr2 : pr = x.drop H := by rw [← hpr]; exact List.take_of_length_le (by rw [List.length_drop, HX.out]; omega)
      obtain ⟨D, hD⟩ : ∃ D, X - H = D := ⟨_, rfl⟩
      have hprl : pr.length = D := by rw [hpr2, List.length_drop, HX.out, hD]
      obtain ⟨y, hy⟩ : ∃ y, encC 1 ((0 : Nat) : Int) ((1 : Nat) : Int) 3 (H : Int) ((0 : Nat) : Int) ((0 : Nat) : Int) 0 pr = y := ⟨_, rfl⟩
      have HXS : Hid (xsP x H = [(1, y)]) := by show _ = _; unfold xsP; rw [hpr, hy]
      have HIS : Hid (IsK y ⟨1, ((0 : Nat) : Int), ((1 : Nat) : Int), 3, (H : Int), ((0 : Nat) : Int), ((0 : Nat) : Int), 0, pr⟩) := by show IsK _ _; rw [← hy]; exact is_in2 (by omega) (by omega) (by omega) ⟨by omega, by omega⟩ (by omega) (by omega) (by omega) (by omega) ⟨by omega, by omega⟩
      have HYL : Hid (y.length ≤ 4096) := by show _ ≤ _; rw [← hy]; have := enc_short 1 ((0 : Nat) : Int) ((1 : Nat) : Int) 3 (H : Int) ((0 : Nat) : Int) ((0 : Nat) : Int) 0 pr; omega
      have HPRD := Lib.hid hpr2; have HPRL := Lib.hid hprl
      obtain ⟨s1, hs1⟩ : ∃ s1, str pr = s1 := ⟨_, rfl⟩
      have HS1 := Lib.hid hs1
      have HHX : Hid ((a ≤ X ∧ H = a) ∨ (X < a ∧ H = 0)) := by
        show _ ∨ _
        rw [HX.out] at hH
        by_cases h : a ≤ X
        · rw [if_pos h] at hH; exact .inl ⟨h, by omega⟩
        · rw [if_neg h] at hH; exact .inr ⟨by omega, hH.symm⟩
      clear hL1 hH hpr hpr2 hprl hy hs1
      have HDD := Lib.hid hD
      clear hD
      rcases HHX.out with ⟨hax, hHa⟩ | ⟨hax, hHa⟩
      · subst hHa
        have hai : (H : Int) ≤ (X : Int) := by omega
        clear HHX
        go_wp2_with (first
          | (go_at_call 15; (refine (HP1.out wr).mono ?_); rintro en w4 ⟨A5, c5, rfl, h1, h2, h3, hb⟩; have HA5 := Lib.hid (HA3.out.belows hb); have H51 := Lib.hid h1; have H52 := Lib.hid h2; have H53 := Lib.hid h3; clear h1 h2 h3 hb)
          | (go_at_call 16; (refine (at_recv HF.out HA5.out HO0.out HT.out (by omega) A5 _ L1 c5 H53.out HL1.out H51.out H52.out HL1b.out _ HI1.out 0 _ HR1.out).mono ?_); rintro en w6 ⟨rfl, ha, -⟩; have HA6 := Lib.hid ha; clear ha)
          | (go_at_call 17; (refine (at_tick HF.out HA6.out HO1.out HT.out (by omega) _ _ (stP_tick x H)).mono ?_); rintro en w7 ⟨v7, B7, rfl, ht, ha, -⟩; rw [HXS.out] at ht; obtain ⟨A7, p7, rfl⟩ := ht.form 1 rfl; obtain ⟨g7, M7, n7, c7, rfl, -, -, -, k2, r7, l7, q1, q2⟩ := ht.get 0 1 y rfl; have HR7 := Lib.hid r7; have HL7 := Lib.hid l7; have HQ1 := Lib.hid q1; have HQ2 := Lib.hid q2; have HA7 := Lib.hid ha; clear ht ha r7 l7 q1 q2)
          | (go_at_call 29; (refine (unp_yes M7 y n7 c7 _ HR7.out HL7.out HQ1.out HQ2.out (by rw [← HL7.out]; exact HYL.out) _ HIS.out).mono ?_); rintro en w8 ⟨A8, n8, c8, rfl, hr8, hl8, hb8⟩; have HR8 := Lib.hid hr8; have HL8 := Lib.hid hl8; have HB8 := Lib.hid (HA7.out.be.trans (hb8.mono HA7.out.be.size)); clear hr8 hl8 hb8))
        obtain ⟨PD, hPD⟩ : ∃ PD, (if c = H then A else A.map (fun x => x.add H)) = PD := ⟨_, rfl⟩
        have hD := HDD.out
        obtain ⟨CD, hCD⟩ : ∃ CD, c - H = CD := ⟨_, rfl⟩
        obtain ⟨W9, hW9⟩ : ∃ W9, W9 = w8.alloc (pkO 1 0 1 3 (H : Int) A8 n8 c8 0 0 0) := ⟨_, rfl⟩
        have HK9 : Hid (PkM W9 w8.heap.size 1 0 1 3 (H : Int) A8 n8 c8 0 0 0) := by rw [hW9]; exact heap_alloc_new w8 _
        have HB9 : Hid (Below w.heap.size w W9) := by rw [hW9]; exact HB8.out.alloc HB8.out.size _
        have hcv1 : (convert 29 9 (.slice A8 n8 c8)).run Tryd.prog W9.drew = .ok (.string s1) W9.drew := by
          rw [← HS1.out]
          have h9 : RB W9.drew w8.heap.size A8 pr := by rw [hW9]; exact (HR8.out.below ((Below.refl w8.heap.size w8).alloc (Nat.le_refl _) _)).below (Below.refl _ _).drew
          exact conv_rb h9 n8 c8 HL8.out
        have hcv2 : (convert 29 9 (.slice PD D CD)).run Tryd.prog W9.drew = .ok (.string s1) W9.drew := by
          rw [← HS1.out, HPRD.out, ← hPD]
          have h9 := (HRX.out.below (HB9.out.drew)).cut H c (by rw [HX.out]; omega) (by rw [HX.out]; exact HXC.out)
          exact conv_rb h9 D CD (by rw [List.length_drop, HX.out]; exact hD)
        obtain ⟨-, -, z2, -, z4, z5, z6, z7, -⟩ := HK9.out.c
        have HW9 := Lib.hid hW9
        rw [← HW9.out]
        clear hW9 HW9
        go_big_region
        go_wp2_with fail
        go_ret
        exact ⟨rfl, HB9.out.drew⟩
      · subst hHa
        have hai : (X : Int) < (a : Int) := by omega
        clear HHX
        go_wp2_with (first
          | (go_at_call 15; (refine (HP1.out wr).mono ?_); rintro en w4 ⟨A5, c5, rfl, h1, h2, h3, hb⟩; have HA5 := Lib.hid (HA3.out.belows hb); have H51 := Lib.hid h1; have H52 := Lib.hid h2; have H53 := Lib.hid h3; clear h1 h2 h3 hb)
          | (go_at_call 16; (refine (at_recv HF.out HA5.out HO0.out HT.out (by omega) A5 _ L1 c5 H53.out HL1.out H51.out H52.out HL1b.out _ HI1.out 0 _ HR1.out).mono ?_); rintro en w6 ⟨rfl, ha, -⟩; have HA6 := Lib.hid ha; clear ha)
          | (go_at_call 17; (refine (at_tick HF.out HA6.out HO1.out HT.out (by omega) _ _ (stP_tick x 0)).mono ?_); rintro en w7 ⟨v7, B7, rfl, ht, ha, -⟩; rw [HXS.out] at ht; obtain ⟨A7, p7, rfl⟩ := ht.form 1 rfl; obtain ⟨g7, M7, n7, c7, rfl, -, -, -, k2, r7, l7, q1, q2⟩ := ht.get 0 1 y rfl; have HR7 := Lib.hid r7; have HL7 := Lib.hid l7; have HQ1 := Lib.hid q1; have HQ2 := Lib.hid q2; have HA7 := Lib.hid ha; clear ht ha r7 l7 q1 q2)
          | (go_at_call 29; (refine (unp_yes M7 y n7 c7 _ HR7.out HL7.out HQ1.out HQ2.out (by rw [← HL7.out]; exact HYL.out) _ HIS.out).mono ?_); rintro en w8 ⟨A8, n8, c8, rfl, hr8, hl8, hb8⟩; have HR8 := Lib.hid hr8; have HL8 := Lib.hid hl8; have HB8 := Lib.hid (HA7.out.be.trans (hb8.mono HA7.out.be.size)); clear hr8 hl8 hb8))
        obtain ⟨W9, hW9⟩ : ∃ W9, W9 = w8.alloc (pkO 1 0 1 3 0 A8 n8 c8 0 0 0) := ⟨_, rfl⟩
        have HK9 : Hid (PkM W9 w8.heap.size 1 0 1 3 0 A8 n8 c8 0 0 0) := by rw [hW9]; exact heap_alloc_new w8 _
        have HB9 : Hid (Below w.heap.size w W9) := by rw [hW9]; exact HB8.out.alloc HB8.out.size _
        have hcv1 : (convert 29 9 (.slice A8 n8 c8)).run Tryd.prog W9.drew = .ok (.string s1) W9.drew := by
          rw [← HS1.out]
          have h9 : RB W9.drew w8.heap.size A8 pr := by rw [hW9]; exact (HR8.out.below ((Below.refl w8.heap.size w8).alloc (Nat.le_refl _) _)).below (Below.refl _ _).drew
          exact conv_rb h9 n8 c8 HL8.out
        have hcv2 : (convert 29 9 (.slice A X c)).run Tryd.prog W9.drew = .ok (.string s1) W9.drew := by
          rw [← HS1.out, HPRD.out, List.drop_zero]
          exact conv_rb (HRX.out.below (HB9.out.drew)) X c HX.out
        obtain ⟨-, -, z2, -, z4, z5, z6, z7, -⟩ := HK9.out.c
        have HW9 := Lib.hid hW9
        rw [← HW9.out]
        clear hW9 HW9
        go_big_region
        go_wp2_with fail
        go_ret
        exact ⟨rfl, HB9.out.drew⟩
end Go.Proofs.YtclgcfofgiejgaaDoor
