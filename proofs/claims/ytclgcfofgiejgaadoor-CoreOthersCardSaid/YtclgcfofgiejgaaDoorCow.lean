/- WALK of layer 21: the law CoreOthers. -/
import Derived.Test.YtclgcfofgiejgaaDoorCov
namespace Go.Proofs.YtclgcfofgiejgaaDoor
set_option maxRecDepth 100000
open Go.RowKit
set_option linter.unusedVariables false
set_option linter.unusedSimpArgs false

/-- what the packet says is told, or it is none -/
theorem told_enc {k f t id fi ac fr su : Int} {l : List UInt8} (hs : 0 ≤ su ∧ su ≤ 4294967295) {o : Option Pk} (ho : Told (encC k f t id fi ac fr su l) o) : (mayC k f t id fi ac fr su l.length ∧ o = some ⟨k, f, t, id, fi, ac, fr, su, l⟩) ∨ (¬ mayC k f t id fi ac fr su l.length ∧ o = none) := by
  by_cases hm : mayC k f t id fi ac fr su l.length
  · have hk : IsK (encC k f t id fi ac fr su l) ⟨k, f, t, id, fi, ac, fr, su, l⟩ := ⟨hm, hs, by unfold encC; rw [if_pos hm]; rfl⟩
    refine .inl ⟨hm, ?_⟩
    cases o with
    | none => exact absurd hk (ho _)
    | some p => rw [is_inj (p := p) ho hk]
  · refine .inr ⟨hm, ?_⟩
    cases o with
    | none => rfl
    | some p =>
      have h1 : IsK (encC k f t id fi ac fr su l) p := ho
      unfold encC at h1
      rw [if_neg hm] at h1
      have := is_long h1
      simp at this
theorem at_line {w0 w : World} {C : Cf} {c q : Nat} {s : Pl} {O : Nat → Prop} (h : At w0 w C c q s O) (z : Int) (j : Nat) (hz : z = (j : Int)) (l : List UInt8) (hl : s.L[j]? = some l) (L : Nat) (hL : l.length = L) : Calls Tryd.prog 30 #[pB q, .int .i64 z] w fun e w' => ∃ b, e = .returned (pB b) ∧ w = w' ∧ LM w' b L l := by
  obtain ⟨K, rfl, rfl, rfl, rfl, h1, h2⟩ := h
  obtain ⟨b, hb⟩ := h1.line j l hl
  subst hz
  exact (line_in w K.q K.r K.xs h1.qf.qm (j : Int) j rfl ⟨b, l⟩ hb).mono fun e w' ⟨he, hw⟩ => ⟨b, he, hw, by subst hw; subst hL; exact (h1.qf.qm.line j _ hb).1⟩
abbrev cfO21 : Cf := cfG 3 1 6 0 3
theorem others_none {k f t id fi ac fr su : Int} {l : List UInt8} (hs : 0 ≤ su ∧ su ≤ 4294967295) {o : Option Pk} (ho : Told (encC k f t id fi ac fr su l) o) (h : ¬ (t = 1 ∧ id = 6 ∧ 0 ≤ f ∧ f < 3 ∧ f ≠ 1)) : recvP cfO21 (newP cfO21) o = (1, newP cfO21) := by
  unfold recvP
  rw [if_neg (show ¬ (newP cfO21).cl = true from fun e => by cases e)]
  rcases told_enc hs ho with ⟨hm, rfl⟩ | ⟨_, rfl⟩
  · show (if forMe cfO21 _ then _ else _) = _
    rw [if_neg]
    intro hf
    obtain ⟨a1, a2, a3⟩ := hf
    have a1' : t = 1 := a1
    have a2' : f < 3 := a2
    have a3' : id = 6 := a3
    obtain ⟨⟨b1, -, -, -, b2, -, -⟩, -⟩ := hm
    exact h ⟨a1', a3', b1, a2', by omega⟩
  · rfl
set_option maxHeartbeats 2000000 in
theorem others21_law (k f t id fi : Int) (A : Option Addr) (l : List UInt8) (n c : Nat) (ac fr su : Int) (w : World) (hT : TabW w) (h4 : 0 ≤ su) (h5 : su ≤ 4294967295) (hr : RB w w.heap.size A l) (hn : l.length = n) (hc : n ≤ c) (hm : c ≤ maxLen) :
    Calls Tryd.prog 11 #[pkV k f t id fi A n c ac fr su] w fun e w' => e = .returned (.bool true) ∧ Below w.heap.size w w' := by
  obtain ⟨W1, hW1⟩ : ∃ W1, W1 = w.alloc (pkO k f t id fi A n c ac fr su) := ⟨_, rfl⟩
  have B1 : Hid (Below w.heap.size w W1) := by rw [hW1]; exact (Below.refl _ _).alloc (Nat.le_refl _) _
  have HK1 : Hid (PkM W1 w.heap.size k f t id fi A n c ac fr su) := by rw [hW1]; exact heap_alloc_new w _
  have HBG := Lib.hid (begun21_any W1 (hT.below B1.out hT.lt))
  obtain ⟨x, hx⟩ : ∃ x, l.take 32 = x := ⟨_, rfl⟩
  obtain ⟨X, hX⟩ : ∃ X, x.length = X := ⟨_, rfl⟩
  have hX2 : X ≤ 32 ∧ X ≤ c := by rw [← hx, List.length_take] at hX; omega
  obtain ⟨hX32, hXc⟩ := hX2
  have HS := Lib.hid (fun W => short_n A l n c 32 W hn (by omega) hc hm X (by rw [hx, hX]) 32 rfl)
  have HRX : Hid (RB w w.heap.size A x) := by show RB _ _ _ _; rw [← hx]; exact hr.take 32
  have HX := Lib.hid hX; have HT := Lib.hid hT; have HM := Lib.hid hm; have HXC := Lib.hid hXc
  have hcm : cfO21.may := cfG_may (by omega) (by omega) (by omega) (by omega) (by omega) (by omega) (by omega) (by omega)
  have HF := Lib.hid (may_fit hcm)
  obtain ⟨P, hP⟩ : ∃ P, w.heap.size = P := ⟨_, rfl⟩
  have HP := Lib.hid hP
  have HNew := Lib.hid (fun W (hb : Below w.heap.size w W) (h0 : P < W.heap.size) => at_new (w0 := w) (w := W) (O := fun k => k = P) hb (fun k e => ⟨by omega, by omega⟩) cfO21 hcm)
  unfold Cf.v cfV at HNew
  have HOK : Hid (Ok cfO21 0 (newP cfO21)) := Ok.new _ (by decide)
  obtain ⟨y, hy⟩ : ∃ y, encC k f t id fi ac fr su x = y := ⟨_, rfl⟩
  obtain ⟨Y, hY⟩ : ∃ Y, y.length = Y := ⟨_, rfl⟩
  have HY := Lib.hid hY
  have HY4 : Hid (Y ≤ 4096) := by show _ ≤ _; rw [← hY, ← hy]; have := enc_short k f t id fi ac fr su x; omega
  have HPK := Lib.hid (fun (W : World) (hr : RB W W.heap.size A x) => refpacket_any k f t id fi A x X c ac fr su W hr hX hXc hm h4 h5)
  rw [hy] at HPK
  obtain ⟨o, ho⟩ := told_has y
  have HO := Lib.hid ho
  have HRV : Hid (¬ (t = 1 ∧ id = 6 ∧ 0 ≤ f ∧ f < 3 ∧ f ≠ 1) → recvP cfO21 (newP cfO21) o = (1, newP cfO21)) := fun h => others_none ⟨h4, h5⟩ (by rw [hy]; exact ho) h
  have hs1 : (newP cfO21).cl = false := rfl
  have HHW1 := Lib.hid hW1
  clear hT hr hn hm hx hX hX32 hXc hcm hW1 hy hY ho hs1 hc h4 h5
  go_enter Tryd.func11, Tryd.ntmps11
  go_upto_region 1 with fail
  rw [← HHW1.out]
  try rw [HP.out]
  rw [HP.out] at HK1
  clear HHW1
  go_upto_region 8 with (first
    | (go_at_call 12; (refine HBG.out.mono ?_); rintro e w1 ⟨rfl, hb⟩; have HB1 := Lib.hid hb; have hk1 := HK1.out.below hb HK1.out.lt; obtain ⟨-, -, -, -, -, q5, -, -, -⟩ := hk1.c; have z5 := hk1.fz 5; have HK2 := Lib.hid (hk1.set_pr A X c); have HBW := Lib.hid ((B1.out.trans (hb.mono B1.out.size)).setCell (p := ⟨P, 5, none⟩) (show w.heap.size ≤ P by have := HP.out; omega) (.slice A X c)); clear hb hk1)
    | (go_at_call 28; (refine (HS.out _).mono ?_); rintro e w2 ⟨rfl, rfl⟩)
    | (go_at_call 13; (refine (HNew.out _ HBW.out HK2.out.lt).mono ?_); rintro e w3 ⟨cc, q, rfl, ha, hs⟩; have HA := Lib.hid ha; have HK3 : Hid (PkM w3 P k f t id fi A X c ac fr su) := (hs P rfl).trans HK2.out; obtain ⟨-, p1, p2, p3, -, -, -, -, -⟩ := HK3.out.c; clear ha hs HNew q5 z5 HK2))
  by_cases hall : t = 1 ∧ id = 6 ∧ 0 ≤ f ∧ f < 3 ∧ f ≠ 1
  · obtain ⟨g0, g1, g2, g3, g4⟩ := hall
    have gnb : (f == 1) = false := by simp; exact g4
    go_wp2_with fail
    go_ret
    exact ⟨rfl, HA.out.be⟩
  have HALL := Lib.hid hall
  clear hall
  go_cut [43] (fun s43 wx => s43 = .bool false ∧ wx = w3)
  case first =>
    by_cases g0 : ¬ (t = 1)
    · skip
      have gb : (t == 1) = false := by simp; exact g0
      go_wp2_with fail
      go_meet
      exact ⟨rfl, rfl⟩
    replace g0 := Decidable.not_not.1 g0
    have e0 : (t == 1) = true := by simp [g0]
    have H0 := Lib.hid g0
    clear g0
    by_cases g1 : ¬ (id = 6)
    · skip
      have gb : (id == 6) = false := by simp; exact g1
      go_wp2_with fail
      go_meet
      exact ⟨rfl, rfl⟩
    replace g1 := Decidable.not_not.1 g1
    have e1 : (id == 6) = true := by simp [g1]
    have H1 := Lib.hid g1
    clear g1
    by_cases g2 : ¬ (0 ≤ f)
    · skip
      have gb : f < 0 := by omega
      have gd : decide (0 ≤ f) = false := by simp; omega
      go_wp2_with fail
      go_meet
      exact ⟨rfl, rfl⟩
    replace g2 := Decidable.not_not.1 g2
    by_cases g3 : ¬ (f < 3)
    · skip
      have gb : 3 ≤ f := by omega
      have gd : decide (f < 3) = false := by simp; omega
      go_wp2_with fail
      go_meet
      exact ⟨rfl, rfl⟩
    replace g3 := Decidable.not_not.1 g3
    have gb : (f == 1) = true := by
      by_cases h : f = 1
      · simp [h]
      · exact absurd ⟨H0.out, H1.out, g2, g3, h⟩ HALL.out
    have gb2 : (f != 1) = false := by rw [bne, gb]; rfl
    go_wp2_with fail
    go_meet
    exact ⟨rfl, rfl⟩
  case rest =>
    obtain ⟨rfl, rfl⟩ := hcut
    have HN := HALL
    clear p1 p2 p3
    go_wp2_with (first
      | (go_at_call 15; (refine (HPK.out _ (HRX.out.next HA.out.be)).mono ?_); rintro e w4 ⟨v4, rfl, ho4, hb4⟩; obtain ⟨A4, c4, rfl, h41, h42, h43⟩ := ho4.form_n Y HY.out; have HA4 := Lib.hid (HA.out.belows hb4); have H41 := Lib.hid h41; have H42 := Lib.hid h42; have H43 := Lib.hid h43; clear ho4 hb4 h41 h42 h43)
      | (go_at_call 16; (refine (at_recv HF.out HA4.out HOK.out HT.out (by omega) A4 y Y c4 H43.out HY.out H41.out H42.out HY4.out o HO.out 1 _ (HRV.out HN.out)).mono ?_); rintro e w5 ⟨rfl, ha, -⟩; have HA5 := Lib.hid ha; clear ha)
      | (go_at_call 23; (refine (at_queue HA5.out).mono ?_); rintro e w6 ⟨rfl, rfl⟩)
      | (go_at_call 24; (refine (at_front HF.out HA5.out HOK.out 0 rfl).mono ?_); rintro e w6 ⟨rfl, rfl⟩)
      | (go_at_call 30; first | (have h99 := HLM.out; clear h99; refine (at_line HA5.out 2 2 rfl [] rfl 0 rfl).mono ?_; rintro e w6 ⟨bl2, rfl, rfl, hlm⟩; have HLM2 := Lib.hid hlm; clear hlm) | (refine (at_line HA5.out 0 0 rfl [] rfl 0 rfl).mono ?_; rintro e w6 ⟨bl, rfl, rfl, hlm⟩; have HLM := Lib.hid hlm; clear hlm))
      | (go_at_call 31; first | (refine (len_any _ _ _ _ HLM2.out).mono ?_; rintro e w6 ⟨rfl, rfl⟩) | (refine (len_any _ _ _ _ HLM.out).mono ?_; rintro e w6 ⟨rfl, rfl⟩))
      | (go_at_call 20; (refine (at_closed HA5.out false rfl).mono ?_); rintro e w6 ⟨rfl, rfl⟩)
      | (go_at_call 19; (refine (at_events HA5.out).mono ?_); rintro e w9 ⟨v9, rfl, hev, ha, -⟩; obtain ⟨A9, p9, rfl⟩ := hev.form 0 rfl; have HA9 := Lib.hid ha; clear ha hev)
      | (with_reducible refine wpList_load_pk rfl (.tmp 1) rfl P rfl HK3.out ?_))
    go_ret
    exact ⟨rfl, HA9.out.be⟩
end Go.Proofs.YtclgcfofgiejgaaDoor
