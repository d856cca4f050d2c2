/- WALK of layer 21: the law CoreWord. -/
import Derived.Test.YtclgcfofgiejgaaDoorCov
namespace Go.Proofs.YtclgcfofgiejgaaDoor
set_option maxRecDepth 100000
open Go.RowKit
set_option linter.unusedVariables false
set_option linter.unusedSimpArgs false

theorem held_same {s : Pl} (h : ∀ x ∈ s.ps, ¬ Bad s x) : ∀ k, heldN s k = s
  | 0 => rfl
  | k + 1 => by
    rw [heldN_succ, held_same h k]
    cases e : s.ps[k]? with
    | none => unfold heldAt; rw [e]
    | some x => exact heldAt_off e (h x (List.mem_of_getElem? e))
theorem recv_in {C : Cf} {s : Pl} {p : Pk} (hcl : s.cl = false) (hf : forMe C p) (hk : p.k = 1) : recvP C s (some p) = (0, held C (learnP C (hearP s p.f.toNat) p)) := by
  unfold recvP tellP
  rw [hcl, if_neg (by simp)]
  show (if forMe C p then _ else _) = _
  rw [if_pos hf, if_pos hk]
/-- two players; the other one's word -/
def stW (fr : Nat) (su : Int) (ms : List Int) : Pl := ⟨[[], []], 0, [⟨0, 0, 0, 0, false⟩, ⟨0, 0, fr, su, false⟩], ms, [], false⟩
abbrev cfW : Cf := cfG 2 0 3 0 16
abbrev pkW (F : Nat) (S : Int) : Pk := ⟨1, 1, 0, 3, 0, 0, F, S, []⟩
theorem stW_new : newP cfW = stW 0 0 [] := rfl
theorem stW_recv (fr F : Nat) (su S : Int) (hF : 1 ≤ F) : recvP cfW (stW fr su []) (some (pkW F S)) = (0, if fr ≤ F then stW F S [] else stW fr su []) := by
  rw [recv_in rfl ⟨rfl, show (1 : Int) < 2 by decide, rfl⟩ rfl]
  have hl : learnP cfW (hearP (stW fr su []) (pkW F S).f.toNat) (pkW F S) = if fr ≤ F then stW F S [] else stW fr su [] := by
    show (⟨[[], []], 0, [⟨0, 0, 0, 0, false⟩, learnPr 0 ⟨0, 0, fr, su, false⟩ (pkW F S)], [], [], false⟩ : Pl) = _
    unfold learnPr
    dsimp only
    by_cases h : fr ≤ F
    · rw [if_pos h, if_pos (by decide), if_pos (by omega), if_pos (by omega)]; rfl
    · rw [if_neg h, if_pos (by decide), if_neg (by omega), if_neg (by omega)]; rfl
  rw [hl]
  congr 1
  show heldN _ 2 = _
  apply held_same
  intro x hx hb
  have h0 : ∀ (a : Nat) (b : Int) x, x ∈ (stW a b []).ps → ¬ Bad (stW a b []) x := fun a b x _ hb => by
    have h1 := hb.2.1; have h2 : x.fr ≤ 0 := hb.2.2.1; omega
  split at hx
  · rename_i h; rw [if_pos h] at hb; exact h0 _ _ x hx hb
  · rename_i h; rw [if_neg h] at hb; exact h0 _ _ x hx hb
/-- the marks: sevens, and the word's own -/
def msW (f : Nat) (s : Int) (k : Nat) : List Int := (List.range k).map fun j => if j + 1 = f then s else 7
theorem msW_len (f : Nat) (s : Int) (k : Nat) : (msW f s k).length = k := by unfold msW; simp
theorem msW_succ (f : Nat) (s : Int) (k : Nat) : msW f s (k + 1) = msW f s k ++ [if k + 1 = f then s else 7] := by unfold msW; rw [List.range_succ, List.map_append]; rfl
theorem msW_mark (f : Nat) (s : Int) (k : Nat) (hk : k < 1000) (v : Int) (hv : v = if k + 1 = f then s else 7) : markP cfW (stW f s (msW f s k)) v = stW f s (msW f s (k + 1)) := by
  unfold markP
  rw [if_pos (show (stW f s (msW f s k)).ms.length < 1000 by show (msW f s k).length < 1000; rw [msW_len]; exact hk)]
  have e : ({ stW f s (msW f s k) with ms := (stW f s (msW f s k)).ms ++ [v] } : Pl) = stW f s (msW f s (k + 1)) := by
    rw [msW_succ, ← hv]; rfl
  rw [e]
  show heldN _ 2 = _
  apply held_same
  intro x hx hb
  have hx2 : x = ⟨0, 0, 0, 0, false⟩ ∨ x = ⟨0, 0, f, s, false⟩ := by simpa [stW] using hx
  rcases hx2 with rfl | rfl
  · have := hb.2.1; simp at this
  · obtain ⟨-, h1, h2, h3⟩ := hb
    have h1' : 1 ≤ f := h1
    have h2' : f ≤ (msW f s (k + 1)).length := h2
    rw [msW_len] at h2'
    apply h3
    show (msW f s (k + 1))[f - 1]? = some s
    unfold msW
    rw [List.getElem?_map, List.getElem?_range (by omega)]
    show some (if f - 1 + 1 = f then s else 7) = _
    rw [if_pos (by omega)]
theorem stW_ok (f : Nat) (s : Int) (ms : List Int) (hf : f ≤ 1000) (hs : 0 ≤ s ∧ s ≤ 4294967295) (h1 : ms.length ≤ 1000) (h2 : ∀ m ∈ ms, 0 ≤ m ∧ m ≤ 4294967295) : Ok cfW 0 (stW f s ms) := by
  refine ⟨rfl, fun l hl => ?_, rfl, fun x hx => ?_, Nat.le_refl _, h1, h2, Nat.le_refl _⟩
  · have : l = [] := by simpa [stW] using hl
    subst this; simp
  · have hx2 : x = ⟨0, 0, 0, 0, false⟩ ∨ x = ⟨0, 0, f, s, false⟩ := by simpa [stW] using hx
    rcases hx2 with rfl | rfl
    · exact ⟨Nat.le_refl _, by decide, by decide, by decide, by decide⟩
    · exact ⟨Nat.le_refl _, by show 0 ≤ 1000; omega, hf, hs.1, hs.2⟩
theorem msW_rng (f : Nat) (s : Int) (k : Nat) (hs : 0 ≤ s ∧ s ≤ 4294967295) : ∀ m ∈ msW f s k, 0 ≤ m ∧ m ≤ 4294967295 := fun m hm => by
  unfold msW at hm
  obtain ⟨j, -, rfl⟩ := List.mem_map.1 hm
  split <;> omega
theorem is_in {f t ac fr : Nat} {id su : Int} {l : List UInt8} (h1 : f ≤ 7) (h2 : t ≤ 7) (h3 : f ≠ t) (h4 : 0 ≤ id ∧ id ≤ 1000) (h5 : ac ≤ 1000) (h6 : fr ≤ 1000) (h7 : l.length ≤ 32) (h8 : 0 ≤ su ∧ su ≤ 4294967295) : IsK (encC 1 f t id 0 ac fr su l) ⟨1, f, t, id, 0, ac, fr, su, l⟩ := by
  have hm : mayC 1 f t id 0 ac fr su l.length := by unfold mayC; omega
  exact ⟨hm, h8, by unfold encC; rw [if_pos hm]; rfl⟩
/-- a packet of the laws', written and received -/
theorem refpk_nil (f t : Nat) (id : Int) (ac fr : Nat) (su : Int) (h8 : 0 ≤ su ∧ su ≤ 4294967295) (L : Nat) (hL : (encC 1 f t id 0 ac fr su []).length = L) (W : World) :
    Calls Tryd.prog 15 #[pkV 1 (f : Int) (t : Int) id 0 none 0 0 (ac : Int) (fr : Int) su] W fun e w' => ∃ A c, e = .returned (.slice A L c) ∧ L ≤ c ∧ c ≤ maxLen ∧ RB w' w'.heap.size A (encC 1 f t id 0 ac fr su []) ∧ Below W.heap.size W w' :=
  (refpacket_any 1 f t id 0 none [] 0 0 ac fr su W (RB.nil _ _ _) rfl (Nat.le_refl _) (by unfold maxLen; omega) h8.1 h8.2).mono fun e w' ⟨v, he, ho, hb⟩ => by
    obtain ⟨A, c, rfl, q1, q2, q3⟩ := ho.form_n L hL
    exact ⟨A, c, he, q1, q2, q3, hb⟩
set_option maxHeartbeats 1000000 in
theorem word21_law (first second a b : Int) (w : World) (hT : TabW w) (ha : 0 ≤ a ∧ a ≤ 4294967295) (hb : 0 ≤ b ∧ b ≤ 4294967295) : Calls Tryd.prog 7 #[.int .i64 first, .int .i64 second, .int .u32 a, .int .u32 b] w fun e w' => e = .returned (.bool true) ∧ Below w.heap.size w w' := by
  have HB := Lib.hid (begun21_any w hT)
  have HT := Lib.hid hT
  have HAA := Lib.hid ha; have HBB := Lib.hid hb
  clear hT ha hb
  by_cases g0 : first < 1
  · go_enter Tryd.func7, Tryd.ntmps7
    go_wp2_with (first | (go_at_call 12; (refine HB.out.mono ?_); rintro en w1 ⟨rfl, hb⟩; have HB1 := Lib.hid hb; clear hb))
    go_ret
    exact ⟨rfl, HB1.out⟩
  by_cases g1 : 5 < first
  · go_enter Tryd.func7, Tryd.ntmps7
    go_wp2_with (first | (go_at_call 12; (refine HB.out.mono ?_); rintro en w1 ⟨rfl, hb⟩; have HB1 := Lib.hid hb; clear hb))
    go_ret
    exact ⟨rfl, HB1.out⟩
  by_cases g2 : second < 1
  · go_enter Tryd.func7, Tryd.ntmps7
    go_wp2_with (first | (go_at_call 12; (refine HB.out.mono ?_); rintro en w1 ⟨rfl, hb⟩; have HB1 := Lib.hid hb; clear hb))
    go_ret
    exact ⟨rfl, HB1.out⟩
  by_cases g3 : 5 < second
  · go_enter Tryd.func7, Tryd.ntmps7
    go_wp2_with (first | (go_at_call 12; (refine HB.out.mono ?_); rintro en w1 ⟨rfl, hb⟩; have HB1 := Lib.hid hb; clear hb))
    go_ret
    exact ⟨rfl, HB1.out⟩
  obtain ⟨F1, rfl⟩ : ∃ F1 : Nat, first = F1 := ⟨first.toNat, by omega⟩
  obtain ⟨F2, rfl⟩ : ∃ F2 : Nat, second = F2 := ⟨second.toNat, by omega⟩
  have hF1 : 1 ≤ F1 ∧ F1 ≤ 5 := by omega
  have hF2 : 1 ≤ F2 ∧ F2 ≤ 5 := by omega
  obtain ⟨hF1, hF15⟩ := hF1
  obtain ⟨hF2, hF25⟩ := hF2
  have hcm : cfW.may := cfG_may (by omega) (by omega) (by omega) (by omega) (by omega) (by omega) (by omega) (by omega)
  have HF := Lib.hid (may_fit hcm)
  have HNew := Lib.hid (fun W (hb : Below w.heap.size w W) => at_new (w0 := w) (w := W) (O := noB) hb (no_noB _ _) cfW hcm)
  unfold Cf.v cfV at HNew
  rw [stW_new] at HNew
  obtain ⟨L1, hL1⟩ : ∃ L1, (encC 1 1 0 3 0 0 F1 a []).length = L1 := ⟨_, rfl⟩
  obtain ⟨L2, hL2⟩ : ∃ L2, (encC 1 1 0 3 0 0 F2 b []).length = L2 := ⟨_, rfl⟩
  have HL1 := Lib.hid hL1; have HL2 := Lib.hid hL2
  have HL1b : Hid (L1 ≤ 4096) := by show _ ≤ _; have := enc_short 1 1 0 3 0 0 F1 a []; omega
  have HL2b : Hid (L2 ≤ 4096) := by show _ ≤ _; have := enc_short 1 1 0 3 0 0 F2 b []; omega
  have HP1 := Lib.hid (refpk_nil 1 0 3 0 F1 a HAA.out L1 hL1)
  have HP2 := Lib.hid (refpk_nil 1 0 3 0 F2 b HBB.out L2 hL2)
  have HI1 : Hid (Told (encC 1 1 0 3 0 0 F1 a []) (some (pkW F1 a))) := is_in (f := 1) (t := 0) (ac := 0) (fr := F1) (by omega) (by omega) (by omega) ⟨by omega, by omega⟩ (by omega) (by omega) (by simp) HAA.out
  have HI2 : Hid (Told (encC 1 1 0 3 0 0 F2 b []) (some (pkW F2 b))) := is_in (f := 1) (t := 0) (ac := 0) (fr := F2) (by omega) (by omega) (by omega) ⟨by omega, by omega⟩ (by omega) (by omega) (by simp) HBB.out
  have HR1 : Hid (recvP cfW (stW 0 0 []) (some (pkW F1 a)) = (0, stW F1 a [])) := by show _ = _; rw [stW_recv 0 F1 0 a hF1, if_pos (by omega)]
  have HO0 : Hid (Ok cfW 0 (stW 0 0 [])) := stW_ok 0 0 [] (by omega) ⟨by omega, by omega⟩ (by simp) (fun m hm => (by cases hm))
  have HO1 : Hid (Ok cfW 0 (stW F1 a [])) := stW_ok F1 a [] (by omega) HAA.out (by simp) (fun m hm => (by cases hm))
  obtain ⟨ff, ss, hfs⟩ : ∃ (ff : Nat) (ss : Int), (F1 ≤ F2 ∧ ff = F2 ∧ ss = b) ∨ (F2 < F1 ∧ ff = F1 ∧ ss = a) := by
    by_cases h : F1 ≤ F2
    · exact ⟨F2, b, .inl ⟨h, rfl, rfl⟩⟩
    · exact ⟨F1, a, .inr ⟨by omega, rfl, rfl⟩⟩
  have HR2 : Hid (recvP cfW (stW F1 a []) (some (pkW F2 b)) = (0, stW ff ss [])) := by
    show _ = _
    rw [stW_recv F1 F2 a b hF2]
    rcases hfs with ⟨h, rfl, rfl⟩ | ⟨h, rfl, rfl⟩
    · rw [if_pos h]
    · rw [if_neg (by omega)]
  have hsr : 0 ≤ ss ∧ ss ≤ 4294967295 := hfs.elim (fun h => h.2.2 ▸ HBB.out) (fun h => h.2.2 ▸ HAA.out)
  have hff : ff ≤ 5 := by rcases hfs with ⟨h, rfl, rfl⟩ | ⟨h, rfl, rfl⟩ <;> omega
  have HOK : Hid (∀ k, k ≤ 5 → Ok cfW 0 (stW ff ss (msW ff ss k))) := fun k hk => stW_ok ff ss _ (by omega) hsr (by rw [msW_len]; omega) (msW_rng ff ss k hsr)
  have HSR := Lib.hid hsr
  have hgoal : ∀ (Q : Prop), ((F1 ≤ F2 ∧ ff = F2 ∧ ss = b) → Q) → ((F2 < F1 ∧ ff = F1 ∧ ss = a) → Q) → Q := fun Q h1 h2 => hfs.elim h1 h2
  clear hcm hL1 hL2 hsr
  rcases hfs with ⟨hfs, rfl, rfl⟩ | ⟨hfs, rfl, rfl⟩
  · have hfi : (F1 : Int) ≤ (ff : Int) := by omega
    clear hgoal
    go_enter Tryd.func7, Tryd.ntmps7
    go_wp2_with (first
      | (go_at_call 12; (refine HB.out.mono ?_); rintro en w1 ⟨rfl, hb⟩; have HB1 := Lib.hid hb; clear hb)
      | (go_at_call 13; (refine (HNew.out _ HB1.out).mono ?_); rintro en w2 ⟨c, q, rfl, ha, -⟩; have HA2 := Lib.hid ha; clear ha HNew)
      | (go_at_call 15; first
          | (refine (HP2.out w4).mono ?_; rintro en w5 ⟨A5, c5, rfl, h1, h2, h3, hb⟩; have HA5 := Lib.hid (HA4.out.belows hb); have H51 := Lib.hid h1; have H52 := Lib.hid h2; have H53 := Lib.hid h3; clear h1 h2 h3 hb)
          | (refine (HP1.out w2).mono ?_; rintro en w3 ⟨A3, c3, rfl, h1, h2, h3, hb⟩; have HA3 := Lib.hid (HA2.out.belows hb); have H31 := Lib.hid h1; have H32 := Lib.hid h2; have H33 := Lib.hid h3; clear h1 h2 h3 hb))
      | (go_at_call 16; first
          | (refine (at_recv HF.out HA5.out HO1.out HT.out (by omega) A5 _ L2 c5 H53.out HL2.out H51.out H52.out HL2b.out _ HI2.out 0 _ HR2.out).mono ?_; rintro en w6 ⟨rfl, ha, -⟩; have HA6 := Lib.hid ha; clear ha)
          | (refine (at_recv HF.out HA3.out HO0.out HT.out (by omega) A3 _ L1 c3 H33.out HL1.out H31.out H32.out HL1b.out _ HI1.out 0 _ HR1.out).mono ?_; rintro en w4 ⟨rfl, ha, -⟩; have HA4 := Lib.hid ha; clear ha)))
    go_loopw [14, 15] (fun ii vv wr => ∃ k : Nat, ii = .int .i64 ((k : Int) + 1) ∧ k ≤ 5 ∧ Hid (At w wr cfW c q (stW ff ss (msW ff ss k)) noB)) (fun ii _ _ => 6 - (intOf ii).toNat)
    case atStart => exact ⟨0, rfl, by omega, HA6⟩
    case round =>
      obtain ⟨k, rfl, hk, HA⟩ := hrel
      obtain ⟨k1, hk1⟩ : ∃ k1 : Nat, k + 1 = k1 := ⟨_, rfl⟩
      have hki : (k : Int) + 1 = (k1 : Int) := by omega
      have HOk := Lib.hid (HOK.out k hk)
      by_cases hlt : k < 5
      · have hk5 : (k1 : Int) ≤ 5 := by omega
        have hk2 : Hid (k + 1 ≤ 5) := hlt
        by_cases he : k1 = ff
        · have heb : ((k1 : Int) == (ff : Int)) = true := by simp; omega
          have HMK := Lib.hid (at_mark HF.out HA.out HOk.out (by omega) ss HSR.out)
          rw [msW_mark ff ss k (by omega) ss (by rw [if_pos (by omega)])] at HMK
          have hwr : IntKind.i64.wrap ((k1 : Int) + 1) = (k1 : Int) + 1 := by rw [IntKind.wrap_i64]; omega
          have HK1 := Lib.hid hk1
          clear he
          go_wp2_with (first | (go_at_call 25; (refine HMK.out.mono ?_); rintro en w7 ⟨rfl, ha, -⟩; have HA7 := Lib.hid ha; clear ha))
          go_roundw
          case rel => exact ⟨k + 1, by first | go_num | (simp; omega), hk2.out, HA7⟩
          case measure => simp [intOf]; omega
        · have heb : ((k1 : Int) == (ff : Int)) = false := by simp; omega
          have HMK := Lib.hid (at_mark HF.out HA.out HOk.out (by omega) 7 ⟨by omega, by omega⟩)
          rw [msW_mark ff ss k (by omega) 7 (by rw [if_neg (by omega)])] at HMK
          have hwr : IntKind.i64.wrap ((k1 : Int) + 1) = (k1 : Int) + 1 := by rw [IntKind.wrap_i64]; omega
          have HK1 := Lib.hid hk1
          clear he
          go_wp2_with (first | (go_at_call 25; (refine HMK.out.mono ?_); rintro en w7 ⟨rfl, ha, -⟩; have HA7 := Lib.hid ha; clear ha))
          go_roundw
          case rel => exact ⟨k + 1, by first | go_num | (simp; omega), hk2.out, HA7⟩
          case measure => simp [intOf]; omega
      · obtain rfl : k = 5 := by omega
        clear hk1
        go_wp2_with (first
          | (go_at_call 19; (refine (at_events HA.out).mono ?_); rintro e w9 ⟨v9, rfl, hev, ha, -⟩; obtain ⟨A9, p9, rfl⟩ := hev.form 0 rfl; have HA9 := Lib.hid ha; clear ha hev)
          | (go_at_call 27; (refine (at_marks HA9.out 5 (msW_len ff ss 5)).mono ?_); rintro e w6 ⟨rfl, rfl⟩))
        go_ret
        exact ⟨rfl, HA9.out.be⟩
  · have hfi : (F2 : Int) < (ff : Int) := by omega
    have hfd : decide ((ff : Int) ≤ (F2 : Int)) = false := by simp; omega
    have hfe : decide (ff ≤ F2) = false := by simp; omega
    clear hgoal
    go_enter Tryd.func7, Tryd.ntmps7
    go_wp2_with (first
      | (go_at_call 12; (refine HB.out.mono ?_); rintro en w1 ⟨rfl, hb⟩; have HB1 := Lib.hid hb; clear hb)
      | (go_at_call 13; (refine (HNew.out _ HB1.out).mono ?_); rintro en w2 ⟨c, q, rfl, ha, -⟩; have HA2 := Lib.hid ha; clear ha HNew)
      | (go_at_call 15; first
          | (refine (HP2.out w4).mono ?_; rintro en w5 ⟨A5, c5, rfl, h1, h2, h3, hb⟩; have HA5 := Lib.hid (HA4.out.belows hb); have H51 := Lib.hid h1; have H52 := Lib.hid h2; have H53 := Lib.hid h3; clear h1 h2 h3 hb)
          | (refine (HP1.out w2).mono ?_; rintro en w3 ⟨A3, c3, rfl, h1, h2, h3, hb⟩; have HA3 := Lib.hid (HA2.out.belows hb); have H31 := Lib.hid h1; have H32 := Lib.hid h2; have H33 := Lib.hid h3; clear h1 h2 h3 hb))
      | (go_at_call 16; first
          | (refine (at_recv HF.out HA5.out HO1.out HT.out (by omega) A5 _ L2 c5 H53.out HL2.out H51.out H52.out HL2b.out _ HI2.out 0 _ HR2.out).mono ?_; rintro en w6 ⟨rfl, ha, -⟩; have HA6 := Lib.hid ha; clear ha)
          | (refine (at_recv HF.out HA3.out HO0.out HT.out (by omega) A3 _ L1 c3 H33.out HL1.out H31.out H32.out HL1b.out _ HI1.out 0 _ HR1.out).mono ?_; rintro en w4 ⟨rfl, ha, -⟩; have HA4 := Lib.hid ha; clear ha)))
    go_loopw [14, 15] (fun ii vv wr => ∃ k : Nat, ii = .int .i64 ((k : Int) + 1) ∧ k ≤ 5 ∧ Hid (At w wr cfW c q (stW ff ss (msW ff ss k)) noB)) (fun ii _ _ => 6 - (intOf ii).toNat)
    case atStart => exact ⟨0, rfl, by omega, HA6⟩
    case round =>
      obtain ⟨k, rfl, hk, HA⟩ := hrel
      obtain ⟨k1, hk1⟩ : ∃ k1 : Nat, k + 1 = k1 := ⟨_, rfl⟩
      have hki : (k : Int) + 1 = (k1 : Int) := by omega
      have HOk := Lib.hid (HOK.out k hk)
      by_cases hlt : k < 5
      · have hk5 : (k1 : Int) ≤ 5 := by omega
        have hk2 : Hid (k + 1 ≤ 5) := hlt
        by_cases he : k1 = ff
        · have heb : ((k1 : Int) == (ff : Int)) = true := by simp; omega
          have HMK := Lib.hid (at_mark HF.out HA.out HOk.out (by omega) ss HSR.out)
          rw [msW_mark ff ss k (by omega) ss (by rw [if_pos (by omega)])] at HMK
          have hwr : IntKind.i64.wrap ((k1 : Int) + 1) = (k1 : Int) + 1 := by rw [IntKind.wrap_i64]; omega
          have HK1 := Lib.hid hk1
          clear he
          go_wp2_with (first | (go_at_call 25; (refine HMK.out.mono ?_); rintro en w7 ⟨rfl, ha, -⟩; have HA7 := Lib.hid ha; clear ha))
          go_roundw
          case rel => exact ⟨k + 1, by first | go_num | (simp; omega), hk2.out, HA7⟩
          case measure => simp [intOf]; omega
        · have heb : ((k1 : Int) == (ff : Int)) = false := by simp; omega
          have HMK := Lib.hid (at_mark HF.out HA.out HOk.out (by omega) 7 ⟨by omega, by omega⟩)
          rw [msW_mark ff ss k (by omega) 7 (by rw [if_neg (by omega)])] at HMK
          have hwr : IntKind.i64.wrap ((k1 : Int) + 1) = (k1 : Int) + 1 := by rw [IntKind.wrap_i64]; omega
          have HK1 := Lib.hid hk1
          clear he
          go_wp2_with (first | (go_at_call 25; (refine HMK.out.mono ?_); rintro en w7 ⟨rfl, ha, -⟩; have HA7 := Lib.hid ha; clear ha))
          go_roundw
          case rel => exact ⟨k + 1, by first | go_num | (simp; omega), hk2.out, HA7⟩
          case measure => simp [intOf]; omega
      · obtain rfl : k = 5 := by omega
        clear hk1
        go_wp2_with (first
          | (go_at_call 19; (refine (at_events HA.out).mono ?_); rintro e w9 ⟨v9, rfl, hev, ha, -⟩; obtain ⟨A9, p9, rfl⟩ := hev.form 0 rfl; have HA9 := Lib.hid ha; clear ha hev)
          | (go_at_call 27; (refine (at_marks HA9.out 5 (msW_len ff ss 5)).mono ?_); rintro e w6 ⟨rfl, rfl⟩))
        go_ret
        exact ⟨rfl, HA9.out.be⟩
end Go.Proofs.YtclgcfofgiejgaaDoor
