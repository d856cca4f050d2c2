/- WALK of layer 21: the law CoreStall. -/
import Derived.Test.YtclgcfofgiejgaaDoorCot
namespace Go.Proofs.YtclgcfofgiejgaaDoor
set_option maxRecDepth 100000
open Go.RowKit
set_option linter.unusedVariables false
set_option linter.unusedSimpArgs false

/-- a player as the laws make it -/
def cfG (n me : Nat) (id : Int) (dl wi : Nat) : Cf := ⟨n, me, id, dl, wi, 1, 0, 0, 0, 3⟩
theorem cfG_may {n me : Nat} {id : Int} {dl wi : Nat} (h1 : 2 ≤ n) (h2 : n ≤ 8) (h3 : me < n) (h4 : 0 ≤ id) (h5 : id ≤ 1000) (h6 : dl ≤ 8) (h7 : 1 ≤ wi) (h8 : wi ≤ 16) : (cfG n me id dl wi).may := by
  unfold Cf.may MayC cfG
  dsimp only
  exact ⟨⟨by omega, by omega⟩, ⟨by omega, by omega⟩, ⟨by omega, by omega⟩, ⟨by omega, by omega⟩, ⟨by omega, by omega⟩, ⟨by omega, by omega⟩, ⟨by omega, by simp⟩, ⟨by omega, by omega⟩, ⟨by omega, by omega⟩, ⟨by omega, by omega⟩⟩

def stS (dl wi : Nat) (bs : List UInt8) : Pl := { newP (cfG 2 0 1 dl wi) with L := [zB dl ++ bs, zB dl] }
theorem stS_new (dl wi : Nat) : newP (cfG 2 0 1 dl wi) = stS dl wi [] := by
  unfold stS newP
  simp [cfG, List.replicate]
theorem stS_head (dl wi : Nat) (bs : List UInt8) : (stS dl wi bs).head (cfG 2 0 1 dl wi) = dl + bs.length := by
  show (zB dl ++ bs).length = _
  rw [List.length_append, zB_len]
theorem stS_front (dl wi : Nat) (h : dl ≤ 8) (bs : List UInt8) : frontP (stS dl wi bs).L = dl := by
  show frontP [zB dl ++ bs, zB dl] = dl
  unfold frontP
  simp only [List.foldl_cons, List.foldl_nil, List.length_append, zB_len]
  omega
theorem stS_ok (dl wi : Nat) (h : dl ≤ 8) (bs : List UInt8) (hb : bs.length ≤ 100) : Ok (cfG 2 0 1 dl wi) 0 (stS dl wi bs) := by
  have h0 := Ok.new (cfG 2 0 1 dl wi) h
  refine ⟨rfl, fun l hl => ?_, h0.p, h0.pr, h0.ck, h0.ms, h0.mu, h0.es⟩
  have : l = zB dl ++ bs ∨ l = zB dl := by simpa [stS] using hl
  rcases this with rfl | rfl
  · rw [List.length_append, zB_len]; omega
  · rw [zB_len]; omega
theorem stS_press (dl wi : Nat) (h : dl ≤ 8) (bs : List UInt8) (hb : bs.length ≤ 100) (b : UInt8) : pressP (cfG 2 0 1 dl wi) (stS dl wi bs) b = if wi ≤ bs.length then (5, stS dl wi bs) else (0, stS dl wi (bs ++ [b])) := by
  unfold pressP
  rw [stS_head, stS_front dl wi h]
  have hcl : (stS dl wi bs).cl = false := rfl
  rw [hcl, if_neg (by simp), if_neg (by omega), show dl + bs.length - dl = bs.length by omega]
  show (if wi ≤ bs.length then _ else _) = _
  split
  · rfl
  · unfold stS
    congr 1
    congr 1
    show [zB dl ++ bs, zB dl].set 0 ((zB dl ++ bs) ++ [b]) = _
    simp [List.append_assoc]
set_option maxHeartbeats 2000000 in
theorem stall21_law (d wd n : Int) (w : World) (hT : TabW w) (h1 : -9223372036854775808 ≤ d ∧ d ≤ 9223372036854775807) : Calls Tryd.prog 4 #[.int .i64 d, .int .i64 wd, .int .i64 n] w fun e w' => e = .returned (.bool true) ∧ Below w.heap.size w w' := by
  have HB := Lib.hid (begun21_any w hT)
  clear hT h1
  by_cases g0 : d < 0
  · go_enter Tryd.func4, Tryd.ntmps4
    go_wp2_with (first | (go_at_call 12; (refine HB.out.mono ?_); rintro en w1 ⟨rfl, hb⟩; have HB1 := Lib.hid hb; clear hb))
    go_ret
    exact ⟨rfl, HB1.out⟩
  by_cases g1 : 8 < d
  · go_enter Tryd.func4, Tryd.ntmps4
    go_wp2_with (first | (go_at_call 12; (refine HB.out.mono ?_); rintro en w1 ⟨rfl, hb⟩; have HB1 := Lib.hid hb; clear hb))
    go_ret
    exact ⟨rfl, HB1.out⟩
  by_cases g2 : wd < 1
  · go_enter Tryd.func4, Tryd.ntmps4
    go_wp2_with (first | (go_at_call 12; (refine HB.out.mono ?_); rintro en w1 ⟨rfl, hb⟩; have HB1 := Lib.hid hb; clear hb))
    go_ret
    exact ⟨rfl, HB1.out⟩
  by_cases g3 : 16 < wd
  · go_enter Tryd.func4, Tryd.ntmps4
    go_wp2_with (first | (go_at_call 12; (refine HB.out.mono ?_); rintro en w1 ⟨rfl, hb⟩; have HB1 := Lib.hid hb; clear hb))
    go_ret
    exact ⟨rfl, HB1.out⟩
  by_cases g4 : n < 0
  · go_enter Tryd.func4, Tryd.ntmps4
    go_wp2_with (first | (go_at_call 12; (refine HB.out.mono ?_); rintro en w1 ⟨rfl, hb⟩; have HB1 := Lib.hid hb; clear hb))
    go_ret
    exact ⟨rfl, HB1.out⟩
  by_cases g5 : 40 < n
  · go_enter Tryd.func4, Tryd.ntmps4
    go_wp2_with (first | (go_at_call 12; (refine HB.out.mono ?_); rintro en w1 ⟨rfl, hb⟩; have HB1 := Lib.hid hb; clear hb))
    go_ret
    exact ⟨rfl, HB1.out⟩
  obtain ⟨dl, rfl⟩ : ∃ dl : Nat, d = dl := ⟨d.toNat, by omega⟩
  obtain ⟨wi, rfl⟩ : ∃ wi : Nat, wd = wi := ⟨wd.toNat, by omega⟩
  obtain ⟨N, rfl⟩ : ∃ N : Nat, n = N := ⟨n.toNat, by omega⟩
  have hd8 : dl ≤ 8 := by omega
  have hw1 : 1 ≤ wi := by omega
  have hw16 : wi ≤ 16 := by omega
  have hN40 : N ≤ 40 := by omega
  have hcm : (cfG 2 0 1 dl wi).may := cfG_may (by omega) (by omega) (by omega) (by omega) (by omega) hd8 hw1 hw16
  have HF := Lib.hid (may_fit hcm)
  have HNew := Lib.hid (fun W (hb : Below w.heap.size w W) => at_new (w0 := w) (w := W) (O := noB) hb (no_noB _ _) (cfG 2 0 1 dl wi) hcm)
  unfold Cf.v cfV at HNew
  rw [stS_new] at HNew
  clear hcm
  obtain ⟨mn, hmn⟩ : ∃ mn, min N wi = mn := ⟨_, rfl⟩
  have hmi : min (N : Int) (wi : Int) = (mn : Int) := by omega
  obtain ⟨sm, hsm⟩ : ∃ sm, dl + mn = sm := ⟨_, rfl⟩
  have hsi : (dl : Int) + (mn : Int) = (sm : Int) := by omega
  have HMN := Lib.hid hmn; have HSM := Lib.hid hsm
  have hsm9 : sm ≤ 100 := by omega
  clear hmn hsm
  go_enter Tryd.func4, Tryd.ntmps4
  go_wp2_with (first
    | (go_at_call 12; (refine HB.out.mono ?_); rintro en w1 ⟨rfl, hb⟩; have HB1 := Lib.hid hb; clear hb)
    | (go_at_call 13; (refine (HNew.out _ HB1.out).mono ?_); rintro en w2 ⟨c, q, rfl, ha, -⟩; have HA := Lib.hid ha; clear ha HNew))
  go_loopw [10, 11] (fun ii ww wr => ∃ k : Nat, ii = .int .i64 (k : Int) ∧ k ≤ N ∧ Hid (∃ bs, bs.length = min k wi ∧ At w wr (cfG 2 0 1 dl wi) c q (stS dl wi bs) noB)) (fun ii _ _ => N - (intOf ii).toNat)
  case atStart => exact ⟨0, rfl, by omega, [], by simp, HA.out⟩
  case round =>
    obtain ⟨k, rfl, hk, HX⟩ := hrel
    obtain ⟨bs, hbs, hat⟩ := HX.out
    have hb100 : bs.length ≤ 100 := by omega
    have HOK := Lib.hid (stS_ok dl wi hd8 bs hb100)
    have HAT := Lib.hid hat
    by_cases hlt : k < N
    · have hkN : (k : Int) < (N : Int) := by omega
      have hk2 : Hid (k + 1 ≤ N) := hlt
      have hms : Hid (N - (k + 1) < N - k) := by show _ < _; omega
      have hwr : IntKind.u8.wrap (k : Int) = (k : Int) := by rw [IntKind.wrap_u8]; omega
      obtain ⟨b, hbk⟩ : ∃ b : UInt8, ((b.toNat : Nat) : Int) = (k : Int) := ⟨UInt8.ofNat k, by simp; omega⟩
      have hpr := stS_press dl wi hd8 bs hb100 b
      by_cases hst : wi ≤ k
      · have hsti : (wi : Int) ≤ (k : Int) := by omega
        rw [if_pos (by omega)] at hpr
        have HPR := Lib.hid (at_press HF.out hat HOK.out b 5 _ hpr)
        unfold vb at HPR
        rw [hbk] at HPR
        have HLEN : Hid (bs.length = min (k + 1) wi) := by show _ = _; omega
        clear hpr hbk hat hbs HAT hb100
        go_wp2_with (first | (go_at_call 21; (refine HPR.out.mono ?_); rintro en w3 ⟨rfl, ha, -⟩; have HA3 := Lib.hid ha; clear ha))
        go_roundw
        case rel => exact ⟨k + 1, by go_num, hk2.out, bs, HLEN.out, HA3.out⟩
        case measure => simp [intOf]; have := hms.out; omega
      · have hsti : (k : Int) < (wi : Int) := by omega
        have hstd : decide ((wi : Int) ≤ (k : Int)) = false := by simp; omega
        have hste : decide (wi ≤ k) = false := by simp; omega
        rw [if_neg (by omega)] at hpr
        have HPR := Lib.hid (at_press HF.out hat HOK.out b 0 _ hpr)
        unfold vb at HPR
        rw [hbk] at HPR
        have HLEN : Hid ((bs ++ [b]).length = min (k + 1) wi) := by show _ = _; rw [List.length_append]; show bs.length + 1 = _; omega
        clear hpr hbk hat hbs HAT hb100
        go_wp2_with (first | (go_at_call 21; (refine HPR.out.mono ?_); rintro en w3 ⟨rfl, ha, -⟩; have HA3 := Lib.hid ha; clear ha))
        go_roundw
        case rel => exact ⟨k + 1, by go_num, hk2.out, bs ++ [b], HLEN.out, HA3.out⟩
        case measure => simp [intOf]; have := hms.out; omega
    · obtain rfl : N = k := by omega
      have HHD : Hid ((stS dl wi bs).head (cfG 2 0 1 dl wi) = sm) := by show _ = _; rw [stS_head, hbs, HMN.out, HSM.out]
      have HFR : Hid (frontP (stS dl wi bs).L = dl) := stS_front dl wi hd8 bs
      clear hat hbs hb100
      go_wp2_with (first
        | (go_at_call 22; (refine (at_head HF.out HAT.out HOK.out sm HHD.out).mono ?_); rintro en w7 ⟨rfl, hb⟩; have HA7 := Lib.hid (HAT.out.belows hb); clear hb)
        | (go_at_call 23; (refine (at_queue HA7.out).mono ?_); rintro en w8 ⟨rfl, rfl⟩)
        | (go_at_call 24; (refine (at_front HF.out HA7.out HOK.out dl HFR.out).mono ?_); rintro en w9 ⟨rfl, rfl⟩))
      all_goals (go_ret; exact ⟨by first | rfl | (simp; omega), HA7.out.be⟩)
end Go.Proofs.YtclgcfofgiejgaaDoor
