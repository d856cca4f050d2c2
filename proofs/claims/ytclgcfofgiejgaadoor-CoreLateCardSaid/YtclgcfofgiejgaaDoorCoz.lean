/- WALK of layer 21: the law CoreLate. -/
import Derived.Test.YtclgcfofgiejgaaDoorCox
namespace Go.Proofs.YtclgcfofgiejgaaDoor
set_option maxRecDepth 100000
open Go.RowKit
set_option linter.unusedVariables false
set_option linter.unusedSimpArgs false

abbrev cfT (n : Nat) : Cf := cfG n 0 1 0 4
def stT (n ck : Nat) (g : Nat → Nat) : Pl := ⟨List.replicate n [], ck, (List.range n).map (fun p => ⟨g p, 0, 0, 0, false⟩), [], [], false⟩
theorem stT_at (n ck : Nat) (g : Nat → Nat) (p : Nat) (hp : p < n) : (stT n ck g).ps[p]? = some ⟨g p, 0, 0, 0, false⟩ := by
  show ((List.range n).map _)[p]? = _
  rw [List.getElem?_map, List.getElem?_range hp]; rfl
theorem stT_new (n : Nat) : newP (cfT n) = stT n 0 (fun _ => 0) := by
  unfold newP stT
  congr 1
  refine List.ext_getElem? fun i => ?_
  rw [List.getElem?_map, List.getElem?_replicate]
  by_cases h : i < n
  · rw [List.getElem?_range h]; show (if i < n then _ else _) = _; rw [if_pos h]; rfl
  · rw [List.getElem?_eq_none (by simp; omega)]; show (if i < n then _ else _) = _; rw [if_neg h]; rfl
theorem stT_nobad (n ck : Nat) (g : Nat → Nat) (x : Pr) : ¬ Bad (stT n ck g) x := fun hb => by
  have h1 := hb.2.1; have h2 : x.fr ≤ 0 := hb.2.2.1; omega
theorem stT_ok (n ck : Nat) (g : Nat → Nat) (hc : ck ≤ 200) (hg : ∀ q, g q ≤ 200) : Ok (cfT n) 200 (stT n ck g) := by
  refine ⟨by simp [stT, cfG], fun l hl => ?_, by simp [stT, cfG], fun x hx => ?_, hc, by simp [stT], fun m hm => (by simp [stT] at hm), by simp [stT]⟩
  · obtain ⟨-, rfl⟩ := List.mem_replicate.1 hl; simp
  · obtain ⟨p, -, rfl⟩ := List.mem_map.1 hx
    exact ⟨hg p, by show 0 ≤ 1000; omega, by show 0 ≤ 1000; omega, by show (0 : Int) ≤ 0; omega, by show (0 : Int) ≤ _; omega⟩
abbrev pkT (p : Nat) : Pk := ⟨1, (p : Int), 0, 1, 0, 0, 0, 0, []⟩
theorem stT_recv (n ck : Nat) (g : Nat → Nat) (p : Nat) (hp0 : 1 ≤ p) (hp : p < n) : recvP (cfT n) (stT n ck g) (some (pkT p)) = (0, stT n ck (fun q => if q = p then ck else g q)) := by
  rw [recv_in rfl ⟨rfl, by show (p : Int) < (n : Int); omega, rfl⟩ rfl]
  have hh : hearP (stT n ck g) (pkT p).f.toNat = stT n ck (fun q => if q = p then ck else g q) := by
    show hearP (stT n ck g) ((p : Int)).toNat = _
    unfold hearP
    rw [Int.toNat_natCast, modify_at _ _ _ _ (stT_at n ck g p hp)]
    unfold stT
    congr 1
    refine List.ext_getElem? fun i => ?_
    rw [List.getElem?_set, List.getElem?_map, List.getElem?_map]
    by_cases e : p = i
    · subst e
      rw [if_pos rfl, if_pos (by simp; exact hp), List.getElem?_range hp]
      simp
    · rw [if_neg e]
      have e2 : ¬ i = p := fun h => e h.symm
      by_cases h : i < n
      · rw [List.getElem?_range h]; simp [e2]
      · rw [List.getElem?_eq_none (by simp; omega)]; rfl
  rw [hh]
  obtain ⟨G, hG⟩ : ∃ G : Nat → Nat, (fun q => if q = p then ck else g q) = G := ⟨_, rfl⟩
  rw [hG]
  have hn0 : 0 < n := by omega
  have hl0 : (stT n ck G).L[p]? = some [] := by show (List.replicate n [])[p]? = _; rw [List.getElem?_replicate, if_pos hp]
  have hhd : (stT n ck G).head (cfT n) = 0 := by
    unfold Pl.head
    show (((List.replicate n ([] : List UInt8))[0]?).getD []).length = 0
    rw [List.getElem?_replicate, if_pos hn0]; rfl
  rw [learn_eq (cfT n) (stT n ck G) (pkT p) p rfl _ (stT_at n ck G p hp) [] hl0 [] rfl 0 hhd]
  have e1 : learnPr 0 (⟨G p, 0, 0, 0, false⟩ : Pr) (pkT p) = ⟨G p, 0, 0, 0, false⟩ := rfl
  rw [e1, set_same (stT_at n ck G p hp), set_same hl0]
  show (0, heldN (stT n ck G) n) = _
  rw [held_same (fun x _ => stT_nobad n ck G x)]
theorem stT_lateAt (n ck : Nat) (g : Nat → Nat) (i : Nat) (hi : i < n) : isLate (cfT n) { stT n ck g with ck := ck + 1 } i = (decide (i ≠ 0) && decide (g i + 40 ≤ ck + 1)) := by
  unfold isLate
  rw [show ({ stT n ck g with ck := ck + 1 } : Pl).ps[i]? = some ⟨g i, 0, 0, 0, false⟩ from stT_at n ck g i hi]
  rfl
theorem stT_tick_ok (n ck : Nat) (g : Nat → Nat) (h : Nat) (hg : ∀ q, 1 ≤ q → q < n → g q = h) (hl : ck + 1 < h + 40) : ∃ xs, tickP (cfT n) (stT n ck g) = (xs, stT n (ck + 1) g) := by
  have hnone : lateP (cfT n) { stT n ck g with ck := (stT n ck g).ck + 1 } = none := by
    unfold lateP
    rw [List.find?_eq_none]
    intro i hi
    have hin : i < n := List.mem_range.1 hi
    rw [show isLate (cfT n) { stT n ck g with ck := (stT n ck g).ck + 1 } i = _ from stT_lateAt n ck g i hin]
    by_cases h0 : i = 0
    · simp [h0]
    · rw [hg i (by omega) hin]; simp; omega
  unfold tickP
  rw [if_neg (show ¬ (stT n ck g).cl = true from fun e => by cases e), hnone]
  exact ⟨_, rfl⟩
theorem stT_tick_late (n ck : Nat) (g : Nat → Nat) (h : Nat) (hn : 2 ≤ n) (hg : ∀ q, 1 ≤ q → q < n → g q = h) (hl : h + 40 ≤ ck + 1) : tickP (cfT n) (stT n ck g) = ([], { stT n (ck + 1) g with es := [.l 1], cl := true }) := by
  have hsome : lateP (cfT n) { stT n ck g with ck := (stT n ck g).ck + 1 } = some 1 := by
    unfold lateP
    obtain ⟨m, rfl⟩ : ∃ m, n = m + 2 := ⟨n - 2, by omega⟩
    have e : List.range (cfT (m + 2)).n = 0 :: 1 :: (List.range m).map (· + 2) := by
      show List.range (m + 2) = _
      rw [List.range_succ_eq_map, List.range_succ_eq_map]; simp
    rw [e, List.find?_cons, show isLate (cfT (m + 2)) { stT (m + 2) ck g with ck := (stT (m + 2) ck g).ck + 1 } 0 = _ from stT_lateAt (m + 2) ck g 0 (by omega)]
    show (List.find? _ (1 :: _)) = _
    rw [List.find?_cons, show isLate (cfT (m + 2)) { stT (m + 2) ck g with ck := (stT (m + 2) ck g).ck + 1 } 1 = _ from stT_lateAt (m + 2) ck g 1 (by omega), hg 1 (by omega) (by omega)]
    simp [hl]
  unfold tickP
  rw [if_neg (show ¬ (stT n ck g).cl = true from fun e => by cases e), hsome]
  rfl
def LateC (h i : Nat) : Prop := 40 ≤ i ∧ (40 ≤ h ∨ h + 40 ≤ i)
def ClosT (n h i : Nat) (s : Pl) : Prop := s.cl = true ∧ s.es = [.l 1] ∧ LateC h i ∧ Ok (cfT n) 200 s
def InvT (n h i : Nat) (s : Pl) : Prop := ((∃ g, s = stT n i g ∧ (∀ q, g q ≤ 200) ∧ ∀ q, 1 ≤ q → q < n → g q = if h < i then h else 0) ∧ ¬ LateC h i) ∨ ClosT n h i s
def InnT (n h i p : Nat) (s : Pl) : Prop := ((∃ g, s = stT n i g ∧ (∀ q, g q ≤ 200) ∧ (i = h → ∀ q, 1 ≤ q → q < p → g q = h) ∧ (i ≠ h → ∀ q, 1 ≤ q → q < n → g q = if h < i then h else 0)) ∧ ¬ LateC h i) ∨ ClosT n h i s
theorem inv_inn {n h i : Nat} {s : Pl} (H : InvT n h i s) : InnT n h i 1 s := by
  rcases H with ⟨⟨g, h1, h2, h3⟩, h4⟩ | H
  · exact .inl ⟨⟨g, h1, h2, fun _ q h5 h6 => by omega, fun _ => h3⟩, h4⟩
  · exact .inr H
theorem inn_ok {n h i p : Nat} {s : Pl} (H : InnT n h i p s) (hi : i ≤ 200) : Ok (cfT n) 200 s := by
  rcases H with ⟨⟨g, rfl, h2, -⟩, -⟩ | H
  · exact stT_ok n i g hi h2
  · exact H.2.2.2
theorem inn_recv {n h i p : Nat} {s : Pl} (H : InnT n h i p s) (hi : i ≤ 200) (hp0 : 1 ≤ p) (hp : p < n) (e : i = h) : ∃ a s', recvP (cfT n) s (some (pkT p)) = (a, s') ∧ InnT n h i (p + 1) s' := by
  rcases H with ⟨⟨g, rfl, h2, h3, h4⟩, h5⟩ | H
  · refine ⟨0, _, stT_recv n i g p hp0 hp, .inl ⟨⟨_, rfl, fun q => ?_, fun _ q hq hq2 => ?_, fun hne => absurd e hne⟩, h5⟩⟩
    · split
      · exact hi
      · exact h2 q
    · show (if q = p then i else g q) = h
      split
      · exact e
      · exact h3 e q hq (by omega)
  · refine ⟨6, s, ?_, .inr H⟩
    unfold recvP
    rw [if_pos H.1]
theorem inn_tick {n h i p : Nat} {s : Pl} (hn : 2 ≤ n) (H : InnT n h i p s) (hi : i ≤ 150) (hh : h ≤ 150) (hx : i ≠ h ∨ n ≤ p) : ∃ xs s', tickP (cfT n) s = (xs, s') ∧ InvT n h (i + 1) s' := by
  rcases H with ⟨⟨g, rfl, h2, h3, h4⟩, h5⟩ | H
  · have hg : ∀ q, 1 ≤ q → q < n → g q = if h < i + 1 then h else 0 := fun q hq hq2 => by
      by_cases e : i = h
      · rw [h3 e q hq (by omega), if_pos (by omega)]
      · rw [h4 e q hq hq2]
        by_cases e2 : h < i
        · rw [if_pos e2, if_pos (by omega)]
        · rw [if_neg e2, if_neg (by omega)]
    obtain ⟨hv, hhv⟩ : ∃ hv, (if h < i + 1 then h else 0) = hv := ⟨_, rfl⟩
    rw [hhv] at hg
    unfold LateC at h5
    by_cases hl : hv + 40 ≤ i + 1
    · refine ⟨_, _, stT_tick_late n i g hv hn hg hl, .inr ⟨rfl, rfl, ?_, ?_⟩⟩
      · unfold LateC
        split at hhv <;> omega
      · have h9 := stT_ok n (i + 1) g (by omega) h2
        exact ⟨h9.L, h9.ll, h9.p, h9.pr, h9.ck, h9.ms, h9.mu, by show 1 ≤ 10 * 200; omega⟩
    · obtain ⟨xs, hxs⟩ := stT_tick_ok n i g hv hg (by omega)
      refine ⟨xs, _, hxs, .inl ⟨⟨g, rfl, h2, fun q hq hq2 => (hg q hq hq2).trans hhv.symm⟩, ?_⟩⟩
      unfold LateC
      split at hhv <;> omega
  · refine ⟨[], s, ?_, .inr ⟨H.1, H.2.1, ?_, H.2.2.2⟩⟩
    · unfold tickP
      rw [if_pos H.1]
    · have := H.2.2.1
      unfold LateC at this ⊢
      omega
theorem late1_any (p : Nat) (hp : 1 ≤ p) (hp7 : p ≤ 7) (W : World) : Calls Tryd.prog 14 #[.int .i64 (p : Int)] W fun e w' => ∃ A L c, e = .returned (.slice A L c) ∧ (encC 1 p 0 1 0 0 0 0 []).length = L ∧ L ≤ c ∧ c ≤ maxLen ∧ RB w' w'.heap.size A (encC 1 p 0 1 0 0 0 0 []) ∧ Below W.heap.size W w' := by
  obtain ⟨L, hL⟩ : ∃ L, (encC 1 p 0 1 0 0 0 0 []).length = L := ⟨_, rfl⟩
  have HP := Lib.hid (refpk_nil p 0 1 0 0 0 ⟨by omega, by omega⟩ L hL)
  have HL := Lib.hid hL
  clear hL hp hp7
  go_enter Tryd.func14, Tryd.ntmps14
  go_wp2_with (first | (go_at_call 15; (refine (HP.out _).mono ?_); rintro en w1 ⟨A, c, rfl, h1, h2, h3, hb⟩; have H1 := Lib.hid (And.intro h1 (And.intro h2 (And.intro h3 hb))); clear h1 h2 h3 hb))
  go_ret
  exact ⟨A, L, c, rfl, HL.out, H1.out⟩
set_option maxHeartbeats 1000000 in
theorem late21_law (n ticks heard : Int) (w : World) (hT : TabW w) : Calls Tryd.prog 3 #[.int .i64 n, .int .i64 ticks, .int .i64 heard] w fun e w' => e = .returned (.bool true) ∧ Below w.heap.size w w' := by
  have HB := Lib.hid (begun21_any w hT)
  have HT := Lib.hid hT
  clear hT
  by_cases g0 : n < 2
  · go_enter Tryd.func3, Tryd.ntmps3
    go_wp2_with (first | (go_at_call 12; (refine HB.out.mono ?_); rintro en w1 ⟨rfl, hb⟩; have HB1 := Lib.hid hb; clear hb))
    go_ret
    exact ⟨rfl, HB1.out⟩
  by_cases g1 : 8 < n
  · go_enter Tryd.func3, Tryd.ntmps3
    go_wp2_with (first | (go_at_call 12; (refine HB.out.mono ?_); rintro en w1 ⟨rfl, hb⟩; have HB1 := Lib.hid hb; clear hb))
    go_ret
    exact ⟨rfl, HB1.out⟩
  by_cases g2 : ticks < 0
  · go_enter Tryd.func3, Tryd.ntmps3
    go_wp2_with (first | (go_at_call 12; (refine HB.out.mono ?_); rintro en w1 ⟨rfl, hb⟩; have HB1 := Lib.hid hb; clear hb))
    go_ret
    exact ⟨rfl, HB1.out⟩
  by_cases g3 : 100 < ticks
  · go_enter Tryd.func3, Tryd.ntmps3
    go_wp2_with (first | (go_at_call 12; (refine HB.out.mono ?_); rintro en w1 ⟨rfl, hb⟩; have HB1 := Lib.hid hb; clear hb))
    go_ret
    exact ⟨rfl, HB1.out⟩
  by_cases g4 : heard < 0
  · go_enter Tryd.func3, Tryd.ntmps3
    go_wp2_with (first | (go_at_call 12; (refine HB.out.mono ?_); rintro en w1 ⟨rfl, hb⟩; have HB1 := Lib.hid hb; clear hb))
    go_ret
    exact ⟨rfl, HB1.out⟩
  by_cases g5 : 100 < heard
  · go_enter Tryd.func3, Tryd.ntmps3
    go_wp2_with (first | (go_at_call 12; (refine HB.out.mono ?_); rintro en w1 ⟨rfl, hb⟩; have HB1 := Lib.hid hb; clear hb))
    go_ret
    exact ⟨rfl, HB1.out⟩
  obtain ⟨N, rfl⟩ : ∃ N : Nat, n = N := ⟨n.toNat, by omega⟩
  obtain ⟨T, rfl⟩ : ∃ T : Nat, ticks = T := ⟨ticks.toNat, by omega⟩
  obtain ⟨H, rfl⟩ : ∃ H : Nat, heard = H := ⟨heard.toNat, by omega⟩
  have hN2 : 2 ≤ N := by omega
  have hN8 : N ≤ 8 := by omega
  have hT100 : T ≤ 100 := by omega
  have hH100 : H ≤ 100 := by omega
  have hcm : (cfT N).may := cfG_may hN2 hN8 (by omega) (by omega) (by omega) (by omega) (by omega) (by omega)
  have HF := Lib.hid (may_fit hcm)
  have HNew := Lib.hid (fun W (hb : Below w.heap.size w W) => at_new (w0 := w) (w := W) (O := noB) hb (no_noB _ _) (cfT N) hcm)
  unfold Cf.v cfV at HNew
  have HINV0 : Hid (InvT N H 0 (newP (cfT N))) := .inl ⟨⟨fun _ => 0, stT_new N, fun q => Nat.zero_le 200, fun q _ _ => by simp⟩, fun h => by have := h.1; omega⟩
  clear hcm
  go_enter Tryd.func3, Tryd.ntmps3
  go_wp2_with (first
    | (go_at_call 12; (refine HB.out.mono ?_); rintro en w1 ⟨rfl, hb⟩; have HB1 := Lib.hid hb; clear hb)
    | (go_at_call 13; (refine (HNew.out _ HB1.out).mono ?_); rintro en w2 ⟨cc, q, rfl, ha, -⟩; have HA2 := Lib.hid ha; clear ha HNew))
  go_loopw [11, 12] (fun ii pp wr => ∃ k : Nat, ii = .int .i64 (k : Int) ∧ k ≤ T ∧ Hid (∃ s, At w wr (cfT N) cc q s noB ∧ InvT N H k s)) (fun ii _ _ => T - (intOf ii).toNat)
  case atStart => exact ⟨0, rfl, by omega, _, HA2.out, HINV0.out⟩
  case round =>
    obtain ⟨k, rfl, hk, HX⟩ := hrel
    by_cases hlt : k < T
    · have hkT : (k : Int) < (T : Int) := by omega
      have hk2 : Hid (k + 1 ≤ T) := hlt
      have hms : Hid (T - (k + 1) < T - k) := by show _ < _; omega
      go_wp2_with fail
      go_loopw [12] (fun pp wr2 => ∃ p : Nat, pp = .int .i64 (p : Int) ∧ 1 ≤ p ∧ p ≤ N ∧ Hid (∃ s, At w wr2 (cfT N) cc q s noB ∧ InnT N H k p s)) (fun pp _ => N - (intOf pp).toNat)
      case atStart => exact ⟨1, rfl, by omega, by omega, by obtain ⟨s, h1, h2⟩ := HX.out; exact ⟨s, h1, inv_inn h2⟩⟩
      case round =>
        obtain ⟨p, rfl, hp1, hpN, HY⟩ := hrel
        have HTK : Hid ((k ≠ H ∨ N ≤ p) → Calls Tryd.prog 17 #[pB cc] wr fun e w' => ∃ v, e = .returned v ∧ ∃ s, At w w' (cfT N) cc q s noB ∧ InvT N H (k + 1) s) := fun hx => by
          obtain ⟨s, h1, h2⟩ := HY.out
          obtain ⟨xs, s', h3, h4⟩ := inn_tick hN2 h2 (by omega) (by omega) hx
          exact (at_tick HF.out h1 (inn_ok h2 (by omega)) HT.out (by omega) xs s' h3).mono fun e w' ⟨v, B, he, _, ha, _⟩ => ⟨v, he, s', ha.less (fun k hk => hk.elim), h4⟩
        by_cases hpl : p < N
        · have hpi : (p : Int) < (N : Int) := by omega
          by_cases he : k = H
          · have heb : ((k : Int) == (H : Int)) = true := by simp; omega
            have hp2 : Hid (p + 1 ≤ N) := hpl
            have hms2 : Hid (N - (p + 1) < N - p) := by show _ < _; omega
            have HL1 := Lib.hid (late1_any p hp1 (by omega))
            have HRC : Hid (∀ W, Below wr.heap.size wr W → ∀ A L c, (encC 1 p 0 1 0 0 0 0 []).length = L → L ≤ c → c ≤ maxLen → RB W W.heap.size A (encC 1 p 0 1 0 0 0 0 []) → Calls Tryd.prog 16 #[pB cc, .slice A L c] W fun e w' => ∃ a, e = .returned (.int .i64 a) ∧ ∃ s, At w w' (cfT N) cc q s noB ∧ InnT N H k (p + 1) s) := fun W hW A L c hL h1 h2 h3 => by
              obtain ⟨s, g1, g2⟩ := HY.out
              obtain ⟨a, s', g3, g4⟩ := inn_recv g2 (by omega) hp1 hpl he
              have hI : Told (encC 1 p 0 1 0 0 0 0 []) (some (pkT p)) := is_in (f := p) (t := 0) (ac := 0) (fr := 0) (by omega) (by omega) (by omega) ⟨by omega, by omega⟩ (by omega) (by omega) (by simp) ⟨by omega, by omega⟩
              exact (at_recv HF.out (g1.belows hW) (inn_ok g2 (by omega)) HT.out (by omega) A _ L c h3 hL h1 h2 (by rw [← hL]; have := enc_short 1 p 0 1 0 0 0 0 []; omega) _ hI a s' g3).mono fun e w' ⟨he, ha, _⟩ => ⟨a, he, s', ha, g4⟩
            clear he HTK HY
            go_wp2_with (first
              | (go_at_call 14; (refine (HL1.out _).mono ?_); rintro en w4 ⟨A4, L4, c4, rfl, h1, h2, h3, h4, hb⟩; have HRC2 := Lib.hid (HRC.out w4 hb A4 L4 c4 h1 h2 h3 h4); clear h1 h2 h3 h4 hb)
              | (go_at_call 16; (refine HRC2.out.mono ?_); rintro en w5 ⟨a5, rfl, hy⟩; have HY5 := Lib.hid hy; clear hy))
            go_roundw
            case rel => exact ⟨p + 1, by go_num, by omega, hp2.out, HY5⟩
            case measure => simp [intOf]; have := hms2.out; omega
          · have heb : ((k : Int) == (H : Int)) = false := by simp; omega
            have HTK2 := Lib.hid (HTK.out (.inl he))
            clear he HTK HY
            go_wp2_with (first | (go_at_call 17; (refine HTK2.out.mono ?_); rintro en w5 ⟨v5, rfl, hy⟩; have HY5 := Lib.hid hy; clear hy))
            go_roundw
            case rel => exact ⟨k + 1, by go_num, hk2.out, HY5⟩
            case measure => simp [intOf]; have := hms.out; omega
        · have hpe : p = N := by omega
          have hpi : ¬ (p : Int) < (N : Int) := by omega
          have hpd : decide ((p : Int) < (N : Int)) = false := by simp; omega
          have hpf : decide (p < N) = false := by simp; omega
          have HTK2 := Lib.hid (HTK.out (.inr (by omega)))
          clear hpe HTK HY
          go_wp2_with (first | (go_at_call 17; (refine HTK2.out.mono ?_); rintro en w5 ⟨v5, rfl, hy⟩; have HY5 := Lib.hid hy; clear hy))
          go_roundw
          case rel => exact ⟨k + 1, by go_num, hk2.out, HY5⟩
          case measure => simp [intOf]; have := hms.out; omega
    · obtain rfl : T = k := by omega
      obtain ⟨s, hat, hinv⟩ := HX.out
      have HAT := Lib.hid hat
      have hdi : IntKind.i64.wrap ((T : Int) - (H : Int)) = (T : Int) - (H : Int) := by rw [IntKind.wrap_i64]; omega
      by_cases t0 : T < 40
      · have t0i : (T : Int) < 40 := by omega
        have t0d : decide ((40 : Int) ≤ (T : Int)) = false := by simp; omega
        have t0e : decide (40 ≤ T) = false := by simp; omega
        have hc : s.cl = false ∧ s.es = [] := hinv.elim (fun h => by obtain ⟨⟨g, hg, -⟩, -⟩ := h; rw [hg]; exact ⟨rfl, rfl⟩) (fun h => absurd h.2.2.1 (by unfold LateC; omega))
        have HCL := Lib.hid hc.1; have HES := Lib.hid hc.2
        clear hinv hc hat
        go_wp2_with (first | (go_at_call 19; (refine (at_events HAT.out).mono ?_); rintro e w9 ⟨v9, rfl, hev, ha, -⟩; rw [HES.out] at hev; have HEV := Lib.hid hev; have HA9 := Lib.hid ha; clear ha hev) | (go_at_call 18; (refine (raws_any _ _ _ HEV.out (by decide)).mono ?_); rintro e w10 ⟨v10, rfl, hro, hb⟩; obtain ⟨A10, c10, rfl, -, -, hcc⟩ := hro.at; have HA10 := Lib.hid (HA9.out.belows hb); clear hro hb hcc) | (go_at_call 20; (refine (at_closed HA10.out false HCL.out).mono ?_); rintro e w11 ⟨rfl, rfl⟩))
        go_ret
        exact ⟨by first | rfl | simp, HA10.out.be⟩
      · have t0i : (40 : Int) ≤ (T : Int) := by omega
        by_cases t1 : 40 ≤ H
        · have t1i : (40 : Int) ≤ (H : Int) := by omega
          have hc : s.cl = true ∧ s.es = [.l 1] := hinv.elim (fun h => absurd (show LateC H T by unfold LateC; omega) h.2) (fun h => ⟨h.1, h.2.1⟩)
          have HCL := Lib.hid hc.1; have HES := Lib.hid hc.2
          clear hinv hc hat
          go_wp2_with (first | (go_at_call 19; (refine (at_events HAT.out).mono ?_); rintro e w9 ⟨v9, rfl, hev, ha, -⟩; rw [HES.out] at hev; have HEV := Lib.hid hev; have HA9 := Lib.hid ha; clear ha hev) | (go_at_call 18; (refine (raws_any _ _ _ HEV.out (by decide)).mono ?_); rintro e w10 ⟨v10, rfl, hro, hb⟩; obtain ⟨A10, c10, rfl, -, -, hcc⟩ := hro.at; have HA10 := Lib.hid (HA9.out.belows hb); obtain ⟨b10, rfl, -, k0, k1, -⟩ := hcc 0 (.l 1) rfl; have k0' : w10.cell? ⟨b10, 0, none⟩ = some (.int .i64 2) := k0; have k1' : w10.cell? ⟨b10, 1, none⟩ = some (.int .i64 1) := k1; clear k0 k1 hro hb hcc) | (go_at_call 20; (refine (at_closed HA10.out true HCL.out).mono ?_); rintro e w11 ⟨rfl, rfl⟩))
          go_ret
          exact ⟨by first | rfl | simp, HA10.out.be⟩
        · have t1i : (H : Int) < 40 := by omega
          have t1d : decide ((40 : Int) ≤ (H : Int)) = false := by simp; omega
          have t1e : decide (40 ≤ H) = false := by simp; omega
          by_cases t2 : H + 40 ≤ T
          · have t2i : (40 : Int) ≤ (T : Int) - (H : Int) := by omega
            have hc : s.cl = true ∧ s.es = [.l 1] := hinv.elim (fun h => absurd (show LateC H T by unfold LateC; omega) h.2) (fun h => ⟨h.1, h.2.1⟩)
            have HCL := Lib.hid hc.1; have HES := Lib.hid hc.2
            clear hinv hc hat
            go_wp2_with (first | (go_at_call 19; (refine (at_events HAT.out).mono ?_); rintro e w9 ⟨v9, rfl, hev, ha, -⟩; rw [HES.out] at hev; have HEV := Lib.hid hev; have HA9 := Lib.hid ha; clear ha hev) | (go_at_call 18; (refine (raws_any _ _ _ HEV.out (by decide)).mono ?_); rintro e w10 ⟨v10, rfl, hro, hb⟩; obtain ⟨A10, c10, rfl, -, -, hcc⟩ := hro.at; have HA10 := Lib.hid (HA9.out.belows hb); obtain ⟨b10, rfl, -, k0, k1, -⟩ := hcc 0 (.l 1) rfl; have k0' : w10.cell? ⟨b10, 0, none⟩ = some (.int .i64 2) := k0; have k1' : w10.cell? ⟨b10, 1, none⟩ = some (.int .i64 1) := k1; clear k0 k1 hro hb hcc) | (go_at_call 20; (refine (at_closed HA10.out true HCL.out).mono ?_); rintro e w11 ⟨rfl, rfl⟩))
            go_ret
            exact ⟨by first | rfl | simp, HA10.out.be⟩
          · have t2i : (T : Int) - (H : Int) < 40 := by omega
            have t2d : decide ((40 : Int) ≤ (T : Int) - (H : Int)) = false := by simp; omega
            have hc : s.cl = false ∧ s.es = [] := hinv.elim (fun h => by obtain ⟨⟨g, hg, -⟩, -⟩ := h; rw [hg]; exact ⟨rfl, rfl⟩) (fun h => absurd h.2.2.1 (by unfold LateC; omega))
            have HCL := Lib.hid hc.1; have HES := Lib.hid hc.2
            clear hinv hc hat
            go_wp2_with (first | (go_at_call 19; (refine (at_events HAT.out).mono ?_); rintro e w9 ⟨v9, rfl, hev, ha, -⟩; rw [HES.out] at hev; have HEV := Lib.hid hev; have HA9 := Lib.hid ha; clear ha hev) | (go_at_call 18; (refine (raws_any _ _ _ HEV.out (by decide)).mono ?_); rintro e w10 ⟨v10, rfl, hro, hb⟩; obtain ⟨A10, c10, rfl, -, -, hcc⟩ := hro.at; have HA10 := Lib.hid (HA9.out.belows hb); clear hro hb hcc) | (go_at_call 20; (refine (at_closed HA10.out false HCL.out).mono ?_); rintro e w11 ⟨rfl, rfl⟩))
            go_ret
            exact ⟨by first | rfl | simp, HA10.out.be⟩
end Go.Proofs.YtclgcfofgiejgaaDoor
