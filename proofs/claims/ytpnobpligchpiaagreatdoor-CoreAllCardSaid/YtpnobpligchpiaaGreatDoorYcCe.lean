/- texts of YcCe -/
import Derived.Test.YtpnobpligchpiaaGreatDoorYcCb
import Derived.Test.YtpnobpligchpiaaGreatDoorYcCc
namespace Go.Proofs.YtpnobpligchpiaaGreatDoor
set_option maxRecDepth 100000
open Go.RowKit
set_option linter.unusedVariables false
set_option linter.unusedSimpArgs false
def DTold (w0 w : World) (K : Dm) (w' : World) (s' : Pl) (xs : List (Nat × List UInt8)) (v : Value) : Prop :=
  ∃ B, DTells w' B v K.C.me xs ∧ w.heap.size ≤ B ∧ GoesO w0 w K w' s' (fun k => B ≤ k ∧ k < w'.heap.size)
theorem DTold.none_ {w0 w w' : World} {K : Dm} {s' : Pl} (g : GoesD w0 w K w' s') : DTold w0 w K w' s' [] (.slice none 0 0) :=
  ⟨w'.heap.size, DTells.nil _ _ _, (show Lv w w' (DB K) by obtain ⟨K1, a, b, c, d, e, f⟩ := g; exact e).size, by obtain ⟨K1, a, b, c, d, e, f⟩ := g; exact ⟨K1, a, b, c, d, e, f, fun k hk => by omega⟩⟩
set_option maxHeartbeats 4000000 in
theorem doc_quit (w0 w : World) (K : Dm) (h : DM w0 w K) (h8 : K.C.n ≤ 8) (xs : List (Nat × List UInt8)) (s' : Pl) (hp : quitP K.C K.s = (xs, s')) {kc : Nat} (hkc : K.c = kc) :
    Calls Tryz.prog 30 #[pB kc] w fun e w' => ∃ v, e = .returned v ∧ DTold w0 w K w' s' xs v := by
  have hcl : w.cell? ⟨kc, 18, none⟩ = some (.bool K.s.cl) := by rw [← hkc]; exact h.cell 18 _ rfl
  have HH := Lib.hid h
  unfold quitP at hp
  by_cases hcz : K.s.cl = true
  · rw [if_pos hcz] at hp
    injection hp with ea es
    subst ea es
    rw [hcz] at hcl
    clear h hkc
    go_enter Tryz.func30, Tryz.ntmps30
    go_wp2_with fail
    go_ret
    exact ⟨_, rfl, DTold.none_ (HH.out.goes (Below.refl _ _))⟩
  · rw [if_neg hcz] at hp
    injection hp with ea es
    subst ea es
    have hcf : K.s.cl = false := by simpa using hcz
    rw [hcf] at hcl
    obtain ⟨N, hN⟩ : ∃ N, K.C.n = N := ⟨_, rfl⟩
    obtain ⟨me, hmq⟩ : ∃ me, K.C.me = me := ⟨_, rfl⟩
    obtain ⟨ID, hID⟩ : ∃ ID, K.C.id = ID := ⟨_, rfl⟩
    rw [hN] at h8
    have HXS : Hid ((othersP K.C).map (fun (i : Nat) => (i, encC 2 K.C.me i K.C.id 0 0 0 0 [])) = (otN me N).map (fun (i : Nat) => (i, encC 2 (me : Int) i ID 0 0 0 0 []))) := by show _ = _; rw [othersP_eq, hN, hmq, hID]
    have HCC : Hid (∀ W, Below w.heap.size w W → W.cell? ⟨kc, 0, none⟩ = some (.int .i64 (N : Int)) ∧ W.cell? ⟨kc, 1, none⟩ = some (.int .i64 (me : Int)) ∧ W.cell? ⟨kc, 2, none⟩ = some (.int .i64 ID)) := fun W hW => by
      rw [← hkc, ← hN, ← hmq, ← hID]; exact ⟨(h.belows hW).cell 0 _ rfl, (h.belows hW).cell 1 _ rfl, (h.belows hW).cell 2 _ rfl⟩
    have HEND : Hid (∀ W, Below w.heap.size w W → W.cell? ⟨kc, 18, none⟩ = some (.bool false) ∧ W.frozen? ⟨kc, 18, none⟩ = false ∧ GoesO w0 w K (W.setCell ⟨kc, 18, none⟩ (.bool true)) { K.s with cl := true } (fun k => w.heap.size ≤ k ∧ k < W.heap.size)) := fun W hW => by
      have hD := h.belows hW
      have r3 := hD.set_closed
      rw [hkc] at r3
      refine ⟨by rw [← hkc, ← hcf]; exact hD.cell 18 _ rfl, by rw [← hkc]; exact hD.fz 18, ?_⟩
      exact (goeso_then (O := fun k => w.heap.size ≤ k ∧ k < W.heap.size) (Lv.of_below hW) (fun k hk => .inl hk) (fun k hk => ⟨hk.2, fun e => by have := (h.lt e).2; have := hk.1; omega⟩) rfl rfl r3).1
    have HKL : Hid (kc < w.heap.size) := by show _ < _; rw [← hkc]; exact (h.get (k := K.c) (by simp [DO, Dm.bl])).2
    have HMQ := Lib.hid hmq
    clear h hkc hN hmq hID hcf hcz
    go_enter Tryz.func30, Tryz.ntmps30
    go_wp2_with fail
    go_loopw [3, 4] (fun u i wr => ∃ (k : Nat) (uu : Value) (ms : List Md), i = .int .i64 (k : Int) ∧ uu = u ∧ k ≤ N ∧ Hid (DT wr w.heap.size uu me ms) ∧ Hid (ms.map (fun m => (m.1, m.2.2)) = (otN me k).map (fun (i : Nat) => (i, encC 2 (me : Int) i ID 0 0 0 0 []))) ∧ Hid (Below w.heap.size w wr)) (fun _ i _ => N - (intOf i).toNat)
    case atStart => exact ⟨0, _, [], rfl, rfl, by omega, DT.nil _ _ _, rfl, Below.refl _ _⟩
    case round =>
      obtain ⟨k, vv, ms, rfl, rfl, hk, HD, HM, HB⟩ := hrel
      obtain ⟨c0, c1, c2⟩ := HCC.out wr HB.out
      by_cases hlt : k < N
      · have hkn : (k : Int) < (N : Int) := by omega
        have hk2 : Hid (k + 1 ≤ N) := hlt
        have hms : Hid (N - (k + 1) < N - k) := by show _ < _; omega
        by_cases hkm : k = me
        · have HM2 : Hid (ms.map (fun m => (m.1, m.2.2)) = (otN me (k + 1)).map (fun (i : Nat) => (i, encC 2 (me : Int) i ID 0 0 0 0 []))) := by show _ = _; rw [HM.out, otN_off me k hkm]
          subst hkm
          clear HM
          go_wp2_with fail
          go_roundw
          case rel => exact ⟨k + 1, _, ms, by go_num, rfl, hk2.out, HD, HM2, HB⟩
          case measure => simp [intOf]; have := hms.out; omega
        · have hkb : ((k : Int) == (me : Int)) = false := by simp; omega
          have hkc2 : ((k : Int) != (me : Int)) = true := by simp; omega
          have hkd : ¬ ((k : Int) = (me : Int)) := by omega
          have HTK : Hid (otN me (k + 1) = otN me k ++ [k]) := otN_on me k hkm
          have HMS : Hid (ms.length + 1 ≤ 1000000) := by
            show _ ≤ _
            have := congrArg List.length HM.out
            rw [List.length_map, List.length_map] at this
            have := otN_len me k
            omega
          have HGE : Hid (∀ j, vv.ownBlock = some j → w.heap.size ≤ j ∧ j < wr.heap.size) := fun j hj => HD.out.lt j hj
          clear hkm
          go_wp2_with fail
          refine wp_region_held_drew (S := (fun w' => w'.cell? ⟨kc, 1, none⟩ = some (.int .i64 (me : Int)) ∧ w'.cell? ⟨kc, 2, none⟩ = some (.int .i64 ID))) (by kernel_rfl) ((HCC.out _ HB.out.drew).2) (fun hHeld => ?_)
          refine held_take (i := 0) (v := ?_) rfl (by kernel_rfl) (by kernel_rfl) (by kernel_rfl) (fun _ _ _ h => h) (by rfl) hHeld ?_ ?_
          rotate_left 1
          · (intro w hSw; (try dsimp only at hSw); go_simp; try (with_reducible rfl))
          try simp only [Act.put, nB, nC, nD]
          refine held_take (i := 1) (v := ?_) rfl (by kernel_rfl) (by kernel_rfl) (by kernel_rfl) (fun _ _ _ h => h) (by rfl) hHeld ?_ ?_
          rotate_left 1
          · (intro w hSw; (try dsimp only at hSw); go_simp; try (with_reducible rfl))
          try simp only [Act.put, nB, nC, nD]
          refine held_take (i := 2) (v := ?_) rfl (by kernel_rfl) (by kernel_rfl) (by kernel_rfl) (fun _ _ _ h => h) (by rfl) hHeld ?_ ?_
          rotate_left 1
          · (intro w hSw; (try dsimp only at hSw); go_simp; try (with_reducible rfl))
          try simp only [Act.put, nB, nC, nD]
          refine held_take (i := 3) (v := ?_) rfl (by kernel_rfl) (by kernel_rfl) (by kernel_rfl) (fun _ _ _ h => h) (by rfl) hHeld ?_ ?_
          rotate_left 1
          · (intro w hSw; (try dsimp only at hSw); go_simp; try (with_reducible rfl))
          try simp only [Act.put, nB, nC, nD]
          refine held_take (i := 4) (v := ?_) rfl (by kernel_rfl) (by kernel_rfl) (by kernel_rfl) (fun _ _ _ h => h) (by rfl) hHeld ?_ ?_
          rotate_left 1
          · (intro w hSw; (try dsimp only at hSw); go_simp; try (with_reducible rfl))
          try simp only [Act.put, nB, nC, nD]
          refine held_take (i := 5) (v := ?_) rfl (by kernel_rfl) (by kernel_rfl) (by kernel_rfl) (fun _ _ _ h => h) (by rfl) hHeld ?_ ?_
          rotate_left 1
          · (intro w hSw; (try dsimp only at hSw); go_simp; try (with_reducible rfl))
          try simp only [Act.put, nB, nC, nD]
          refine held_take (i := 6) (v := ?_) rfl (by kernel_rfl) (by kernel_rfl) (by kernel_rfl) (fun _ _ _ h => h) (by rfl) hHeld ?_ ?_
          rotate_left 1
          · (intro w hSw; (try dsimp only at hSw); go_simp; try (with_reducible rfl))
          try simp only [Act.put, nB, nC, nD]
          refine held_take (i := 7) (v := ?_) rfl (by kernel_rfl) (by kernel_rfl) (by kernel_rfl) (fun _ _ _ h => h) (by rfl) hHeld ?_ ?_
          rotate_left 1
          · (intro w hSw; (try dsimp only at hSw); go_simp; try (with_reducible rfl))
          try simp only [Act.put, nB, nC, nD]
          refine held_take (i := 8) (v := ?_) rfl (by kernel_rfl) (by kernel_rfl) (by kernel_rfl) (fun _ _ _ h => h) (by rfl) hHeld ?_ ?_
          rotate_left 1
          · (intro w hSw; (try dsimp only at hSw); go_simp; try (with_reducible rfl))
          try simp only [Act.put, nB, nC, nD]
          refine held_take (i := 9) (v := ?_) rfl (by kernel_rfl) (by kernel_rfl) (by kernel_rfl) (fun _ _ _ h => h) (by rfl) hHeld ?_ ?_
          rotate_left 1
          · (intro w hSw; (try dsimp only at hSw); go_simp; try (with_reducible rfl))
          try simp only [Act.put, nB, nC, nD]
          refine held_take (i := 10) (v := ?_) rfl (by kernel_rfl) (by kernel_rfl) (by kernel_rfl) (fun _ _ _ h => h) (by rfl) hHeld ?_ ?_
          rotate_left 1
          · (intro w hSw; (try dsimp only at hSw); go_simp; try (with_reducible rfl))
          try simp only [Act.put, nB, nC, nD]
          refine held_take (i := 11) (v := ?_) rfl (by kernel_rfl) (by kernel_rfl) (by kernel_rfl) (fun _ _ _ h => h) (by rfl) hHeld ?_ ?_
          rotate_left 1
          · (intro w hSw; (try dsimp only at hSw); go_simp; try (with_reducible rfl))
          try simp only [Act.put, nB, nC, nD]
          refine held_take (i := 12) (v := ?_) rfl (by kernel_rfl) (by kernel_rfl) (by kernel_rfl) (fun _ _ _ h => h) (by rfl) hHeld ?_ ?_
          rotate_left 1
          · (intro w hSw; (try dsimp only at hSw); go_simp; try (with_reducible rfl))
          try simp only [Act.put, nB, nC, nD]
          refine held_take (i := 13) (v := ?_) rfl (by kernel_rfl) (by kernel_rfl) (by kernel_rfl) (fun _ _ _ h => h) (by rfl) hHeld ?_ ?_
          rotate_left 1
          · (intro w hSw; (try dsimp only at hSw); go_simp; try (with_reducible rfl))
          try simp only [Act.put, nB, nC, nD]
          refine held_take (i := 14) (v := ?_) rfl (by kernel_rfl) (by kernel_rfl) (by kernel_rfl) (fun _ _ _ h => h) (by rfl) hHeld ?_ ?_
          rotate_left 1
          · (intro w hSw; (try dsimp only at hSw); go_simp; try (with_reducible rfl))
          try simp only [Act.put, nB, nC, nD]
          refine held_take (i := 15) (v := ?_) rfl (by kernel_rfl) (by kernel_rfl) (by kernel_rfl) (fun _ _ _ h => h) (by rfl) hHeld ?_ ?_
          rotate_left 1
          · (intro w hSw; (try dsimp only at hSw); go_simp; try (with_reducible rfl))
          try simp only [Act.put, nB, nC, nD]
          refine held_take (i := 16) (v := ?_) rfl (by kernel_rfl) (by kernel_rfl) (by kernel_rfl) (fun _ _ _ h => h) (by rfl) hHeld ?_ ?_
          rotate_left 1
          · (intro w hSw; (try dsimp only at hSw); go_simp; try (with_reducible rfl))
          try simp only [Act.put, nB, nC, nD]
          refine held_take (i := 17) (v := ?_) rfl (by kernel_rfl) (by kernel_rfl) (by kernel_rfl) (fun _ _ _ h => h) (by rfl) hHeld ?_ ?_
          rotate_left 1
          · (intro w hSw; (try dsimp only at hSw); go_simp; try (with_reducible rfl))
          try simp only [Act.put, nB, nC, nD]
          refine held_take (i := 18) (v := ?_) rfl (by kernel_rfl) (by kernel_rfl) (by kernel_rfl) (fun _ _ _ h => h) (by rfl) hHeld ?_ ?_
          rotate_left 1
          · (intro w hSw; (try dsimp only at hSw); go_simp; try (with_reducible rfl))
          try simp only [Act.put, nB, nC, nD]
          refine held_one (i := 19) rfl (by kernel_rfl) (by rfl) (fun K hK => ?_)
          go_simp
          refine (refpacket_any 2 (me : Int) (k : Int) ID 0 none [] 0 0 0 0 0 wr.drew (RB.nil _ _ _) rfl (Nat.le_refl _) (by unfold maxLen; omega) (by omega) (by omega)).mono ?_
          rintro e w7 ⟨v7, rfl, ho7, hb7⟩
          obtain ⟨A7, c7, rfl, -, -, -⟩ := ho7.form_n _ rfl
          have HO7 := Lib.hid ho7
          have HB7 := Lib.hid hb7
          have HBW7 := Lib.hid (HB.out.drew.trans (hb7.mono HB.out.drew.size))
          clear ho7 hb7
          refine hK.out _ _ ((HCC.out _ HBW7.out).2) (fun hHeld2 => ?_)
          clear hK K hHeld; have hHeld := hHeld2; clear hHeld2
          try simp only [Act.put, nB, nC, nD]
          refine held_one (i := 20) rfl (by kernel_rfl) (by rfl) (fun K hK => ?_)
          go_simp
          refine hK.out _ _ (hHeld) (fun hHeld2 => ?_)
          clear hK K hHeld; have hHeld := hHeld2; clear hHeld2
          try simp only [Act.put, nB, nC, nD]
          refine held_one (i := 21) rfl (by kernel_rfl) (by rfl) (fun K hK => ?_)
          go_simp
          have HA8 := Lib.hid ((Below.refl w7.heap.size w7).alloc (Nat.le_refl _) (dmO (me : Int) (k : Int) (.slice A7 (encC 2 (me : Int) (k : Int) ID 0 0 0 0 []).length c7)))
          have HB8 := Lib.hid (HBW7.out.trans (HA8.out.mono HBW7.out.size))
          refine hK.out _ _ ((HCC.out _ HB8.out).2) (fun hHeld2 => ?_)
          clear hK K hHeld; have hHeld := hHeld2; clear hHeld2
          try simp only [Act.put, nB, nC, nD]
          refine held_one (i := 22) rfl (by kernel_rfl) (by rfl) (fun K hK => ?_)
          refine wp_append_dm (.tmp 25) (.tmp 46) (by rfl) w.heap.size vv me ms k _ (encC 2 (me : Int) (k : Int) ID 0 0 0 0 []) (by rfl) (HD.out.belows ((Below.refl _ _).drew.trans ((HB7.out.trans (HA8.out.mono HB7.out.size))))) w7.heap.size (by rfl) (heap_alloc_new _ _) (Rd.of_own (HO7.out.below HA8.out (Nat.le_refl _)) HB.out.drew.size (fun j hj => (HGE.out j hj).2)) HMS.out HB8.out.size ?_
          intro v9 w9 r9 g9 e9
          have HD9 := Lib.hid r9
          have HB9 := Lib.hid (HB8.out.grown g9 HB8.out.size (fun j hj => (HGE.out j hj).1))
          clear r9 g9 e9
          refine hK.out _ _ ((HCC.out _ HB9.out).2) (fun hHeld2 => ?_)
          clear hK K hHeld; have hHeld := hHeld2; clear hHeld2
          try simp only [Act.put, nB, nC, nD]
          refine held_one (i := 23) rfl (by kernel_rfl) (by rfl) (fun K hK => ?_)
          go_simp
          refine hK.out _ _ (hHeld) (fun hHeld2 => ?_)
          clear hK K hHeld; have hHeld := hHeld2; clear hHeld2
          try simp only [Act.put, nB, nC, nD]
          refine wpAnyH_done (by kernel_rfl) ?_ _
          clear hHeld
          have HMP := Lib.hid (show (ms ++ [(k, Value.slice A7 (encC 2 (me : Int) (k : Int) ID 0 0 0 0 []).length c7, encC 2 (me : Int) (k : Int) ID 0 0 0 0 [])]).map (fun m => (m.1, m.2.2)) = (otN me (k + 1)).map (fun (i : Nat) => (i, encC 2 (me : Int) i ID 0 0 0 0 [])) by rw [List.map_append, HM.out, HTK.out, List.map_append]; rfl)
          go_wp2_with fail
          go_roundw
          case rel => exact ⟨k + 1, _, _, by go_num, rfl, hk2.out, HD9, HMP, HB9⟩
          case measure => simp [intOf]; have := hms.out; omega
      · obtain rfl : N = k := by omega
        obtain ⟨e18, f18, G18⟩ := HEND.out wr HB.out
        have HG := Lib.hid G18
        have HDT : Hid (DTells (wr.setCell ⟨kc, 18, none⟩ (.bool true)) w.heap.size vv me ((otN me N).map (fun (i : Nat) => (i, encC 2 (me : Int) i ID 0 0 0 0 [])))) := DTells.keep ⟨ms, HD.out, HM.out⟩ (fun k hk _ => Below.heap_setCell _ _ _ _ (fun e => by have := HKL.out; have e2 : k = kc := e; omega))
        clear G18 HD HM
        go_wp2_with fail
        go_ret
        refine ⟨_, rfl, w.heap.size, by rw [HXS.out, HMQ.out]; exact HDT.out, Nat.le_refl _, ?_⟩
        exact HG.out.less (fun k hk => ⟨hk.1, by have := hk.2; simpa [World.setCell] using this⟩)
theorem GoesD.set_clock {w0 w : World} {K : Dm} (h : DM w0 w K) (n : Nat) {kc : Nat} (hkc : K.c = kc) : GoesD w0 w K (w.setCell ⟨kc, 11, none⟩ (.int .i64 (n : Int))) { K.s with ck := n } := by
  rw [← hkc]; exact h.set_clock n
theorem ob_facts {w : World} {base : Nat} {A : Option Addr} {n c : Nat} {l : List UInt8} (h : OB w base (.slice A n c) l) : l.length = n ∧ n ≤ c ∧ c ≤ maxLen ∧ RB w w.heap.size A l := by
  obtain ⟨A', c', e, h1, h2, h3⟩ := h.form_n l.length rfl
  injection e with e1 e2 e3
  subst e1 e2 e3
  exact ⟨rfl, h1, h2, h3⟩
theorem late_none (C : Cf) (s : Pl) (h : ∀ j, j < C.n → isLate C s j = false) : lateP C s = none := by
  unfold lateP
  rw [List.find?_eq_none]
  intro j hj
  rw [h j (List.mem_range.1 hj)]
  simp
theorem late_some (C : Cf) (s : Pl) (k : Nat) (hk : k < C.n) (h : ∀ j, j < k → isLate C s j = false) (hl : isLate C s k = true) : lateP C s = some k := by
  unfold lateP
  refine find_take (isLate C s) (List.range C.n) k k (by rw [List.getElem?_range hk]) ?_ hl
  rw [List.find?_eq_none]
  intro j hj
  rw [List.take_range, List.mem_range] at hj
  rw [h j (by omega)]
  simp
theorem isLate_eq (C : Cf) (s : Pl) (k : Nat) (x : Pr) (hx : s.ps[k]? = some x) : isLate C s k = (decide (k ≠ C.me) && decide (x.he + 40 ≤ s.ck)) := by
  unfold isLate; rw [hx]
theorem said_in (C : Cf) (s : Pl) (k : Nat) (x : Pr) (hx : s.ps[k]? = some x) (lk lm : List UInt8) (h1 : s.L[k]? = some lk) (h2 : s.L[C.me]? = some lm) : saidP C s k = encC 1 C.me k C.id (x.ha : Nat) ((lk.length : Nat) : Int) (s.ms.length : Nat) (lastM s) ((lm.drop x.ha).take 32) := by
  unfold saidP; rw [hx, h1, h2]; rfl
theorem goesd_beside {w0 w wl w' : World} {K : Dm} {s : Pl} (g : GoesD w0 w K wl s) (hb : Below wl.heap.size wl w') : GoesO w0 w K w' s (fun k => wl.heap.size ≤ k ∧ k < w'.heap.size) := by
  obtain ⟨K1, e1, e2, e3, H1, L1, N1⟩ := g.belows hb
  obtain ⟨K2, f1, f2, f3, H2, L2, N2⟩ := g
  exact ⟨K2, f1, f2, f3, H2.belows hb, L2.trans (Lv.of_below (B := noB) hb) (fun k hk => hk.elim), N2, fun k hk => ⟨hk.2, fun e => by have := (H2.lt e).2; have := hk.1; omega⟩⟩
set_option maxHeartbeats 16000000 in
theorem doc_tick (w0 w : World) (K : Dm) (h : DM w0 w K) (m : Nat) (hok : Ok K.C m K.s) (hm9 : m ≤ 10000) (h0N : 0 < K.C.n) (h8 : K.C.n ≤ 8) (hme : K.C.me < K.C.n) (xs : List (Nat × List UInt8)) (s' : Pl) (hp : tickP K.C K.s = (xs, s')) {kc : Nat} (hkc : K.c = kc) :
    Calls Tryz.prog 21 #[pB kc] w fun e w' => ∃ v, e = .returned v ∧ DTold w0 w K w' s' xs v := by
  have hcl : w.cell? ⟨kc, 18, none⟩ = some (.bool K.s.cl) := by rw [← hkc]; exact h.cell 18 _ rfl
  have HH := Lib.hid h
  unfold tickP at hp
  by_cases hcz : K.s.cl = true
  · rw [if_pos hcz] at hp
    injection hp with ea es
    subst ea es
    rw [hcz] at hcl
    clear h hkc hok
    go_enter Tryz.func21, Tryz.ntmps21
    go_wp2_with fail
    go_ret
    exact ⟨_, rfl, DTold.none_ (HH.out.goes (Below.refl _ _))⟩
  · rw [if_neg hcz] at hp
    have hcf : K.s.cl = false := by simpa using hcz
    rw [hcf] at hcl
    obtain ⟨ck, hck⟩ : ∃ ck, K.s.ck = ck := ⟨_, rfl⟩
    rw [hck] at hp
    have c11 : w.cell? ⟨kc, 11, none⟩ = some (.int .i64 (ck : Int)) := by rw [← hkc, ← hck]; exact h.cell 11 _ rfl
    have f11 : w.frozen? ⟨kc, 11, none⟩ = false := by rw [← hkc]; exact h.fz 11
    have hckm : ck ≤ 10000 := by have := hok.ck; omega
    obtain ⟨c1, hc1⟩ : ∃ c1 : Nat, ck + 1 = c1 := ⟨_, rfl⟩
    have hc1i : (ck : Int) + 1 = (c1 : Int) := by omega
    have hc1m : c1 ≤ 10001 := by omega
    rw [hc1] at hp
    obtain ⟨N, hN⟩ : ∃ N, K.C.n = N := ⟨_, rfl⟩
    obtain ⟨me, hmq⟩ : ∃ me, K.C.me = me := ⟨_, rfl⟩
    obtain ⟨ID, hID⟩ : ∃ ID, K.C.id = ID := ⟨_, rfl⟩
    obtain ⟨s1, hs1⟩ : ∃ s1, { K.s with ck := c1 } = s1 := ⟨_, rfl⟩
    rw [hs1] at hp
    have HS1 := Lib.hid hs1
    have hg1 := GoesD.set_clock h c1 hkc
    rw [hs1] at hg1
    have HG1 := Lib.hid hg1
    have HP := Lib.hid hp
    have ok1 : Ok K.C (m + 1) s1 := by rw [← hs1]; exact ⟨hok.L, hok.ll, hok.p, fun x hx => ⟨Nat.le_succ_of_le (hok.pr x hx).1, (hok.pr x hx).2⟩, by show c1 ≤ m + 1; have := hok.ck; omega, hok.ms, hok.mu, by show K.s.es.length ≤ 10 * (m + 1); have := hok.es; omega⟩
    have HOK := Lib.hid ok1
    have hsck : s1.ck = c1 := by rw [← hs1]
    have HPS : Hid (∀ k, k < N → ∃ x, s1.ps[k]? = some x ∧ x.he ≤ 10001) := fun k hk => by
      obtain ⟨x, hx⟩ := ok1.at k (by rw [hN]; exact hk)
      exact ⟨x, hx, by have := (ok1.pr x (List.mem_of_getElem? hx)).1; omega⟩
    have HLT : Hid (∀ k x, s1.ps[k]? = some x → isLate K.C s1 k = (decide (k ≠ me) && decide (x.he + 40 ≤ c1))) := fun k x hx => by rw [isLate_eq K.C s1 k x hx, hmq, hsck]
    have HLK : Hid (∀ W, GoesD w0 w K W s1 → ∀ k x, s1.ps[k]? = some x → ∃ kh, (W.cell? ⟨kc, 0, none⟩ = some (.int .i64 (N : Int)) ∧ W.cell? ⟨kc, 1, none⟩ = some (.int .i64 (me : Int))) ∧ W.cell? ⟨kc, 11, none⟩ = some (.int .i64 (c1 : Int)) ∧ W.cell? ⟨kc, 12, none⟩ = some (.slice (some ⟨kh, 0, none⟩) N N) ∧ W.cell? ⟨kh, k, none⟩ = some (.int .i64 (x.he : Int))) := fun W g k x hx => by
      obtain ⟨K1, e1, e2, e3, H1, L1, N1⟩ := g
      obtain ⟨⟨b0, -, -⟩, ⟨b1, -⟩, -, -⟩ := H1.all (e3.trans hkc) (by rw [e2, hN]) rfl rfl rfl k x (by rw [e1]; exact hx)
      have q0 := H1.cell 0 _ rfl; have q1 := H1.cell 1 _ rfl; have q2 := H1.cell 11 _ rfl
      rw [e3, hkc, e2, hN] at q0; rw [e3, hkc, e2, hmq] at q1; rw [e3, hkc, e1, hsck] at q2
      exact ⟨K1.h, ⟨q0, q1⟩, q2, b0, b1⟩
    have HN0 : Hid (∀ W s2, GoesD w0 w K W s2 → W.cell? ⟨kc, 0, none⟩ = some (.int .i64 (N : Int))) := fun W s2 g => by
      obtain ⟨K1, e1, e2, e3, H1, L1, N1⟩ := g
      have q0 := H1.cell 0 _ rfl
      rw [e3, hkc, e2, hN] at q0
      exact q0
    have HEV : Hid (∀ W (k : Nat), GoesD w0 w K W s1 → Calls Tryz.prog 75 #[pB kc, .int .i64 2, .int .i64 (k : Int), .int .i64 0] W fun en w' => en = .returned (.tuple #[]) ∧ GoesD w0 w K w' { s1 with es := s1.es ++ [.l k] }) := fun W k g => event_goes g (.l k) 2 k 0 rfl (by have := ok1.es; omega) hkc
    have HCLO : Hid (∀ W s2, GoesD w0 w K W s2 → W.cell? ⟨kc, 18, none⟩ = some (.bool s2.cl) ∧ W.frozen? ⟨kc, 18, none⟩ = false ∧ GoesD w0 w K (W.setCell ⟨kc, 18, none⟩ (.bool true)) { s2 with cl := true }) := fun W s2 g => by
      obtain ⟨K1, e1, e2, e3, H1, L1, N1⟩ := g
      have r1 := H1.cell 18 _ rfl
      have r2 := H1.fz 18
      have r3 := H1.set_closed
      rw [e3, hkc] at r1 r2 r3
      rw [e1] at r1 r3
      exact ⟨r1, r2, goesd_then L1 N1 e2 e3 r3⟩
    have HKC := Lib.hid hkc; have HNN := Lib.hid hN; have HME := Lib.hid hmq; have HID := Lib.hid hID; have HMEL : Hid (me < N) := by show _ < _; omega
    rw [hN] at h8 h0N
    clear h hok hp hg1 hkc hcz hcf hck hc1 hs1 hsck hN hmq hID ok1 hme
    go_enter Tryz.func21, Tryz.ntmps21
    go_wp2_with fail
    clear c11 f11
    go_loopw [3] (fun ii wr => ∃ k : Nat, ii = .int .i64 (k : Int) ∧ k ≤ N ∧ Hid (∀ j, j < k → isLate K.C s1 j = false) ∧ Hid (GoesD w0 w K wr s1)) (fun ii _ => N - (intOf ii).toNat)
    case atStart => exact ⟨0, rfl, by omega, fun j hj => by omega, HG1⟩
    case round =>
      obtain ⟨k, rfl, hk, HF, HG⟩ := hrel
      clear HG1
      by_cases hlt : k < N
      · obtain ⟨x, hx, hxh⟩ := HPS.out k hlt
        obtain ⟨kh, ⟨a0, a1⟩, a11, a12, ah⟩ := HLK.out wr HG.out k x hx
        have hlo := HLT.out k x hx
        obtain ⟨he, hhe⟩ : ∃ he, x.he = he := ⟨_, rfl⟩
        rw [hhe] at ah hlo hxh
        have hkn : (k : Int) < (N : Int) := by omega
        have hk2 : Hid (k + 1 ≤ N) := hlt
        have hms : Hid (N - (k + 1) < N - k) := by show _ < _; omega
        have hd1 : IntKind.i64.wrap ((c1 : Int) - (he : Int)) = (c1 : Int) - (he : Int) := by rw [IntKind.wrap_i64]; omega
        have HLO := Lib.hid hlo
        clear hlo hx hhe
        by_cases hkm : k = me
        · have HF2 : Hid (∀ j, j < k + 1 → isLate K.C s1 j = false) := fun j hj => by
            by_cases e : j = k
            · rw [e, HLO.out, hkm]; simp
            · exact HF.out j (by omega)
          subst hkm
          clear HF
          go_wp2_with fail
          (try (go_big_region; go_wp2_with fail))
          go_roundw
          case rel => exact ⟨k + 1, by go_num, hk2.out, HF2, HG.out.drew⟩
          case measure => simp [intOf]; have := hms.out; omega
        · have hkb : ((k : Int) == (me : Int)) = false := by simp; omega
          have hkc2 : ((k : Int) != (me : Int)) = true := by simp; omega
          by_cases hl : he + 40 ≤ c1
          · have hli : (40 : Int) ≤ (c1 : Int) - (he : Int) := by omega
            have HLS : Hid (lateP K.C s1 = some k) := late_some K.C s1 k (by rw [HNN.out]; exact hlt) HF.out (by rw [HLO.out]; simp [hkm, hl])
            clear hkm hl
            go_wp2_with fail
            go_big_region
            have HG3 := Lib.hid HG.out.drew
            go_wp2_with (first
              | (go_at_call 75; (refine (HEV.out _ k HG3.out).mono ?_); rintro en w6 ⟨rfl, hg⟩; obtain ⟨cc6, fz6, hg6⟩ := HCLO.out _ _ hg; have HG6 := Lib.hid hg6; clear hg hg6))
            go_ret
            have hp := HP.out
            rw [HLS.out] at hp
            injection hp with ea es
            subst ea
            refine ⟨_, rfl, DTold.none_ ?_⟩
            rw [← es]
            have h9 := HG6.out
            rw [← HS1.out] at h9
            exact h9
          · have hli : (c1 : Int) - (he : Int) < 40 := by omega
            have hld : decide ((40 : Int) ≤ (c1 : Int) - (he : Int)) = false := by simp; omega
            have HF2 : Hid (∀ j, j < k + 1 → isLate K.C s1 j = false) := fun j hj => by
              by_cases e : j = k
              · rw [e, HLO.out]; simp [hl]
              · exact HF.out j (by omega)
            clear hkm hl
            go_wp2_with fail
            go_big_region
            go_wp2_with fail
            go_roundw
            case rel => exact ⟨k + 1, by go_num, hk2.out, HF2, HG.out.drew⟩
            case measure => simp [intOf]; have := hms.out; omega
      · obtain rfl : N = k := by omega
        have HLN : Hid (lateP K.C s1 = none) := late_none K.C s1 (fun j hj => HF.out j (by rw [← HNN.out]; exact hj))
        have hp := HP.out
        rw [HLN.out] at hp
        injection hp with ea es
        have HEA := Lib.hid ea; have HES := Lib.hid es
        have a0 := HN0.out wr s1 HG.out
        clear ea es HF HP
        obtain ⟨K1, e1, e2, e3, H1, -, -⟩ := HG.out
        have hL1 : K1.s.L.length = N := by rw [e1, HOK.out.L, HNN.out]
        obtain ⟨g, cap, cur, hlv, -, -, -, -⟩ := H1.lines (by omega) N hL1
        obtain ⟨A, capm, hmv, -, -⟩ := H1.marks
        obtain ⟨M, hM⟩ : ∃ M, s1.ms.length = M := ⟨_, rfl⟩
        rw [e1, hM] at hmv
        have hM1 : M ≤ 1000 := by rw [← hM]; exact HOK.out.ms
        obtain ⟨ab, hab⟩ : ∃ ab, K1.a = ab := ⟨_, rfl⟩
        obtain ⟨lm, hlm, hlm1⟩ := HOK.out.line me (by rw [HNN.out]; exact HMEL.out)
        obtain ⟨LM, hLM⟩ : ∃ LM, lm.length = LM := ⟨_, rfl⟩
        obtain ⟨Am, cm, hm1, hm2, -, hm3, hm4⟩ := H1.line_at hlv me lm (by rw [e1]; exact hlm) LM hLM
        obtain ⟨su, hsu⟩ : ∃ su, lastM s1 = su := ⟨_, rfl⟩
        have hsur : 0 ≤ su ∧ su ≤ 4294967295 := by rw [← hsu]; exact last_rng HOK.out
        have HW1 : Hid (∀ W, Below wr.heap.size wr W → DM w0 W K1) := fun W hW => H1.belows hW
        have HCA : Hid (∀ W, Below wr.heap.size wr W → W.cell? ⟨kc, 0, none⟩ = some (.int .i64 (N : Int)) ∧ W.cell? ⟨kc, 1, none⟩ = some (.int .i64 (me : Int)) ∧ W.cell? ⟨kc, 2, none⟩ = some (.int .i64 ID) ∧ W.cell? ⟨kc, 10, none⟩ = some (.slice (some ⟨g, 0, none⟩) N cap) ∧ W.cell? ⟨kc, 16, none⟩ = some (.slice A M capm)) := fun W hW => by
          have q0 := (HW1.out W hW).cell 0 _ rfl; have q1 := (HW1.out W hW).cell 1 _ rfl; have q2 := (HW1.out W hW).cell 2 _ rfl; have q3 := (HW1.out W hW).cell 10 _ rfl; have q4 := (HW1.out W hW).cell 16 _ rfl
          rw [e3, HKC.out] at q0 q1 q2 q3 q4
          rw [e2, HNN.out] at q0; rw [e2, HME.out] at q1; rw [e2, HID.out] at q2; rw [hlv] at q3; rw [hmv] at q4
          exact ⟨q0, q1, q2, q3, q4⟩
        have HCK : Hid (∀ k x, s1.ps[k]? = some x → ∀ lk, s1.L[k]? = some lk → ∀ LK, lk.length = LK → ∃ Ak ckk, ∀ W, Below wr.heap.size wr W → W.cell? ⟨kc, 13, none⟩ = some (.slice (some ⟨ab, 0, none⟩) N N) ∧ W.cell? ⟨ab, k, none⟩ = some (.int .i64 (x.ha : Int)) ∧ W.cell? ⟨g, k, none⟩ = some (.slice Ak LK ckk)) := fun k x hx lk hlk LK hLK => by
          obtain ⟨Ak, ckk, z1, -, -, -, -⟩ := H1.line_at hlv k lk (by rw [e1]; exact hlk) LK hLK
          refine ⟨Ak, ckk, fun W hW => ?_⟩
          obtain ⟨⟨-, b0, -⟩, -, ⟨b1, -⟩, -⟩ := (HW1.out W hW).all (e3.trans HKC.out) (by rw [e2, HNN.out]) rfl hab rfl k x (by rw [e1]; exact hx)
          exact ⟨b0, b1, (hW.cell (p := ⟨g, k, none⟩) (cell_lt z1)).trans z1⟩
        have HFR : Hid (∀ W, Below wr.heap.size wr W → ∀ first : Nat, Calls Tryz.prog 76 #[.pointer (some ⟨g, me, none⟩), .int .i64 (first : Int), .int .i64 32] W fun e w' => ∃ v, e = .returned v ∧ OB w' W.heap.size v ((lm.drop first).take 32) ∧ Below W.heap.size W w') := fun W hW first =>
          rfrom_any W g me Am lm LM cm first ((hW.cell (p := ⟨g, me, none⟩) (cell_lt hm1)).trans hm1) hLM hm3 hm4 ((hm2.below hW).more hW.size) (by omega)
        have HMK : Hid (0 < M → ∃ b, A = some ⟨b, 0, none⟩ ∧ ∀ W, Below wr.heap.size wr W → W.cell? ⟨b, M - 1, none⟩ = some (.int .u32 su)) := fun h0 => by
          have hlast : s1.ms[M - 1]? = some su := by
            rw [← hsu]; unfold lastM
            rw [hM, if_pos h0, List.getElem?_eq_getElem (by omega)]; rfl
          obtain ⟨b, q1, q2, q3⟩ := H1.mark (A := A) (c := capm) (by rw [e1, hM]; exact hmv) (M - 1) su (by rw [e1]; exact hlast)
          exact ⟨b, q1, fun W hW => (hW.cell (p := ⟨b, M - 1, none⟩) q2).trans q3⟩
        have HM0 : Hid (¬ 0 < M → su = 0) := fun h0 => by rw [← hsu]; unfold lastM; rw [hM, if_neg h0]
        have HSD : Hid (∀ (k : Nat) (x : Pr) (lk : List UInt8) (LK : Nat), s1.ps[k]? = some x → s1.L[k]? = some lk → lk.length = LK → saidP K.C s1 k = encC 1 (me : Int) (k : Int) ID (x.ha : Int) (LK : Int) (M : Int) su ((lm.drop x.ha).take 32)) := fun k x lk LK hx hlk hLK => by
          rw [said_in K.C s1 k x hx lk lm hlk (by rw [HME.out]; exact hlm), HME.out, HID.out, hLK, hM, hsu]
        have HLL : Hid (∀ k, k < N → ∃ x lk, s1.ps[k]? = some x ∧ s1.L[k]? = some lk) := fun k hk => by
          obtain ⟨x, hx, -⟩ := HPS.out k hk
          obtain ⟨lk, hlk, -⟩ := HOK.out.line k (by rw [HNN.out]; exact hk)
          exact ⟨x, lk, hx, hlk⟩
        have HXS : Hid (xs = (otN me N).map (fun i => (i, saidP K.C s1 i))) := by
          show _ = _
          rw [← HEA.out, othersP_eq, HME.out, HNN.out, ← HS1.out]
          rfl
        have HSU := Lib.hid hsur
        have HW0 : Hid (w.heap.size ≤ wr.heap.size) := by obtain ⟨K9, -, -, -, -, L9, -⟩ := HG.out; exact L9.size
        clear H1 e1 e2 e3 hL1 hlv hmv hM hab hlm hlm1 hLM hm1 hm2 hm3 hm4 hsu hsur HEA a0
        obtain ⟨a0, -⟩ := HCA.out wr (Below.refl _ _)
        obtain ⟨wl, hwl⟩ : ∃ wl, wl = wr := ⟨_, rfl⟩
        rw [← hwl] at HG HW1 HCA HCK HFR HMK HW0
        have HWL : Hid (Below wl.heap.size wl wr) := by rw [hwl]; exact Below.refl _ _
        clear hwl
        go_wp2_with fail
        clear a0
        go_loopw [4, 5] (fun u i wr => ∃ (k : Nat) (uu : Value) (ms : List Md), i = .int .i64 (k : Int) ∧ uu = u ∧ k ≤ N ∧ Hid (DT wr wl.heap.size uu me ms) ∧ Hid (ms.map (fun m => (m.1, m.2.2)) = (otN me k).map (fun i => (i, saidP K.C s1 i))) ∧ Hid (Below wl.heap.size wl wr)) (fun _ i _ => N - (intOf i).toNat)
        case atStart => exact ⟨0, _, [], rfl, rfl, by omega, DT.nil _ _ _, rfl, HWL⟩
        case round =>
          obtain ⟨k, vv, ms, rfl, rfl, hk, HD, HM, HB⟩ := hrel
          clear HWL
          obtain ⟨c0, c1', c2', c10', c16'⟩ := HCA.out _ HB.out
          by_cases hlt : k < N
          · have hkn : (k : Int) < (N : Int) := by omega
            have hk2 : Hid (k + 1 ≤ N) := hlt
            have hms : Hid (N - (k + 1) < N - k) := by show _ < _; omega
            by_cases hkm : k = me
            · have HM2 : Hid (ms.map (fun m => (m.1, m.2.2)) = (otN me (k + 1)).map (fun i => (i, saidP K.C s1 i))) := by show _ = _; rw [HM.out, otN_off me k hkm]
              subst hkm
              clear HM
              go_wp2_with fail
              go_roundw
              case rel => exact ⟨k + 1, _, ms, by go_num, rfl, hk2.out, HD, HM2, HB⟩
              case measure => simp [intOf]; have := hms.out; omega
            · have hkb : ((k : Int) == (me : Int)) = false := by simp; omega
              have HTK : Hid (otN me (k + 1) = otN me k ++ [k]) := otN_on me k hkm
              have HMS : Hid (ms.length + 1 ≤ 1000000) := by
                show _ ≤ _
                have := congrArg List.length HM.out
                rw [List.length_map, List.length_map] at this
                have := otN_len me k
                omega
              have HGE : Hid (∀ j, vv.ownBlock = some j → wl.heap.size ≤ j ∧ j < wr.heap.size) := fun j hj => HD.out.lt j hj
              obtain ⟨x, lk, hx, hlk⟩ := HLL.out k hlt
              obtain ⟨LK, hLK⟩ : ∃ LK, lk.length = LK := ⟨_, rfl⟩
              obtain ⟨Ak, ckk, hck2⟩ := HCK.out k x hx lk hlk LK hLK
              have HSK := Lib.hid (HSD.out k x lk LK hx hlk hLK)
              obtain ⟨ha, hha⟩ : ∃ ha, x.ha = ha := ⟨_, rfl⟩
              rw [hha] at hck2 HSK
              have HF16 : Hid (∀ W, Below wl.heap.size wl W → (fun w' => w'.cell? ⟨kc, 1, none⟩ = some (.int .i64 (me : Int)) ∧ w'.cell? ⟨kc, 2, none⟩ = some (.int .i64 ID) ∧ w'.cell? ⟨kc, 13, none⟩ = some (.slice (some ⟨ab, 0, none⟩) N N) ∧ w'.cell? ⟨ab, k, none⟩ = some (.int .i64 (ha : Int)) ∧ w'.cell? ⟨kc, 10, none⟩ = some (.slice (some ⟨g, 0, none⟩) N cap) ∧ w'.cell? ⟨g, k, none⟩ = some (.slice Ak LK ckk) ∧ w'.cell? ⟨kc, 16, none⟩ = some (.slice A M capm)) W) := fun W hW => by
                obtain ⟨-, y1, y2, y3, y4⟩ := HCA.out W hW
                obtain ⟨z1, z2, z3⟩ := hck2 W hW
                exact ⟨y1, y2, z1, z2, y3, z3, y4⟩
              obtain ⟨pr, hpr⟩ : ∃ pr, (lm.drop ha).take 32 = pr := ⟨_, rfl⟩
              have HFK := Lib.hid (fun W hW => HFR.out W hW ha)
              rw [hpr] at HFK HSK
              have hmei : (me : Int) < (N : Int) := by have := HMEL.out; omega
              clear hx hlk hLK hck2 hha hpr hkm c10' c16' c2'
              go_upto_region 16 with fail
              go_cut [6] (fun s6 wx => ∃ (P : Nat) (A2 : Option Addr) (n2 c2 : Nat), s6 = .pointer (some ⟨P, 0, none⟩) ∧ Hid (PkM wx P 1 (me : Int) (k : Int) ID (ha : Int) A2 n2 c2 (LK : Int) (M : Int) 0) ∧ Hid (OB wx wr.heap.size (.slice A2 n2 c2) pr) ∧ Hid (Below wr.heap.size wr wx) ∧ Hid (wr.heap.size ≤ P) ∧ Hid (∀ j, (Value.slice A2 n2 c2).ownBlock = some j → j ≠ P))
              case first =>
                refine wp_region_held_drew (S := (fun w' => w'.cell? ⟨kc, 1, none⟩ = some (.int .i64 (me : Int)) ∧ w'.cell? ⟨kc, 2, none⟩ = some (.int .i64 ID) ∧ w'.cell? ⟨kc, 13, none⟩ = some (.slice (some ⟨ab, 0, none⟩) N N) ∧ w'.cell? ⟨ab, k, none⟩ = some (.int .i64 (ha : Int)) ∧ w'.cell? ⟨kc, 10, none⟩ = some (.slice (some ⟨g, 0, none⟩) N cap) ∧ w'.cell? ⟨g, k, none⟩ = some (.slice Ak LK ckk) ∧ w'.cell? ⟨kc, 16, none⟩ = some (.slice A M capm))) (by kernel_rfl) (HF16.out _ HB.out.drew) (fun hHeld => ?_)
                refine held_take (i := 0) (v := ?_) rfl (by kernel_rfl) (by kernel_rfl) (by kernel_rfl) (fun _ _ _ h => h) (by rfl) hHeld ?_ ?_
                rotate_left 1
                · (intro w hSw; (try dsimp only at hSw); go_simp; try (with_reducible rfl))
                try simp only [Act.put, nB, nC, nD]
                refine held_take (i := 1) (v := ?_) rfl (by kernel_rfl) (by kernel_rfl) (by kernel_rfl) (fun _ _ _ h => h) (by rfl) hHeld ?_ ?_
                rotate_left 1
                · (intro w hSw; (try dsimp only at hSw); go_simp; try (with_reducible rfl))
                try simp only [Act.put, nB, nC, nD]
                refine held_take (i := 2) (v := ?_) rfl (by kernel_rfl) (by kernel_rfl) (by kernel_rfl) (fun _ _ _ h => h) (by rfl) hHeld ?_ ?_
                rotate_left 1
                · (intro w hSw; (try dsimp only at hSw); go_simp; try (with_reducible rfl))
                try simp only [Act.put, nB, nC, nD]
                refine held_take (i := 3) (v := ?_) rfl (by kernel_rfl) (by kernel_rfl) (by kernel_rfl) (fun _ _ _ h => h) (by rfl) hHeld ?_ ?_
                rotate_left 1
                · (intro w hSw; (try dsimp only at hSw); go_simp; try (with_reducible rfl))
                try simp only [Act.put, nB, nC, nD]
                refine held_take (i := 4) (v := ?_) rfl (by kernel_rfl) (by kernel_rfl) (by kernel_rfl) (fun _ _ _ h => h) (by rfl) hHeld ?_ ?_
                rotate_left 1
                · (intro w hSw; (try dsimp only at hSw); go_simp; try (with_reducible rfl))
                try simp only [Act.put, nB, nC, nD]
                refine held_take (i := 5) (v := ?_) rfl (by kernel_rfl) (by kernel_rfl) (by kernel_rfl) (fun _ _ _ h => h) (by rfl) hHeld ?_ ?_
                rotate_left 1
                · (intro w hSw; (try dsimp only at hSw); go_simp; try (with_reducible rfl))
                try simp only [Act.put, nB, nC, nD]
                refine held_take (i := 6) (v := ?_) rfl (by kernel_rfl) (by kernel_rfl) (by kernel_rfl) (fun _ _ _ h => h) (by rfl) hHeld ?_ ?_
                rotate_left 1
                · (intro w hSw; (try dsimp only at hSw); go_simp; try (with_reducible rfl))
                try simp only [Act.put, nB, nC, nD]
                refine held_take (i := 7) (v := ?_) rfl (by kernel_rfl) (by kernel_rfl) (by kernel_rfl) (fun _ _ _ h => h) (by rfl) hHeld ?_ ?_
                rotate_left 1
                · (intro w hSw; (try dsimp only at hSw); go_simp; try (with_reducible rfl))
                try simp only [Act.put, nB, nC, nD]
                refine held_take (i := 8) (v := ?_) rfl (by kernel_rfl) (by kernel_rfl) (by kernel_rfl) (fun _ _ _ h => h) (by rfl) hHeld ?_ ?_
                rotate_left 1
                · (intro w hSw; (try dsimp only at hSw); go_simp; try (with_reducible rfl))
                try simp only [Act.put, nB, nC, nD]
                refine held_take (i := 9) (v := ?_) rfl (by kernel_rfl) (by kernel_rfl) (by kernel_rfl) (fun _ _ _ h => h) (by rfl) hHeld ?_ ?_
                rotate_left 1
                · (intro w hSw; (try dsimp only at hSw); go_simp; try (with_reducible rfl))
                try simp only [Act.put, nB, nC, nD]
                refine held_take (i := 10) (v := ?_) rfl (by kernel_rfl) (by kernel_rfl) (by kernel_rfl) (fun _ _ _ h => h) (by rfl) hHeld ?_ ?_
                rotate_left 1
                · (intro w hSw; (try dsimp only at hSw); go_simp; try (with_reducible rfl))
                try simp only [Act.put, nB, nC, nD]
                refine held_take (i := 11) (v := ?_) rfl (by kernel_rfl) (by kernel_rfl) (by kernel_rfl) (fun _ _ _ h => h) (by rfl) hHeld ?_ ?_
                rotate_left 1
                · (intro w hSw; (try dsimp only at hSw); go_simp; try (with_reducible rfl))
                try simp only [Act.put, nB, nC, nD]
                refine held_take (i := 12) (v := ?_) rfl (by kernel_rfl) (by kernel_rfl) (by kernel_rfl) (fun _ _ _ h => h) (by rfl) hHeld ?_ ?_
                rotate_left 1
                · (intro w hSw; (try dsimp only at hSw); go_simp; try (with_reducible rfl))
                try simp only [Act.put, nB, nC, nD]
                refine held_take (i := 13) (v := ?_) rfl (by kernel_rfl) (by kernel_rfl) (by kernel_rfl) (fun _ _ _ h => h) (by rfl) hHeld ?_ ?_
                rotate_left 1
                · (intro w hSw; (try dsimp only at hSw); go_simp; try (with_reducible rfl))
                try simp only [Act.put, nB, nC, nD]
                refine held_take (i := 14) (v := ?_) rfl (by kernel_rfl) (by kernel_rfl) (by kernel_rfl) (fun _ _ _ h => h) (by rfl) hHeld ?_ ?_
                rotate_left 1
                · (intro w hSw; (try dsimp only at hSw); go_simp; try (with_reducible rfl))
                try simp only [Act.put, nB, nC, nD]
                refine held_take (i := 15) (v := ?_) rfl (by kernel_rfl) (by kernel_rfl) (by kernel_rfl) (fun _ _ _ h => h) (by rfl) hHeld ?_ ?_
                rotate_left 1
                · (intro w hSw; (try dsimp only at hSw); go_simp; try (with_reducible rfl))
                try simp only [Act.put, nB, nC, nD]
                refine held_take (i := 16) (v := ?_) rfl (by kernel_rfl) (by kernel_rfl) (by kernel_rfl) (fun _ _ _ h => h) (by rfl) hHeld ?_ ?_
                rotate_left 1
                · (intro w hSw; (try dsimp only at hSw); go_simp; try (with_reducible rfl))
                try simp only [Act.put, nB, nC, nD]
                refine held_take (i := 17) (v := ?_) rfl (by kernel_rfl) (by kernel_rfl) (by kernel_rfl) (fun _ _ _ h => h) (by rfl) hHeld ?_ ?_
                rotate_left 1
                · (intro w hSw; (try dsimp only at hSw); go_simp; try (with_reducible rfl))
                try simp only [Act.put, nB, nC, nD]
                refine held_take (i := 18) (v := ?_) rfl (by kernel_rfl) (by kernel_rfl) (by kernel_rfl) (fun _ _ _ h => h) (by rfl) hHeld ?_ ?_
                rotate_left 1
                · (intro w hSw; (try dsimp only at hSw); go_simp; try (with_reducible rfl))
                try simp only [Act.put, nB, nC, nD]
                refine held_take (i := 19) (v := ?_) rfl (by kernel_rfl) (by kernel_rfl) (by kernel_rfl) (fun _ _ _ h => h) (by rfl) hHeld ?_ ?_
                rotate_left 1
                · (intro w hSw; (try dsimp only at hSw); go_simp; try (with_reducible rfl))
                try simp only [Act.put, nB, nC, nD]
                refine held_take (i := 20) (v := ?_) rfl (by kernel_rfl) (by kernel_rfl) (by kernel_rfl) (fun _ _ _ h => h) (by rfl) hHeld ?_ ?_
                rotate_left 1
                · (intro w hSw; (try dsimp only at hSw); go_simp; try (with_reducible rfl))
                try simp only [Act.put, nB, nC, nD]
                refine held_take (i := 21) (v := ?_) rfl (by kernel_rfl) (by kernel_rfl) (by kernel_rfl) (fun _ _ _ h => h) (by rfl) hHeld ?_ ?_
                rotate_left 1
                · (intro w hSw; (try dsimp only at hSw); go_simp; try (with_reducible rfl))
                try simp only [Act.put, nB, nC, nD]
                refine held_take (i := 22) (v := ?_) rfl (by kernel_rfl) (by kernel_rfl) (by kernel_rfl) (fun _ _ _ h => h) (by rfl) hHeld ?_ ?_
                rotate_left 1
                · (intro w hSw; (try dsimp only at hSw); go_simp; try (with_reducible rfl))
                try simp only [Act.put, nB, nC, nD]
                refine held_take (i := 23) (v := ?_) rfl (by kernel_rfl) (by kernel_rfl) (by kernel_rfl) (fun _ _ _ h => h) (by rfl) hHeld ?_ ?_
                rotate_left 1
                · (intro w hSw; (try dsimp only at hSw); go_simp; try (with_reducible rfl))
                try simp only [Act.put, nB, nC, nD]
                refine held_take (i := 24) (v := ?_) rfl (by kernel_rfl) (by kernel_rfl) (by kernel_rfl) (fun _ _ _ h => h) (by rfl) hHeld ?_ ?_
                rotate_left 1
                · (intro w hSw; (try dsimp only at hSw); go_simp; try (with_reducible rfl))
                try simp only [Act.put, nB, nC, nD]
                refine held_take (i := 25) (v := ?_) rfl (by kernel_rfl) (by kernel_rfl) (by kernel_rfl) (fun _ _ _ h => h) (by rfl) hHeld ?_ ?_
                rotate_left 1
                · (intro w hSw; (try dsimp only at hSw); go_simp; try (with_reducible rfl))
                try simp only [Act.put, nB, nC, nD]
                refine held_take (i := 26) (v := ?_) rfl (by kernel_rfl) (by kernel_rfl) (by kernel_rfl) (fun _ _ _ h => h) (by rfl) hHeld ?_ ?_
                rotate_left 1
                · (intro w hSw; (try dsimp only at hSw); go_simp; try (with_reducible rfl))
                try simp only [Act.put, nB, nC, nD]
                refine held_take (i := 27) (v := ?_) rfl (by kernel_rfl) (by kernel_rfl) (by kernel_rfl) (fun _ _ _ h => h) (by rfl) hHeld ?_ ?_
                rotate_left 1
                · (intro w hSw; (try dsimp only at hSw); go_simp; try (with_reducible rfl))
                try simp only [Act.put, nB, nC, nD]
                refine held_take (i := 28) (v := ?_) rfl (by kernel_rfl) (by kernel_rfl) (by kernel_rfl) (fun _ _ _ h => h) (by rfl) hHeld ?_ ?_
                rotate_left 1
                · (intro w hSw; (try dsimp only at hSw); go_simp; try (with_reducible rfl))
                try simp only [Act.put, nB, nC, nD]
                refine held_take (i := 29) (v := ?_) rfl (by kernel_rfl) (by kernel_rfl) (by kernel_rfl) (fun _ _ _ h => h) (by rfl) hHeld ?_ ?_
                rotate_left 1
                · (intro w hSw; (try dsimp only at hSw); go_simp; try (with_reducible rfl))
                try simp only [Act.put, nB, nC, nD]
                refine held_take (i := 30) (v := ?_) rfl (by kernel_rfl) (by kernel_rfl) (by kernel_rfl) (fun _ _ _ h => h) (by rfl) hHeld ?_ ?_
                rotate_left 1
                · (intro w hSw; (try dsimp only at hSw); go_simp; try (with_reducible rfl))
                try simp only [Act.put, nB, nC, nD]
                refine held_take (i := 31) (v := ?_) rfl (by kernel_rfl) (by kernel_rfl) (by kernel_rfl) (fun _ _ _ h => h) (by rfl) hHeld ?_ ?_
                rotate_left 1
                · (intro w hSw; (try dsimp only at hSw); go_simp; try (with_reducible rfl))
                try simp only [Act.put, nB, nC, nD]
                refine held_take (i := 32) (v := ?_) rfl (by kernel_rfl) (by kernel_rfl) (by kernel_rfl) (fun _ _ _ h => h) (by rfl) hHeld ?_ ?_
                rotate_left 1
                · (intro w hSw; (try dsimp only at hSw); go_simp; try (with_reducible rfl))
                try simp only [Act.put, nB, nC, nD]
                refine held_take (i := 33) (v := ?_) rfl (by kernel_rfl) (by kernel_rfl) (by kernel_rfl) (fun _ _ _ h => h) (by rfl) hHeld ?_ ?_
                rotate_left 1
                · (intro w hSw; (try dsimp only at hSw); go_simp; try (with_reducible rfl))
                try simp only [Act.put, nB, nC, nD]
                refine held_take (i := 34) (v := ?_) rfl (by kernel_rfl) (by kernel_rfl) (by kernel_rfl) (fun _ _ _ h => h) (by rfl) hHeld ?_ ?_
                rotate_left 1
                · (intro w hSw; (try dsimp only at hSw); go_simp; try (with_reducible rfl))
                try simp only [Act.put, nB, nC, nD]
                refine held_take (i := 36) (v := ?_) rfl (by kernel_rfl) (by kernel_rfl) (by kernel_rfl) (fun _ _ _ h => h) (by rfl) hHeld ?_ ?_
                rotate_left 1
                · (intro w hSw; (try dsimp only at hSw); go_simp; try (with_reducible rfl))
                try simp only [Act.put, nB, nC, nD]
                refine held_take (i := 37) (v := ?_) rfl (by kernel_rfl) (by kernel_rfl) (by kernel_rfl) (fun _ _ _ h => h) (by rfl) hHeld ?_ ?_
                rotate_left 1
                · (intro w hSw; (try dsimp only at hSw); go_simp; try (with_reducible rfl))
                try simp only [Act.put, nB, nC, nD]
                refine held_take (i := 38) (v := ?_) rfl (by kernel_rfl) (by kernel_rfl) (by kernel_rfl) (fun _ _ _ h => h) (by rfl) hHeld ?_ ?_
                rotate_left 1
                · (intro w hSw; (try dsimp only at hSw); go_simp; try (with_reducible rfl))
                try simp only [Act.put, nB, nC, nD]
                refine held_take (i := 39) (v := ?_) rfl (by kernel_rfl) (by kernel_rfl) (by kernel_rfl) (fun _ _ _ h => h) (by rfl) hHeld ?_ ?_
                rotate_left 1
                · (intro w hSw; (try dsimp only at hSw); go_simp; try (with_reducible rfl))
                try simp only [Act.put, nB, nC, nD]
                refine held_take (i := 40) (v := ?_) rfl (by kernel_rfl) (by kernel_rfl) (by kernel_rfl) (fun _ _ _ h => h) (by rfl) hHeld ?_ ?_
                rotate_left 1
                · (intro w hSw; (try dsimp only at hSw); go_simp; try (with_reducible rfl))
                try simp only [Act.put, nB, nC, nD]
                refine held_take (i := 41) (v := ?_) rfl (by kernel_rfl) (by kernel_rfl) (by kernel_rfl) (fun _ _ _ h => h) (by rfl) hHeld ?_ ?_
                rotate_left 1
                · (intro w hSw; (try dsimp only at hSw); go_simp; try (with_reducible rfl))
                try simp only [Act.put, nB, nC, nD]
                refine held_take (i := 42) (v := ?_) rfl (by kernel_rfl) (by kernel_rfl) (by kernel_rfl) (fun _ _ _ h => h) (by rfl) hHeld ?_ ?_
                rotate_left 1
                · (intro w hSw; (try dsimp only at hSw); go_simp; try (with_reducible rfl))
                try simp only [Act.put, nB, nC, nD]
                refine held_take (i := 43) (v := ?_) rfl (by kernel_rfl) (by kernel_rfl) (by kernel_rfl) (fun _ _ _ h => h) (by rfl) hHeld ?_ ?_
                rotate_left 1
                · (intro w hSw; (try dsimp only at hSw); go_simp; try (with_reducible rfl))
                try simp only [Act.put, nB, nC, nD]
                refine held_take (i := 44) (v := ?_) rfl (by kernel_rfl) (by kernel_rfl) (by kernel_rfl) (fun _ _ _ h => h) (by rfl) hHeld ?_ ?_
                rotate_left 1
                · (intro w hSw; (try dsimp only at hSw); go_simp; try (with_reducible rfl))
                try simp only [Act.put, nB, nC, nD]
                refine held_take (i := 45) (v := ?_) rfl (by kernel_rfl) (by kernel_rfl) (by kernel_rfl) (fun _ _ _ h => h) (by rfl) hHeld ?_ ?_
                rotate_left 1
                · (intro w hSw; (try dsimp only at hSw); go_simp; try (with_reducible rfl))
                try simp only [Act.put, nB, nC, nD]
                refine held_take (i := 46) (v := ?_) rfl (by kernel_rfl) (by kernel_rfl) (by kernel_rfl) (fun _ _ _ h => h) (by rfl) hHeld ?_ ?_
                rotate_left 1
                · (intro w hSw; (try dsimp only at hSw); go_simp; try (with_reducible rfl))
                try simp only [Act.put, nB, nC, nD]
                refine held_take (i := 47) (v := ?_) rfl (by kernel_rfl) (by kernel_rfl) (by kernel_rfl) (fun _ _ _ h => h) (by rfl) hHeld ?_ ?_
                rotate_left 1
                · (intro w hSw; (try dsimp only at hSw); go_simp; try (with_reducible rfl))
                try simp only [Act.put, nB, nC, nD]
                refine held_take (i := 48) (v := ?_) rfl (by kernel_rfl) (by kernel_rfl) (by kernel_rfl) (fun _ _ _ h => h) (by rfl) hHeld ?_ ?_
                rotate_left 1
                · (intro w hSw; (try dsimp only at hSw); go_simp; try (with_reducible rfl))
                try simp only [Act.put, nB, nC, nD]
                refine held_take (i := 49) (v := ?_) rfl (by kernel_rfl) (by kernel_rfl) (by kernel_rfl) (fun _ _ _ h => h) (by rfl) hHeld ?_ ?_
                rotate_left 1
                · (intro w hSw; (try dsimp only at hSw); go_simp; try (with_reducible rfl))
                try simp only [Act.put, nB, nC, nD]
                refine held_two (i := 35) (j := 51) rfl rfl (by kernel_rfl) (by rfl) (by rfl) (fun K hK => ?_) (fun K hK => ?_)
                · go_simp
                  refine (HFK.out _ HB.out.drew).mono ?_
                  rintro e w7 ⟨v7, rfl, ho7, hb7⟩
                  obtain ⟨A7, c7, rfl, -, -, -⟩ := ho7.form_n _ rfl
                  obtain ⟨n7, hn7⟩ : ∃ n7, pr.length = n7 := ⟨_, rfl⟩
                  rw [hn7] at ho7
                  have HO7 := Lib.hid ho7
                  have HB7 := Lib.hid hb7
                  have HBW7 := Lib.hid (HB.out.drew.trans (hb7.mono HB.out.drew.size))
                  clear ho7 hb7
                  try rw [hn7]
                  refine hK.out _ _ (HF16.out _ HBW7.out) (fun hHeld2 => ?_)
                  clear hK K hHeld; have hHeld := hHeld2; clear hHeld2
                  try simp only [Act.put, nB, nC, nD]
                  refine held_take (i := 50) (v := ?_) rfl (by kernel_rfl) (by kernel_rfl) (by kernel_rfl) (fun _ _ _ h => h) (by rfl) hHeld ?_ ?_
                  rotate_left 1
                  · (intro w hSw; (try dsimp only at hSw); go_simp; try (with_reducible rfl))
                  try simp only [Act.put, nB, nC, nD]
                  refine held_one (i := 51) rfl (by kernel_rfl) (by rfl) (fun K hK => ?_)
                  go_simp
                  have HB8 := Lib.hid (HBW7.out.alloc HBW7.out.size (pkO 0 0 0 0 0 none 0 0 0 0 0))
                  refine hK.out _ _ (HF16.out _ HB8.out) (fun hHeld2 => ?_)
                  clear hK K hHeld; have hHeld := hHeld2; clear hHeld2
                  try simp only [Act.put, nB, nC, nD]
                  refine held_one (i := 52) rfl (by kernel_rfl) (by rfl) (fun K hK => ?_)
                  refine wp_store_pk (.tmp 6) (.tmp 121) (by rfl) w7.heap.size (by rfl) (PkM.new w7 0 0 0 0 0 none 0 0 0 0 0) (by rfl) ?_
                  intro w9 p9 z9 g9
                  have HL9 := Lib.hid (pk_laid HB7.out g9)
                  have HB9 := Lib.hid (HB.out.drew.trans (HL9.out.1.mono HB.out.drew.size))
                  refine hK.out _ _ (HF16.out _ HB9.out) (fun hHeld2 => ?_)
                  clear hK K hHeld; have hHeld := hHeld2; clear hHeld2
                  try simp only [Act.put, nB, nC, nD]
                  refine wpAnyH_done (by kernel_rfl) ?_ _
                  clear hHeld
                  go_wp2_with fail
                  go_meet
                  exact ⟨w7.heap.size, A7, n7, c7, rfl, p9, HL9.out.2.2.2 HO7.out, (Below.refl _ _).drew.trans HL9.out.1, HL9.out.2.2.1, fun j hj e => by have := (HO7.out.lt j hj).2; omega⟩
                · go_simp
                  have HB8 := Lib.hid (HB.out.drew.alloc HB.out.drew.size (pkO 0 0 0 0 0 none 0 0 0 0 0))
                  refine hK.out _ _ (HF16.out _ HB8.out) (fun hHeld2 => ?_)
                  clear hK K hHeld; have hHeld := hHeld2; clear hHeld2
                  try simp only [Act.put, nB, nC, nD]
                  refine held_one (i := 35) rfl (by kernel_rfl) (by rfl) (fun K hK => ?_)
                  go_simp
                  refine (HFK.out _ HB8.out).mono ?_
                  rintro e w7 ⟨v7, rfl, ho7, hb7⟩
                  obtain ⟨A7, c7, rfl, -, -, -⟩ := ho7.form_n _ rfl
                  obtain ⟨n7, hn7⟩ : ∃ n7, pr.length = n7 := ⟨_, rfl⟩
                  rw [hn7] at ho7
                  have HO7 := Lib.hid ho7
                  have HB7 := Lib.hid hb7
                  have HBW7 := Lib.hid (HB8.out.trans (hb7.mono HB8.out.size))
                  clear ho7 hb7
                  try rw [hn7]
                  refine hK.out _ _ (HF16.out _ HBW7.out) (fun hHeld2 => ?_)
                  clear hK K hHeld; have hHeld := hHeld2; clear hHeld2
                  try simp only [Act.put, nB, nC, nD]
                  refine held_take (i := 50) (v := ?_) rfl (by kernel_rfl) (by kernel_rfl) (by kernel_rfl) (fun _ _ _ h => h) (by rfl) hHeld ?_ ?_
                  rotate_left 1
                  · (intro w hSw; (try dsimp only at hSw); go_simp; try (with_reducible rfl))
                  try simp only [Act.put, nB, nC, nD]
                  refine held_one (i := 52) rfl (by kernel_rfl) (by rfl) (fun K hK => ?_)
                  refine wp_store_pk (.tmp 6) (.tmp 121) (by rfl) wr.heap.size (by rfl) (show PkM w7 wr.heap.size 0 0 0 0 0 none 0 0 0 0 0 from (HB7.out.block wr.heap.size (by simp)).trans (heap_alloc_new wr.drew _)) (by rfl) ?_
                  intro w9 p9 z9 g9
                  have HB9 := Lib.hid (HBW7.out.grown g9 HBW7.out.size (fun j hj => by cases hj; exact HB.out.size))
                  have HO9 : Hid (OB w9 wr.heap.size (.slice A7 n7 c7) pr) := (HO7.out.same fun j hj => g9.block j (HO7.out.lt j hj).2 (fun e => by have h1 := (HO7.out.lt j hj).1; simp at h1; cases e; omega)).less (by simp)
                  have HX9 : Hid (Below wr.heap.size wr w9) := (((Below.refl wr.heap.size wr).drew.alloc (Nat.le_refl _) (pkO 0 0 0 0 0 none 0 0 0 0 0)).trans (HB7.out.mono (by simp))).grown g9 (by have := HB7.out.size; simp at this; omega) (fun j hj => by cases hj; exact Nat.le_refl _)
                  refine hK.out _ _ (HF16.out _ HB9.out) (fun hHeld2 => ?_)
                  clear hK K hHeld; have hHeld := hHeld2; clear hHeld2
                  try simp only [Act.put, nB, nC, nD]
                  refine wpAnyH_done (by kernel_rfl) ?_ _
                  clear hHeld
                  go_wp2_with fail
                  go_meet
                  exact ⟨wr.heap.size, A7, n7, c7, rfl, p9, HO9.out, HX9.out, Nat.le_refl _, fun j hj e => by have h1 := (HO7.out.lt j hj).1; simp at h1; omega⟩
              case rest =>
                obtain ⟨P, A2, n2, c2, rfl, HPK, HOB, HBX, HPG, HPN⟩ := hcut
                have HBW : Hid (Below wl.heap.size wl wc) := HB.out.trans (HBX.out.mono HB.out.size)
                obtain ⟨-, -, -, -, c16⟩ := HCA.out wc HBW.out
                go_upto_if 127 with fail
                go_cut [] (fun wx => Hid (PkM wx P 1 (me : Int) (k : Int) ID (ha : Int) A2 n2 c2 (LK : Int) (M : Int) su) ∧ Hid (OB wx wr.heap.size (.slice A2 n2 c2) pr) ∧ Hid (Below wr.heap.size wr wx))
                case first =>
                  by_cases hM0 : 0 < M
                  · have hM0i : (0 : Int) < (M : Int) := by omega
                    obtain ⟨b, rfl, hmk⟩ := HMK.out hM0
                    have mk := hmk wc HBW.out
                    obtain ⟨j, hj⟩ : ∃ j, M - 1 = j := ⟨_, rfl⟩
                    have hji : (M : Int) - 1 = (j : Int) := by omega
                    have hjM : (j : Int) < (M : Int) := by omega
                    rw [hj] at mk
                    obtain ⟨-, -, -, -, -, -, -, -, q8⟩ := HPK.out.c
                    have z8 := HPK.out.fz 8
                    clear hmk hj hM0
                    go_wp2_with fail
                    go_big_region
                    go_wp2_with fail
                    go_meet
                    exact ⟨HPK.out.set_su su, HOB.out.same fun i hi => Below.heap_setCell _ _ _ _ (fun e => HPN.out i hi e), (HBX.out.setCell (p := ⟨P, 8, none⟩) HPG.out _).drew⟩
                  · have hM0i : ¬ (0 : Int) < (M : Int) := by omega
                    obtain rfl : su = 0 := HM0.out hM0
                    have hM0d : decide ((0 : Int) < (M : Int)) = false := by simp; omega
                    have hM0e : decide (0 < M) = false := by simp; omega
                    clear hM0
                    go_wp2_with fail
                    go_meet
                    exact ⟨HPK, HOB, HBX⟩
                case rest =>
                  obtain ⟨HPK9, HOB9, HBX9⟩ := hcut
                  have HBW9 : Hid (Below wl.heap.size wl wc) := HB.out.trans (HBX9.out.mono HB.out.size)
                  obtain ⟨o1, o2, o3, o4⟩ := ob_facts HOB9.out
                  have O1 := Lib.hid o1; have O2 := Lib.hid o2; have O3 := Lib.hid o3; have O4 := Lib.hid o4
                  have HSE : Hid (∀ W, Below wl.heap.size wl W → W.cell? ⟨kc, 1, none⟩ = some (.int .i64 (me : Int))) := fun W hW => (HCA.out W hW).2.1
                  clear o1 o2 o3 o4 HPK HOB HBX c16
                  go_wp2_with fail
                  refine wp_region_held_drew (S := (fun w' => w'.cell? ⟨kc, 1, none⟩ = some (.int .i64 (me : Int)) ∧ PkM w' P 1 (me : Int) (k : Int) ID (ha : Int) A2 n2 c2 (LK : Int) (M : Int) su)) (by kernel_rfl) (⟨HSE.out _ HBW9.out.drew, HPK9.out⟩) (fun hHeld => ?_)
                  refine held_take (i := 0) (v := ?_) rfl (by kernel_rfl) (by kernel_rfl) (by kernel_rfl) (fun _ _ _ h => h) (by rfl) hHeld ?_ ?_
                  rotate_left 1
                  · (intro w hSw; (try dsimp only at hSw); go_simp; try (with_reducible rfl))
                  try simp only [Act.put, nB, nC, nD]
                  refine held_take (i := 1) (v := ?_) rfl (by kernel_rfl) (by kernel_rfl) (by kernel_rfl) (fun _ _ _ h => h) (by rfl) hHeld ?_ ?_
                  rotate_left 1
                  · (intro w hSw; (try dsimp only at hSw); go_simp; try (with_reducible rfl))
                  try simp only [Act.put, nB, nC, nD]
                  refine held_take (i := 2) (v := ?_) rfl (by kernel_rfl) (by kernel_rfl) (by kernel_rfl) (fun _ _ _ h => h) (by rfl) hHeld ?_ ?_
                  rotate_left 1
                  · (intro w hSw; (try dsimp only at hSw); go_simp; try (with_reducible rfl))
                  try simp only [Act.put, nB, nC, nD]
                  refine held_take (i := 3) (v := ?_) rfl (by kernel_rfl) (by kernel_rfl) (by kernel_rfl) (fun _ _ _ h => h) (by rfl) hHeld ?_ ?_
                  rotate_left 1
                  · (intro w hSw; (try dsimp only at hSw); go_simp; try (with_reducible rfl))
                  try simp only [Act.put, nB, nC, nD]
                  refine held_take (i := 4) (v := ?_) rfl (by kernel_rfl) (by kernel_rfl) (by kernel_rfl) (fun _ _ _ h => h) (by rfl) hHeld ?_ ?_
                  rotate_left 1
                  · (intro w hSw; (try dsimp only at hSw); go_simp; try (with_reducible rfl))
                  try simp only [Act.put, nB, nC, nD]
                  refine held_take (i := 5) (v := ?_) rfl (by kernel_rfl) (by kernel_rfl) (by kernel_rfl) (fun _ _ _ h => h) (by rfl) hHeld ?_ ?_
                  rotate_left 1
                  · (intro w hSw; (try dsimp only at hSw); go_simp; try (with_reducible rfl))
                  try simp only [Act.put, nB, nC, nD]
                  refine held_take (i := 6) (v := ?_) rfl (by kernel_rfl) (by kernel_rfl) (by kernel_rfl) (fun _ _ _ h => h) (by rfl) hHeld ?_ ?_
                  rotate_left 1
                  · (intro w hSw; (try dsimp only at hSw); go_simp; try (with_reducible rfl))
                  try simp only [Act.put, nB, nC, nD]
                  refine held_take (i := 7) (v := pkV 1 (me : Int) (k : Int) ID (ha : Int) A2 n2 c2 (LK : Int) (M : Int) su) rfl (by kernel_rfl) (by kernel_rfl) (by kernel_rfl) (fun _ _ _ h => h) (by rfl) hHeld (exec_load_pk (.tmp 6) rfl P (by rfl) (fun w h => h.2)) ?_
                  try simp only [Act.put, nB, nC, nD]
                  refine held_one (i := 8) rfl (by kernel_rfl) (by rfl) (fun K hK => ?_)
                  go_simp
                  refine (refpacket_any 1 (me : Int) (k : Int) ID (ha : Int) A2 pr n2 c2 (LK : Int) (M : Int) su wc.drew O4.out O1.out O2.out O3.out HSU.out.1 HSU.out.2).mono ?_
                  rintro e w7 ⟨v7, rfl, ho7, hb7⟩
                  obtain ⟨A7, c7, rfl, -, -, -⟩ := ho7.form_n _ rfl
                  have HO7 := Lib.hid ho7
                  have HB7 := Lib.hid hb7
                  have HBW7 := Lib.hid (HBW9.out.drew.trans (hb7.mono HBW9.out.drew.size))
                  have HK7 : Hid (PkM w7 P 1 (me : Int) (k : Int) ID (ha : Int) A2 n2 c2 (LK : Int) (M : Int) su) := PkM.below (w := wc.drew) HPK9.out hb7 HPK9.out.lt
                  clear ho7 hb7
                  refine hK.out _ _ (⟨HSE.out _ HBW7.out, HK7.out⟩) (fun hHeld2 => ?_)
                  clear hK K hHeld; have hHeld := hHeld2; clear hHeld2
                  try simp only [Act.put, nB, nC, nD]
                  refine held_one (i := 9) rfl (by kernel_rfl) (by rfl) (fun K hK => ?_)
                  go_simp
                  refine hK.out _ _ (hHeld) (fun hHeld2 => ?_)
                  clear hK K hHeld; have hHeld := hHeld2; clear hHeld2
                  try simp only [Act.put, nB, nC, nD]
                  refine held_one (i := 10) rfl (by kernel_rfl) (by rfl) (fun K hK => ?_)
                  go_simp
                  have HA8 := Lib.hid ((Below.refl w7.heap.size w7).alloc (Nat.le_refl _) (dmO (me : Int) (k : Int) (.slice A7 (encC 1 (me : Int) (k : Int) ID (ha : Int) (LK : Int) (M : Int) su pr).length c7)))
                  have HB8 := Lib.hid (HBW7.out.trans (HA8.out.mono HBW7.out.size))
                  have HK8 := Lib.hid (HK7.out.below HA8.out HK7.out.lt)
                  refine hK.out _ _ (⟨HSE.out _ HB8.out, HK8.out⟩) (fun hHeld2 => ?_)
                  clear hK K hHeld; have hHeld := hHeld2; clear hHeld2
                  try simp only [Act.put, nB, nC, nD]
                  refine held_one (i := 11) rfl (by kernel_rfl) (by rfl) (fun K hK => ?_)
                  refine wp_append_dm (.tmp 141) (.tmp 151) (by rfl) wl.heap.size vv me ms k _ (encC 1 (me : Int) (k : Int) ID (ha : Int) (LK : Int) (M : Int) su pr) (by rfl) (HD.out.belows (HBX9.out.drew.trans ((HB7.out.trans (HA8.out.mono HB7.out.size)).mono HBX9.out.drew.size))) w7.heap.size (by rfl) (heap_alloc_new _ _) (Rd.of_own (HO7.out.below HA8.out (Nat.le_refl _)) HBW9.out.drew.size (fun j hj => Nat.lt_of_lt_of_le (HGE.out j hj).2 HBX9.out.drew.size)) HMS.out HB8.out.size ?_
                  intro v9 w9 r9 g9 e9
                  have HD9 := Lib.hid r9
                  have HB9 := Lib.hid (HB8.out.grown g9 HB8.out.size (fun j hj => (HGE.out j hj).1))
                  have HK9 : Hid (PkM w9 P 1 (me : Int) (k : Int) ID (ha : Int) A2 n2 c2 (LK : Int) (M : Int) su) := (g9.block P (Nat.lt_of_lt_of_le HK8.out.lt (Nat.le_refl _)) (fun e => by have := (HGE.out P e.symm).2; have := HPG.out; omega)).trans HK8.out
                  clear r9 g9 e9
                  refine hK.out _ _ (⟨HSE.out _ HB9.out, HK9.out⟩) (fun hHeld2 => ?_)
                  clear hK K hHeld; have hHeld := hHeld2; clear hHeld2
                  try simp only [Act.put, nB, nC, nD]
                  refine held_one (i := 12) rfl (by kernel_rfl) (by rfl) (fun K hK => ?_)
                  go_simp
                  refine hK.out _ _ (hHeld) (fun hHeld2 => ?_)
                  clear hK K hHeld; have hHeld := hHeld2; clear hHeld2
                  try simp only [Act.put, nB, nC, nD]
                  refine wpAnyH_done (by kernel_rfl) ?_ _
                  clear hHeld
                  have HMP := Lib.hid (show (ms ++ [(k, Value.slice A7 (encC 1 (me : Int) (k : Int) ID (ha : Int) (LK : Int) (M : Int) su pr).length c7, (encC 1 (me : Int) (k : Int) ID (ha : Int) (LK : Int) (M : Int) su pr))]).map (fun m => (m.1, m.2.2)) = (otN me (k + 1)).map (fun i => (i, saidP K.C s1 i)) by rw [List.map_append, HM.out, HTK.out, List.map_append, ← HSK.out]; rfl)
                  go_wp2_with fail
                  go_roundw
                  case rel => exact ⟨k + 1, _, _, by go_num, rfl, hk2.out, HD9, HMP, HB9⟩
                  case measure => simp [intOf]; have := hms.out; omega
          · obtain rfl : N = k := by omega
            have HDT : Hid (DTells wr wl.heap.size vv me ((otN me N).map (fun i => (i, saidP K.C s1 i)))) := ⟨ms, HD.out, HM.out⟩
            go_wp2_with fail
            go_ret
            exact ⟨_, rfl, wl.heap.size, by rw [HXS.out, HME.out]; exact HDT.out, HW0.out, by rw [← HES.out]; exact goesd_beside HG.out HB.out⟩
end Go.Proofs.YtpnobpligchpiaaGreatDoor
