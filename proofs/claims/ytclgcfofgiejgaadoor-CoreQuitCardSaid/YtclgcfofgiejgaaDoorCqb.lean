/- WALK of layer 21: the law CoreQuit. -/
import Derived.Test.YtclgcfofgiejgaaDoorCqa
namespace Go.Proofs.YtclgcfofgiejgaaDoor
set_option maxRecDepth 100000
open Go.RowKit
set_option linter.unusedVariables false
set_option linter.unusedSimpArgs false

theorem core_events_goes {w0 w : World} {K : Cm} (h1 : CM w0 w K) : Calls Tryd.prog 19 #[pB K.c] w fun e w' => ∃ v, e = .returned v ∧ EvR w' v K.s.es ∧ Goes w0 w K w' (toldP K.s) := by
  refine (core_events w K.c K.ev (h1.cell 14 _ rfl) (h1.fz 14)).mono fun e w' ⟨he, hw⟩ => ?_
  subst hw
  obtain ⟨A, cap, hv, hc, hm⟩ := h1.events
  refine ⟨K.ev, he, ⟨A, cap, hv, hc, hm, fun j ev hj => ?_⟩, h1.set_told⟩
  obtain ⟨b, e1, e2, e3, _⟩ := h1.bu.rowcell h1.ke (i := 3) rfl hv j (evC ev) (by unfold esL; rw [List.getElem?_map, hj]; rfl)
  have hne : b ≠ K.c := fun e => by
    have := h1.bu.inj 0 3 K.c _ K.eo rfl (by show some (K.ev.ownBlock, K.eo) = _; rw [e2, e])
    omega
  have hbl := cell_lt e3
  refine ⟨b, e1, by simpa [World.setCell] using hbl, ?_⟩
  exact (World.cell?_of_block (a := ⟨b, j, none⟩) (heap_setCell_other _ _ _ _ hne)).trans e3
section
variable {w0 w : World} {n N : Nat} {cs : Nat → Nat} {St : Nat → Pl} {O : Nat → Prop} (h : Mn w0 w n N cs St O) {i : Nat} (hi : i < N) (hn8 : n ≤ 8) (hin : i < n)
include h hi
theorem mn_closed (b : Bool) (hb : (St i).cl = b) : Calls Tryd.prog 20 #[pB (cs i)] w fun e w' => e = .returned (.bool b) ∧ w = w' := by
  obtain ⟨K, a1, a2, a3, a4, -, -⟩ := h.pick hi
  rw [← a2]
  exact core_closed w K.c b (by rw [← hb, ← a3]; exact a4.cell 15 _ rfl)
theorem mn_events (s' : Pl) (hs : toldP (St i) = s') : Calls Tryd.prog 19 #[pB (cs i)] w fun e w' => ∃ v, e = .returned v ∧ EvR w' v (St i).es ∧ Mn w0 w' n N cs (upQ St i s') O ∧ Same O w w' := by
  obtain ⟨K, a1, a2, a3, a4, -, a6⟩ := h.pick hi
  rw [← a2]
  refine (core_events_goes a4).mono fun e w' ⟨v, he, hv, g⟩ => ⟨v, he, by rw [← a3]; exact hv, a6 w' s' (by rw [← hs, ← a3]; exact g)⟩
include hn8 hin
theorem mn_quit (hT : TabW w0) (m : Nat) (hok : Ok (cfQ n i) m (St i)) (xs : List (Nat × List UInt8)) (s' : Pl) (hp : quitP (cfQ n i) (St i) = (xs, s')) : Calls Tryd.prog 26 #[pB (cs i)] w fun e w' => ∃ v B, e = .returned v ∧ Tells w' B v i xs ∧ Mn w0 w' n N cs (upQ St i s') (With O B w'.heap.size) ∧ Same O w w' := by
  obtain ⟨K, a1, a2, a3, a4, a5, -⟩ := h.pick hi
  rw [← a2]
  exact (core_quit w0 w K a4 hT m (by rw [a1, a3]; exact hok) (by rw [a1]; exact hn8) (by rw [a1]; exact hin) xs s' (by rw [a1, a3]; exact hp)).mono fun e w' ⟨v, B, he, ht, g⟩ => ⟨v, B, he, by rw [a1] at ht; exact ht, a5 w' s' B g⟩
theorem mn_tick (hT : TabW w0) (m : Nat) (hok : Ok (cfQ n i) m (St i)) (hm9 : m ≤ 10000) (xs : List (Nat × List UInt8)) (s' : Pl) (hp : tickP (cfQ n i) (St i) = (xs, s')) : Calls Tryd.prog 17 #[pB (cs i)] w fun e w' => ∃ v B, e = .returned v ∧ Tells w' B v i xs ∧ Mn w0 w' n N cs (upQ St i s') (With O B w'.heap.size) ∧ Same O w w' := by
  obtain ⟨K, a1, a2, a3, a4, a5, -⟩ := h.pick hi
  rw [← a2]
  exact (core_tick w0 w K a4 hT m (by rw [a1, a3]; exact hok) hm9 (by rw [a1]; exact hn8) (by rw [a1]; exact hin) xs s' (by rw [a1, a3]; exact hp)).mono fun e w' ⟨v, B, he, ht, g⟩ => ⟨v, B, he, by rw [a1] at ht; exact ht, a5 w' s' B g⟩
theorem mn_press (m : Nat) (hok : Ok (cfQ n i) m (St i)) (b : UInt8) (a : Int) (s' : Pl) (hp : pressP (cfQ n i) (St i) b = (a, s')) : Calls Tryd.prog 21 #[pB (cs i), vb b] w fun e w' => e = .returned (.int .i64 a) ∧ Mn w0 w' n N cs (upQ St i s') O ∧ Same O w w' := by
  obtain ⟨K, a1, a2, a3, a4, -, a6⟩ := h.pick hi
  rw [← a2]
  exact (core_press w0 w K a4 m (by rw [a1, a3]; exact hok) (by rw [a1]; show 0 < n; omega) (by rw [a1]; exact hn8) (by rw [a1]; exact hin) b a s' (by rw [a1, a3]; exact hp)).mono fun e w' ⟨he, g⟩ => ⟨he, a6 w' s' g⟩
theorem mn_recv (hT : TabW w0) (m : Nat) (hok : Ok (cfQ n i) m (St i)) (hm9 : m ≤ 10000) (A : Option Addr) (l : List UInt8) (k c : Nat) (hr : RB w w.heap.size A l) (hk : l.length = k) (hc : k ≤ c) (hm : c ≤ maxLen) (hl : k ≤ 4096) (o : Option Pk) (ho : Told l o) (a : Int) (s' : Pl) (hp : recvP (cfQ n i) (St i) o = (a, s')) : Calls Tryd.prog 16 #[pB (cs i), .slice A k c] w fun e w' => e = .returned (.int .i64 a) ∧ Mn w0 w' n N cs (upQ St i s') O ∧ Same O w w' := by
  obtain ⟨K, a1, a2, a3, a4, -, a6⟩ := h.pick hi
  rw [← a2]
  exact (core_receive w0 w K a4 hT m (by rw [a1, a3]; exact hok) hm9 (by rw [a1]; exact hn8) (by rw [a1]; exact hin) A l k c hr hk hc hm hl o ho a s' (by rw [a1, a3]; exact hp)).mono fun e w' ⟨he, g⟩ => ⟨he, a6 w' s' g⟩
end
theorem up_same {St : Nat → Pl} {i : Nat} : upQ St i (St i) = St := by
  funext j; unfold upQ; split
  · rename_i e; rw [e]
  · rfl
theorem mn_be {w0 w : World} {n N : Nat} {cs : Nat → Nat} {St : Nat → Pl} {O : Nat → Prop} (h : Mn w0 w n N cs St O) {i : Nat} (hi : i < N) : Below w0.heap.size w0 w := by
  obtain ⟨K, -, -, -, a4, -, -⟩ := h.pick hi
  exact a4.be
theorem otN_inj {me k i j x : Nat} (h : (otN me k)[i]? = some x) (g : (otN me k)[j]? = some x) : i = j := by
  have hn : (otN me k).Pairwise (· ≠ ·) := List.Pairwise.filter _ List.nodup_range
  obtain ⟨hi, h1⟩ := List.getElem?_eq_some_iff.1 h
  obtain ⟨hj, h2⟩ := List.getElem?_eq_some_iff.1 g
  rw [List.pairwise_iff_getElem] at hn
  rcases Nat.lt_trichotomy i j with e | e | e
  · exact absurd (h1.trans h2.symm) (hn i j hi hj e)
  · exact e
  · exact absurd (h2.trans h1.symm) (hn j i hj hi e)
/-- one mail of a row that was told, wherever its blocks stay -/
theorem Tells.gets {w : World} {B : Nat} {A : Option Addr} {n cap me : Nat} {xs : List (Nat × List UInt8)} (h : Tells w B (.slice A n cap) me xs) (j tt : Nat) (l : List UInt8) (hj : xs[j]? = some (tt, l)) : ∃ (g : Nat) (B2 : Option Addr) (n2 c2 : Nat), A = some ⟨g, 0, none⟩ ∧ l.length = n2 ∧ n2 ≤ c2 ∧ c2 ≤ maxLen ∧ ∀ wx, (∀ k, B ≤ k → k < w.heap.size → wx.heap[k]? = w.heap[k]?) → wx.cell? ⟨g, j * 3, none⟩ = some (.int .i64 (me : Int)) ∧ wx.cell? ⟨g, j * 3 + 1, none⟩ = some (.int .i64 (tt : Int)) ∧ wx.cell? ⟨g, j * 3 + 2, none⟩ = some (.slice B2 n2 c2) ∧ RB wx wx.heap.size B2 l := by
  obtain ⟨ms, h1, h2⟩ := h
  have hl : ms.length = xs.length := by have := congrArg List.length h2; simpa using this
  have hjx := (List.getElem?_eq_some_iff.1 hj).1
  obtain ⟨g, hA, -, -, -⟩ := h1.wr.at j (by omega)
  have e := congrArg (·[j]?) h2
  simp only [List.getElem?_map, hj, List.getElem?_eq_getElem (show j < ms.length by omega), Option.map_some] at e
  have e2 := Option.some.inj e
  injection e2 with e3 e4
  injection e4 with e4 e5
  obtain ⟨ho, -⟩ := h1.ob ms[j] (List.getElem_mem _)
  obtain ⟨B2, c, hB, q1, q2, -⟩ := ho.form_n l.length (by rw [e5])
  refine ⟨g, B2, l.length, c, hA, rfl, q1, q2, fun wx S => ?_⟩
  have hx := h1.same S
  obtain ⟨g', hA', a0, a1, a2⟩ := hx.wr.at j (by omega)
  obtain rfl : g' = g := by
    have := hA'.symm.trans hA
    injection this with this; injection this
  obtain ⟨hox, -⟩ := hx.ob ms[j] (List.getElem_mem _)
  obtain ⟨B3, c3, hB3, -, -, q3⟩ := hox.form_n l.length (by rw [e5])
  have hBB := hB3.symm.trans hB
  injection hBB with b1 b2 b3
  subst b1
  rw [hB] at a2
  rw [e3] at a0; rw [e4] at a1; rw [e5] at q3
  exact ⟨a0, a1, a2, q3⟩
def StQ (n who : Nat) : Nat → Pl := upQ (fun j => newP (cfQ n j)) who (sqQ n who)
theorem StQ_who (n who : Nat) : StQ n who who = sqQ n who := by unfold StQ upQ; rw [if_pos rfl]
theorem StQ_other (n who t : Nat) (h : t ≠ who) : StQ n who t = newP (cfQ n t) := by unfold StQ upQ; rw [if_neg h]
set_option maxHeartbeats 4000000 in
theorem quit21_law (n who : Int) (w : World) (hT : TabW w) : Calls Tryd.prog 10 #[.int .i64 n, .int .i64 who] w fun e w' => e = .returned (.bool true) ∧ Below w.heap.size w w' := by
  have HB := Lib.hid (begun21_any w hT)
  have HT := Lib.hid hT
  clear hT
  by_cases g0 : n < 2
  · go_enter Tryd.func10, Tryd.ntmps10
    go_wp2_with (first | (go_at_call 12; (refine HB.out.mono ?_); rintro en w1 ⟨rfl, hb⟩; have HB1 := Lib.hid hb; clear hb))
    go_ret
    exact ⟨rfl, HB1.out⟩
  by_cases g1 : 8 < n
  · go_enter Tryd.func10, Tryd.ntmps10
    go_wp2_with (first | (go_at_call 12; (refine HB.out.mono ?_); rintro en w1 ⟨rfl, hb⟩; have HB1 := Lib.hid hb; clear hb))
    go_ret
    exact ⟨rfl, HB1.out⟩
  by_cases g2 : who < 0
  · go_enter Tryd.func10, Tryd.ntmps10
    go_wp2_with (first | (go_at_call 12; (refine HB.out.mono ?_); rintro en w1 ⟨rfl, hb⟩; have HB1 := Lib.hid hb; clear hb))
    go_ret
    exact ⟨rfl, HB1.out⟩
  by_cases g3 : n ≤ who
  · go_enter Tryd.func10, Tryd.ntmps10
    go_wp2_with (first | (go_at_call 12; (refine HB.out.mono ?_); rintro en w1 ⟨rfl, hb⟩; have HB1 := Lib.hid hb; clear hb))
    go_ret
    exact ⟨rfl, HB1.out⟩
  obtain ⟨N, rfl⟩ : ∃ N : Nat, n = N := ⟨n.toNat, by omega⟩
  obtain ⟨P, rfl⟩ : ∃ P : Nat, who = P := ⟨who.toNat, by omega⟩
  have hN2 : 2 ≤ N := by omega
  have hN8 : N ≤ 8 := by omega
  have hPN : P < N := by omega
  have HPN := Lib.hid hPN; have HN8 := Lib.hid hN8
  have HMAY : Hid (∀ k, k < N → (cfQ N k).may) := fun k hk => cfG_may hN2 hN8 hk (by omega) (by omega) (by omega) (by omega) (by omega)
  go_enter Tryd.func10, Tryd.ntmps10
  go_wp2_with (first | (go_at_call 12; (refine HB.out.mono ?_); rintro en w1 ⟨rfl, hb⟩; have HB1 := Lib.hid hb; clear hb))
  clear hPN g0 g1 g2 g3
  rename _ ∧ ¬ (N ≤ P) => h99
  clear h99
  go_loopw [6, 7, 8, 9] (fun v1 ii xx ee wr => ∃ (k : Nat) (vv : Value) (cs : Nat → Nat), ii = .int .i64 (k : Int) ∧ vv = v1 ∧ k ≤ N ∧ Hid (PO wr w.heap.size vv ((List.range k).map cs)) ∧ Hid (Mn w wr N k cs (fun j => newP (cfQ N j)) (rowO vv)) ∧ Hid (Below w.heap.size w wr)) (fun _ ii _ _ _ => N - (intOf ii).toNat)
  case atStart => exact ⟨0, _, fun _ => 0, rfl, rfl, by omega, World.ownsRow_nil _ _ _ _, (Mn.zero w w1 N (fun _ => 0) (fun j => newP (cfQ N j))).turn HB1.out (Lv.of_below (Below.refl _ _)) (fun k hk => (by cases hk)), HB1⟩
  case round =>
    obtain ⟨k, vv, cs, rfl, rfl, hk, HPO, HMN, HBW⟩ := hrel
    by_cases hlt : k < N
    · have hkN : (k : Int) < (N : Int) := by omega
      have hk2 : Hid (k + 1 ≤ N) := hlt
      have hms : Hid (N - (k + 1) < N - k) := by show _ < _; omega
      have HNew := Lib.hid (core_new w wr HBW.out (cfQ N k) (HMAY.out k hlt))
      unfold Cf.v cfV at HNew
      have HLEN : Hid (((List.range k).map cs).length ≤ 1000) := by show _ ≤ _; simp; omega
      go_wp2_with (first
        | (go_at_call 13; (refine HNew.out.mono ?_); rintro en w3 ⟨K, rfl, h1, h2, h3, h4, h5⟩; have HM3 := Lib.hid (Mn.push HMN.out h4 K h1 h2 h3 h5); have HB3 := Lib.hid (HBW.out.trans (h4.mono HBW.out.size)); have HPA : Hid (PO (w3.alloc (.cells #[pB K.c] 23)) w.heap.size vv ((List.range k).map cs)) := ownsRow_same HPO.out (fun i hi => (Below.heap_alloc _ _ _ (Nat.lt_of_lt_of_le (World.ownsRow.lt HPO.out i hi).2 h4.size)).trans (h4.block i (World.ownsRow.lt HPO.out i hi).2)); clear h1 h2 h3 h4 h5 HNew)
        | (refine wpList_append_ptr rfl (.tmp 46) (.tmp 48) rfl w.heap.size vv ((List.range k).map cs) K.c rfl HPA.out rfl HLEN.out HB3.out.size ?_; intro v7 w7 o7 g7 e7; have HO7 := Lib.hid o7; have HG7 := Lib.hid g7; have HE7 := Lib.hid e7; clear o7 g7 e7))
      have hlt7 : ∀ i, v7.ownBlock = some i → i < w7.heap.size := fun i hi => (World.ownsRow.lt HO7.out i hi).2
      have hba : Below w3.heap.size w3 (w3.alloc (.cells #[pB K.c] 23)) := (Below.refl _ _).alloc (Nat.le_refl _) _
      have HM7 : Hid (Mn w w7 N (k + 1) (fun j => if j = k then K.c else cs j) (fun j => newP (cfQ N j)) (rowO v7)) := by
        refine HM3.out.turn HB3.out ((Lv.of_below hba).trans (Lv.of_grown HG7.out (B := rowO vv) (fun i hi => hi)) (fun i hi => .inl hi)) (fun i hi => ?_)
        have hi' : v7.ownBlock = some i := hi
        rcases HE7.out with e | e
        · exact .inl (by show vv.ownBlock = some i; rw [← e]; exact hi')
        · have e2 := Option.some.inj (hi'.symm.trans e)
          exact .inr ⟨by omega, hlt7 i hi'⟩
      have HB7 : Hid (Below w.heap.size w w7) := (HB3.out.trans (hba.mono HB3.out.size)).grown HG7.out (Nat.le_trans HB3.out.size hba.size) (fun i hi => (World.ownsRow.lt HPO.out i hi).1)
      have HPO7 : Hid (PO w7 w.heap.size v7 ((List.range (k + 1)).map (fun j => if j = k then K.c else cs j))) := by
        show PO _ _ _ _
        have e : (List.range (k + 1)).map (fun j => if j = k then K.c else cs j) = (List.range k).map cs ++ [K.c] := by
          rw [List.range_succ, List.map_append]
          congr 1
          · refine List.map_congr_left fun j hj => ?_
            have := List.mem_range.1 hj
            rw [if_neg (by omega)]
          · simp
        rw [e]; exact HO7.out
      clear hlt7 hba
      go_roundw
      case rel => exact ⟨k + 1, _, _, by go_num, rfl, hk2.out, HPO7, HM7, HB7⟩
      case measure => simp [intOf]; have := hms.out; omega
    · obtain rfl : N = k := by omega
      have hPN := HPN.out
      obtain ⟨A, cap, hv, hcell⟩ := HPO.out.at
      have hlen : ((List.range N).map cs).length = N := by simp
      rw [hlen] at hv
      have HCE : Hid (∀ t, t < N → ∃ b, A = some ⟨b, 0, none⟩ ∧ rowO vv b ∧ wr.cell? ⟨b, t, none⟩ = some (pB (cs t))) := fun t ht => by
        obtain ⟨b, q1, q2, -, q3⟩ := hcell t (cs t) (by rw [List.getElem?_map, List.getElem?_range ht]; rfl)
        exact ⟨b, q1, q2, q3⟩
      obtain ⟨b, rfl, hrb, cP⟩ := HCE.out P hPN
      have HRB := Lib.hid hrb
      have HCT : Hid (∀ wx, Same (rowO vv) wr wx → ∀ t, t < N → wx.cell? ⟨b, t, none⟩ = some (pB (cs t))) := fun wx S t ht => by
        obtain ⟨b', q1, q2, q3⟩ := HCE.out t ht
        injection q1 with q1; injection q1 with q1
        subst q1
        exact (World.cell?_of_block (a := ⟨b, t, none⟩) (S b hrb)).trans q3
      have HVV := Lib.hid hv
      subst hv
      clear hcell hlen hrb
      have HQ := Lib.hid (mn_quit HMN.out hPN hN8 hPN HT.out 0 (newQ_ok N P) (xsQ N P) (sqQ N P) (quit_eq N P))
      obtain ⟨n1, hn1⟩ : ∃ n1, N - 1 = n1 := ⟨_, rfl⟩
      have hn1i : (N : Int) - 1 = (n1 : Int) := by omega
      have HXL : Hid ((xsQ N P).length = n1) := by show _ = _; unfold xsQ; rw [List.length_map, otN_length P N hPN hN8, hn1]
      have HOL : Hid ((otN P N).length = n1) := by show _ = _; rw [otN_length P N hPN hN8, hn1]
      have hPi : (P : Int) < (N : Int) := by omega
      have HSQ : Hid (upQ (fun j => newP (cfQ N j)) P (sqQ N P) = StQ N P) := rfl
      have HSW := Lib.hid (StQ_who N P)
      have HUP : Hid (upQ (StQ N P) P (sqQ N P) = StQ N P) := by show _ = _; have := @up_same (StQ N P) P; rw [StQ_who] at this; exact this
      clear hn1
      go_upto_region 15 with (first
        | (go_at_call 26; (refine HQ.out.mono ?_); rintro en w4 ⟨v4, B4, rfl, ht, ha, hs⟩; obtain ⟨A4, p4, rfl⟩ := ht.form n1 HXL.out; have HTE := Lib.hid ht; have HM4 : Hid (Mn w w4 N N cs (StQ N P) (With (rowO (.slice (some ⟨b, 0, none⟩) N cap)) B4 w4.heap.size)) := ha; have HS4 := Lib.hid hs; clear ha hs ht))
      have HO1 : Hid (∀ k, rowO (.slice (some ⟨b, 0, none⟩) N cap) k → With (rowO (.slice (some ⟨b, 0, none⟩) N cap)) B4 w4.heap.size k) := fun k hk => .inl hk
      have c4P := HCT.out w4 HS4.out P HPN.out
      have HOB : Hid (∀ k, B4 ≤ k → k < w4.heap.size → With (rowO (.slice (some ⟨b, 0, none⟩) N cap)) B4 w4.heap.size k) := fun k h1 h2 => .inr ⟨h1, h2⟩
      have HCU : Hid (∀ wx, Same (With (rowO (.slice (some ⟨b, 0, none⟩) N cap)) B4 w4.heap.size) w4 wx → ∀ t, t < N → wx.cell? ⟨b, t, none⟩ = some (pB (cs t))) := fun wx S t ht => HCT.out wx (HS4.out.then_ fun k hk => S k (.inl hk)) t ht
      obtain ⟨O1, hO1⟩ : ∃ O1, With (rowO (.slice (some ⟨b, 0, none⟩) N cap)) B4 w4.heap.size = O1 := ⟨_, rfl⟩
      rw [hO1] at HM4 HOB HCU
      clear HO1 hO1 HCT cP HQ HMN HPO HS4
      go_wp2_with (first
        | (go_at_call 20; (refine (mn_closed HM4.out HPN.out true (by rw [HSW.out]; rfl)).mono ?_); rintro e w5 ⟨rfl, rfl⟩)
        | (go_at_call 19; (refine (mn_events HM4.out HPN.out (sqQ N P) (by rw [HSW.out]; rfl)).mono ?_); rintro e w5 ⟨v5, rfl, hev, hm, hs⟩; rw [HUP.out] at hm; obtain ⟨A5, p5, rfl⟩ := hev.form 0 (by rw [HSW.out]; rfl); have HM5 := Lib.hid hm; have HS5 := Lib.hid hs; have c5P := HCU.out w5 hs P HPN.out; clear hev hm hs c4P)
        | (go_at_call 26; (refine (mn_quit HM5.out HPN.out HN8.out HPN.out HT.out 0 (by rw [HSW.out]; exact sqQ_ok N P) [] (sqQ N P) (by rw [HSW.out]; exact quit2_eq N P)).mono ?_); rintro e w6 ⟨v6, B6, rfl, ht, hm, hs⟩; rw [HUP.out] at hm; obtain ⟨A6, p6, rfl⟩ := ht.form 0 rfl; have HM6 := Lib.hid (hm.less (O' := O1) fun k hk => .inl hk); have HS6 := Lib.hid (HS5.out.then_ hs); have c6P := HCU.out w6 HS6.out P HPN.out; clear ht hm hs c5P)
        | (go_at_call 17; (refine (mn_tick HM6.out HPN.out HN8.out HPN.out HT.out 0 (by rw [HSW.out]; exact sqQ_ok N P) (by omega) [] (sqQ N P) (by rw [HSW.out]; exact tick2_eq N P)).mono ?_); rintro e w7 ⟨v7, B7, rfl, ht, hm, hs⟩; rw [HUP.out] at hm; obtain ⟨A7, p7, rfl⟩ := ht.form 0 rfl; have HM7 := Lib.hid (hm.less (O' := O1) fun k hk => .inl hk); have HS7 := Lib.hid (HS6.out.then_ hs); have c7P := HCU.out w7 HS7.out P HPN.out; clear ht hm hs c6P)
        | (go_at_call 21; (refine (mn_press HM7.out HPN.out HN8.out HPN.out 0 (by rw [HSW.out]; exact sqQ_ok N P) 1 6 (sqQ N P) (by rw [HSW.out]; exact press2_eq N P 1)).mono ?_); rintro e w8 ⟨rfl, hm, hs⟩; rw [HUP.out] at hm; have HM8 := Lib.hid hm; have HS8 := Lib.hid (HS7.out.then_ hs); clear hm hs c7P))
      go_loopw [11, 12, 13] (fun ii xx rr wr => ∃ (k : Nat) (St : Nat → Pl), ii = .int .i64 (k : Int) ∧ k ≤ n1 ∧ Hid (Mn w wr N N cs St O1) ∧ Hid (∀ m t, k ≤ m → (otN P N)[m]? = some t → St t = newP (cfQ N t)) ∧ Hid (Same O1 w4 wr)) (fun ii _ _ _ => n1 - (intOf ii).toNat)
      case atStart => exact ⟨0, StQ N P, rfl, by omega, HM8, fun m t _ ht => StQ_other N P t (otN_mem ht).2, HS8⟩
      case round =>
        obtain ⟨k, St, rfl, hk, HM, HST, HSO⟩ := hrel
        clear HM4 HM5 HM6 HM7 HM8 HS5 HS6 HS7 HS8
        by_cases hlt : k < n1
        · have hkn : (k : Int) < (n1 : Int) := by omega
          have hk2 : Hid (k + 1 ≤ n1) := hlt
          have hms : Hid (n1 - (k + 1) < n1 - k) := by show _ < _; omega
          obtain ⟨t, ht⟩ : ∃ t, (otN P N)[k]? = some t := ⟨_, List.getElem?_eq_getElem (by rw [HOL.out]; exact hlt)⟩
          obtain ⟨htN, htP⟩ := otN_mem ht
          have hti : (t : Int) < (N : Int) := by omega
          have HtN := Lib.hid htN
          have HSt : Hid (St t = newP (cfQ N t)) := HST.out k t (Nat.le_refl _) ht
          obtain ⟨y, hy⟩ : ∃ y, encC 2 (P : Int) (t : Int) 4 0 0 0 0 [] = y := ⟨_, rfl⟩
          have hxs : (xsQ N P)[k]? = some (t, y) := by unfold xsQ; rw [List.getElem?_map, ht, ← hy]; rfl
          obtain ⟨g, B2, n2, c2, rfl, l2, q1, q2, hget⟩ := HTE.out.gets k t y hxs
          have HGET : Hid (∀ wx, Same O1 w4 wx → wx.cell? ⟨g, k * 3, none⟩ = some (.int .i64 (P : Int)) ∧ wx.cell? ⟨g, k * 3 + 1, none⟩ = some (.int .i64 (t : Int)) ∧ wx.cell? ⟨g, k * 3 + 2, none⟩ = some (.slice B2 n2 c2) ∧ RB wx wx.heap.size B2 y) := fun wx S => hget wx (fun k ha hb => S k (HOB.out k ha hb))
          obtain ⟨k0, k1, k2, r2⟩ := HGET.out wr HSO.out
          have HTY : Hid (Told y (some (pkQ N P t))) := by show Told _ _; rw [← hy]; exact isQ (by have := HPN.out; have := HN8.out; omega) (by have := HN8.out; omega) (fun e => htP e.symm)
          have HYL : Hid (n2 ≤ 4096) := by show _ ≤ _; rw [← l2, ← hy]; have := enc_short 2 (P : Int) (t : Int) 4 0 0 0 0 []; omega
          have ctP := HCU.out wr HSO.out t htN
          have HLY := Lib.hid l2; have HQ1 := Lib.hid q1; have HQ2 := Lib.hid q2; have HRY := Lib.hid r2
          have HNX : Hid (∀ m t', k + 1 ≤ m → (otN P N)[m]? = some t' → t' ≠ t) := fun m t' hm h e => by subst e; exact absurd (otN_inj h ht) (by omega)
          have HUU : Hid (∀ (S : Nat → Pl) s, upQ S t s t = s) := fun S s => by show (if t = t then s else S t) = s; rw [if_pos rfl]
          clear hxs hy htN htP ht l2 r2 q1 q2 hget
          go_wp2_with (first
            | (go_at_call 16; first
                | (have h99 := HM7.out; clear h99; (refine (mn_recv HM7.out HtN.out HN8.out HtN.out HT.out 1 (by rw [HUU.out]; exact (rcQ_ok N t P HN8.out HPN.out).told) (by omega) B2 y n2 c2 r7 HLY.out HQ1.out HQ2.out HYL.out (some (pkQ N P t)) HTY.out 6 (toldP (rcQ N t P)) (by rw [HUU.out]; exact rcQ_recv N t P _)).mono ?_); rintro e w8 ⟨rfl, hm, hs⟩; have HM8 := Lib.hid hm; have HS8 := Lib.hid (HS7.out.then_ hs); clear hm hs)
                | ((refine (mn_recv HM.out HtN.out HN8.out HtN.out HT.out 0 (by rw [HSt.out]; exact newQ_ok N t) (by omega) B2 y n2 c2 HRY.out HLY.out HQ1.out HQ2.out HYL.out (some (pkQ N P t)) HTY.out 0 (rcQ N t P) (by rw [HSt.out]; exact rcQ_eq N t P HPN.out)).mono ?_); rintro e w5 ⟨rfl, hm, hs⟩; have HM5 := Lib.hid hm; have HS5 := Lib.hid (HSO.out.then_ hs); clear hm hs))
            | (go_at_call 20; (refine (mn_closed HM5.out HtN.out true (by rw [HUU.out]; rfl)).mono ?_); rintro e w6 ⟨rfl, rfl⟩)
            | (go_at_call 19; (refine (mn_events HM5.out HtN.out (toldP (rcQ N t P)) (by rw [HUU.out])).mono ?_); rintro e w6 ⟨v6, rfl, hev, hm, hs⟩; rw [HUU.out] at hev; have HEV : Hid (EvR w6 v6 [.q P]) := hev; have HM6 := Lib.hid hm; have HS6 := Lib.hid (HS5.out.then_ hs); clear hm hs hev)
            | (go_at_call 18; (refine (raws_any _ _ _ HEV.out (by show 1 ≤ 900000; omega)).mono ?_); rintro e w7 ⟨v7, rfl, hro, hb⟩; obtain ⟨A7, c7, rfl, -, -, hcc⟩ := hro.at; have HM7 := Lib.hid (HM6.out.turn (O' := O1) (mn_be HM6.out HtN.out) (Lv.of_below hb) (fun k hk => .inl hk)); have HS7 := Lib.hid (HS6.out.then_ (fun k hk => hb.block k (HM6.out.ob k hk).2)); obtain ⟨b7, rfl, -, j0, j1, -⟩ := hcc 0 (.q P) rfl; have j0' : w7.cell? ⟨b7, 0, none⟩ = some (.int .i64 1) := j0; have j1' : w7.cell? ⟨b7, 1, none⟩ = some (.int .i64 (P : Int)) := j1; obtain ⟨-, -, k7, r7⟩ := HGET.out w7 HS7.out; clear j0 j1 hro hb hcc))
          go_roundw
          case rel => exact ⟨k + 1, _, by go_num, hk2.out, HM8, fun m t' hm ht => (by have hne := HNX.out m t' hm ht; unfold upQ; rw [if_neg hne, if_neg hne, if_neg hne]; exact HST.out m t' (by omega) ht), HS8⟩
          case measure => simp [intOf]; have := hms.out; omega
        · obtain rfl : n1 = k := by omega
          go_wp2_with fail
          go_ret
          exact ⟨rfl, mn_be HM.out HPN.out⟩
end Go.Proofs.YtclgcfofgiejgaaDoor
