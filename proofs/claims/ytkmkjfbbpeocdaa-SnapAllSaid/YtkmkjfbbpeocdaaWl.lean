/- WALK over package snap: State. -/
import Derived.Test.YtkmkjfbbpeocdaaWk
import Derived.Test.YtkmkjfbbpeocdaaGi
namespace Go.Proofs.Ytkmkjfbbpeocdaa
set_option maxRecDepth 100000
open Go.RowKit Go.Maps
set_option linter.unusedVariables false
set_option linter.unusedSimpArgs false

/-- a game of which the first i pages are told -/
def stL (l : List Sh) (f : Nat → Int) (i : Nat) : List Int := (List.range 32).map fun j => if j < 8 * i then (pg l (f (j / 8))).on (j % 8) else 0
theorem stL_len (l : List Sh) (f : Nat → Int) (i : Nat) : (stL l f i).length = 32 := by unfold stL; simp
theorem stL_zero (l : List Sh) (f : Nat → Int) : stL l f 0 = zG 32 := rfl
theorem stL_four (l : List Sh) (f : Nat → Int) : stL l f 4 = gmL l f := by
  unfold stL gmL
  refine List.map_congr_left (fun j hj => ?_)
  rw [List.mem_range] at hj
  rw [if_pos (by omega)]
theorem stL_at (l : List Sh) (f : Nat → Int) (i j : Nat) (h : j < 32) : (stL l f i)[j]? = some (if j < 8 * i then (pg l (f (j / 8))).on (j % 8) else 0) := by unfold stL; simp [h]
theorem stL_step (l : List Sh) (f : Nat → Int) (i : Nat) (h : i < 4) : withG (stL l f i) (i : Int) (rdL (pg l (f i)).on 8) = stL l f (i + 1) := by
  unfold withG
  rw [if_pos (by unfold pgB; simp; omega)]
  unfold spl
  rw [rdL_len, show 8 * (i : Int).toNat = 8 * i by omega]
  apply List.ext_getElem?
  intro j
  by_cases hj : j < 32
  · rw [stL_at _ _ _ _ hj]
    have hl1 : ((stL l f i).take (8 * i)).length = 8 * i := by rw [List.length_take, stL_len]; omega
    by_cases e1 : j < 8 * i
    · rw [List.append_assoc, List.getElem?_append_left (by omega), List.getElem?_take_of_lt e1, stL_at _ _ _ _ hj, if_pos e1, if_pos (by omega)]
    · by_cases e2 : j < 8 * i + 8
      · rw [List.append_assoc, List.getElem?_append_right (by omega), hl1, List.getElem?_append_left (by rw [rdL_len]; omega), rdL_get _ _ (by omega), if_pos (by omega), show j / 8 = i by omega, show j % 8 = j - 8 * i by omega]
      · rw [List.getElem?_append_right (by rw [List.length_append, hl1, rdL_len]; omega), List.length_append, hl1, rdL_len, List.getElem?_drop, show 8 * i + 8 + (j - (8 * i + 8)) = j by omega, stL_at _ _ _ _ hj, if_neg e1, if_neg (by omega)]
  · rw [List.getElem?_eq_none (by simp [stL_len, rdL_len]; omega), List.getElem?_eq_none (by rw [stL_len]; omega)]
theorem buildState (w : World) : (Instr.build 38 #[]).run Try.prog w = .ok (.agg (gC (zG 32))) w := by kernel_rfl
theorem sstate_nil (x : Int) (w : World) :
    Calls Try.prog 19 #[.pointer none, .int .i64 x] w fun e w' => e = .returned (.tuple #[.agg (gC (zG 32)), .bool false]) ∧ Below w.heap.size w w' := by
  have hz := zeroState
  have b0 : Below w.heap.size w (w.alloc (.cells (gC (zG 32)) 38)) := (Below.refl _ _).alloc (Nat.le_refl _) _
  have HU := Lib.hid (picture_nil x (w.alloc (.cells (gC (zG 32)) 38)))
  have G0 := Lib.hid (GA.new w 38 (zG 32))
  have z32 := Lib.hid (zG_length 32)
  have hbd := buildState
  go_enter Try.func19, Try.ntmps19
  go_wp2_with (first
    | (go_at_call 37; with_reducible refine HU.out.mono ?_; rintro e w1 ⟨rfl, rfl⟩)
    | (with_reducible refine wpList_store_g rfl 38 (.tmp 4) (.tmp 15) rfl w.heap.size (by with_unfolding_all rfl) 38 (zG 32) (zG 32) G0.out (by with_unfolding_all rfl) rfl (by rw [z32.out]; exact infoState) ?_; intro w7 G7 S7 R7))
  refine bodyPost_ret (results_g2 rfl G7 rfl (v := .bool false) rfl Try.underlying38 (by rw [z32.out]; exact infoState)) rfl ⟨rfl, ?_⟩
  exact b0.grown R7 b0.size (fun k e => by have := Option.some.inj e; omega)
theorem sstate_out (w : World) (S P A M : Nat) (l : List Sh) (L : List Pc) (h : SM w S P A M l L) (x : Int) (hx : rng x) (hd : Dead L x) :
    Calls Try.prog 19 #[.pointer (some ⟨S, 0, none⟩), .int .i64 x] w fun e w' => e = .returned (.tuple #[.agg (gC (zG 32)), .bool false]) ∧ Below w.heap.size w w' := by
  have hz := zeroState
  have b0 : Below w.heap.size w (w.alloc (.cells (gC (zG 32)) 38)) := (Below.refl _ _).alloc (Nat.le_refl _) _
  have HU := Lib.hid (picture_out _ S P A M l L (h.alloc (.cells (gC (zG 32)) 38)) x hx hd)
  have G0 := Lib.hid (GA.new w 38 (zG 32))
  have z32 := Lib.hid (zG_length 32)
  have hbd := buildState
  clear h hd
  go_enter Try.func19, Try.ntmps19
  go_wp2_with (first
    | (go_at_call 37; with_reducible refine HU.out.mono ?_; rintro e w1 ⟨rfl, rfl⟩)
    | (with_reducible refine wpList_store_g rfl 38 (.tmp 4) (.tmp 15) rfl w.heap.size (by with_unfolding_all rfl) 38 (zG 32) (zG 32) G0.out (by with_unfolding_all rfl) rfl (by rw [z32.out]; exact infoState) ?_; intro w7 G7 S7 R7))
  refine bodyPost_ret (results_g2 rfl G7 rfl (v := .bool false) rfl Try.underlying38 (by rw [z32.out]; exact infoState)) rfl ⟨rfl, ?_⟩
  exact b0.grown R7 b0.size (fun k e => by have := Option.some.inj e; omega)
/-- what State's loop holds: the result's block at a, the game at q -/
structure StL (w wr : World) (q : Nat) (g : List Int) : Prop where
  be : Below w.heap.size w wr
  cur : GA wr q 38 g
  res : GA wr w.heap.size 38 (zG 32)
theorem StL.belows {w wr w3 : World} {q : Nat} {g : List Int} (h : StL w wr q g) (hb : Below wr.heap.size wr w3) : Hid (StL w w3 q g) :=
  ⟨h.be.trans (hb.mono h.be.size), h.cur.below hb h.cur.lt, h.res.below hb h.res.lt⟩
theorem StL.below {w wr wd w3 : World} {q : Nat} {g : List Int} (h : StL w wr q g) (hd : Below wr.heap.size wr wd) (hb : Below wd.heap.size wd w3) : Hid (StL w w3 q g) :=
  h.belows (hd.trans (hb.mono hd.size))
theorem StL.stored {w wr w3 : World} {q : Nat} {g g' : List Int} (h : StL w wr q g) (hq0 : w.heap.size ≤ q) (hq : w.heap.size < q) (G : GA w3 q 38 g') (R : wr.grownBy w3 (some q)) : Hid (StL w w3 q g') :=
  ⟨h.be.grown R h.be.size (fun k e => by have := Option.some.inj e; omega), G, h.res.grown R (fun e => by have := Option.some.inj e; omega)⟩
theorem StL.start (w : World) : StL w ((w.alloc (.cells (gC (zG 32)) 38)).alloc (.cells (gC (zG 32)) 38)) (w.heap.size + 1) (zG 32) :=
  ⟨((Below.refl _ _).alloc (Nat.le_refl _) _).alloc (by simp) _, GA.new_at _ _ _ _ (by simp), (GA.new w _ _).alloc _⟩
set_option maxHeartbeats 2000000 in
theorem sstate_in (w : World) (S P A M : Nat) (l : List Sh) (L : List Pc) (h : SM w S P A M l L) (I : INV l L) (x : Int) (hx : rng x) (k : Nat) (c : Pc) (hk : x = k + 1) (hc : L[k]? = some c) (hr : 0 < c.r) :
    Calls Try.prog 19 #[.pointer (some ⟨S, 0, none⟩), .int .i64 x] w fun e w' => e = .returned (.tuple #[.agg (gC (gmL l c.on)), .bool true]) ∧ Below w.heap.size w w' := by
  have hz := zeroState
  have HU := Lib.hid (picture_in _ S P A M l L (h.alloc (.cells (gC (zG 32)) 38)) x hx k c hk hc hr)
  have HSt := Lib.hid (StL.start w)
  have HH := Lib.hid h
  have HI := Lib.hid I
  have HCc := Lib.hid hc
  have HR := Lib.hid hr
  have HPB := Lib.hid ((h.alloc (.cells (gC (zG 32)) 38)).alloc (.cells (gC (zG 32)) 38)|>.pics k c hc hr).1
  have hS := h.ltS
  obtain ⟨q, hq⟩ : ∃ q, q = w.heap.size + 1 := ⟨_, rfl⟩
  have HLt : Hid (w.heap.size < q) := by rw [Hid]; omega
  clear h I hc hr hk
  go_enter Try.func19, Try.ntmps19
  go_wp2_with (first
    | (go_at_call 37; with_reducible refine HU.out.mono ?_; rintro e w1 ⟨rfl, rfl⟩)
    | (with_reducible refine wpList_load_q4 rfl 67 (.tmp 18) rfl c.b 1 (by with_unfolding_all rfl) c.on HPB.out.range Try.underlying67 infoQ4 ?_))
  rw [← hq] at HSt ⊢
  clear hq
  go_loopw [20] (fun i wr => ∃ j : Nat, i = .int .i64 j ∧ j ≤ 4 ∧ Hid (StL w wr q (stL l c.on j))) (fun i _ => 4 - (intOf i).toNat)
  case atStart => exact ⟨0, rfl, by omega, by rw [stL_zero]; exact HSt⟩
  case round =>
    obtain ⟨j, rfl, hj, hK⟩ := hrel
    have hc32 := stL_len l c.on j
    have HC32 := Lib.hid hc32
    clear hc32
    by_cases hlt : j < 4
    · have hjc : (j : Int) < 4 := by omega
      have HM := Lib.hid (HH.out.belows hK.out.be)
      have hix := index_q4 c.on j hlt wr
      obtain ⟨qq, hqq, hqql, hqqe⟩ := HI.out.at HCc.out HR.out hlt
      have hr1 := HI.out.has HCc.out HR.out hlt
      have HDr : Hid (Below wr.heap.size wr wr.drew) := (Below.refl _ _).drew
      have HRe := Lib.hid (read_in wr.drew S P A M l L HM.out.drew (c.on j) qq hqq hqql (by rw [← hqqe]; omega))
      have hst := stL_step l c.on j hlt
      have HWi := Lib.hid (fun W => hst ▸ with_any (stL l c.on j) (rdL (pg l (c.on j)).on 8) (j : Int) W (stL_len l c.on j) (rdL_len _ _))
      have hc33 := stL_len l c.on (j + 1)
      have HC33 := Lib.hid hc33
      have HG7 : Hid (GA wr.drew q 38 (stL l c.on j)) := hK.out.cur.drew
      have HSL := Lib.hid hK.out
      clear hqq hqql hqqe hr1 hst hc33 hK
      go_wp2_with fail
      refine wp_region_held_drew (S := fun w' => True) (by kernel_rfl) (trivial) (fun hHeld => ?_)
      refine held_take (i := 1) (v := ?_) rfl (by kernel_rfl) (by kernel_rfl) (by kernel_rfl) (fun _ _ _ h => h) (by rfl) hHeld ?_ ?_
      rotate_left 1
      · (intro w hSw; (try dsimp only at hSw); go_simp; try (with_reducible rfl))
      try simp only [Act.put, List.setIfInBounds_toArray, List.set_cons_zero, List.set_cons_succ]
      refine held_take (i := 2) (v := ?_) rfl (by kernel_rfl) (by kernel_rfl) (by kernel_rfl) (fun _ _ _ h => h) (by rfl) hHeld ?_ ?_
      rotate_left 1
      · (intro w hSw; (try dsimp only at hSw); go_simp; try (with_reducible rfl))
      try simp only [Act.put, List.setIfInBounds_toArray, List.set_cons_zero, List.set_cons_succ]
      refine held_take (i := 3) (v := ?_) rfl (by kernel_rfl) (by kernel_rfl) (by kernel_rfl) (fun _ _ _ h => h) (by rfl) hHeld ?_ ?_
      rotate_left 1
      · (intro w hSw; (try dsimp only at hSw); go_simp; try (with_reducible rfl))
      try simp only [Act.put, List.setIfInBounds_toArray, List.set_cons_zero, List.set_cons_succ]
      refine held_two (i := 0) (j := 4) rfl rfl (by kernel_rfl) (by rfl) (by rfl) (fun K hK => ?_) (fun K hK => ?_)
      · refine wp_load_g _ _ rfl q (by rfl) 38 (stL l c.on j) HG7.out Try.underlying38 (by rw [HC32.out]; exact infoState) ?_
        refine hK.out _ _ (trivial) (fun hHeld2 => ?_)
        clear hK K hHeld; have hHeld := hHeld2; clear hHeld2
        try simp only [Act.put, List.setIfInBounds_toArray, List.set_cons_zero, List.set_cons_succ]
        refine held_one (i := 4) rfl (by kernel_rfl) (by rfl) (fun K hK => ?_)
        go_simp
        with_reducible refine HRe.out.mono ?_
        rintro e w4 ⟨rfl, hb4⟩
        have HK4 := HSL.out.below HDr.out hb4
        have G7 := HK4.out.cur
        have hbc := HDr.out.trans (hb4.mono HDr.out.size)
        refine hK.out _ _ (trivial) (fun hHeld2 => ?_)
        clear hK K hHeld; have hHeld := hHeld2; clear hHeld2
        try simp only [Act.put, List.setIfInBounds_toArray, List.set_cons_zero, List.set_cons_succ]
        refine held_one (i := 5) rfl (by kernel_rfl) (by rfl) (fun K hK => ?_)
        go_simp
        with_reducible refine (HWi.out _).mono ?_
        rintro e w5 ⟨rfl, hb5⟩
        have HK5 := HK4.out.belows hb5
        refine hK.out _ _ (trivial) (fun hHeld2 => ?_)
        clear hK K hHeld; have hHeld := hHeld2; clear hHeld2
        try simp only [Act.put, List.setIfInBounds_toArray, List.set_cons_zero, List.set_cons_succ]
        refine held_one (i := 6) rfl (by kernel_rfl) (by rfl) (fun K hK => ?_)
        refine wp_store_g _ _ _ rfl q (by rfl) 38 (stL l c.on j) (stL l c.on (j + 1)) HK5.out.cur (by rfl) (by rw [HC33.out, HC32.out]) (by rw [HC33.out]; exact infoState) ?_
        intro w6 G6 S6 R6
        have HK6 := HK5.out.stored (Nat.le_of_lt HLt.out) HLt.out G6 R6
        refine hK.out _ _ (trivial) (fun hHeld2 => ?_)
        clear hK K hHeld; have hHeld := hHeld2; clear hHeld2
        try simp only [Act.put, List.setIfInBounds_toArray, List.set_cons_zero, List.set_cons_succ]
        refine wpAnyH_done (by kernel_rfl) ?_ _
        go_wp2
        go_roundw
        case rel => exact ⟨j + 1, by go_num, by omega, HK6⟩
        case measure => simp [intOf]; omega
      · go_simp
        with_reducible refine HRe.out.mono ?_
        rintro e w4 ⟨rfl, hb4⟩
        have HK4 := HSL.out.below HDr.out hb4
        have G7 := HK4.out.cur
        have hbc := HDr.out.trans (hb4.mono HDr.out.size)
        refine hK.out _ _ (trivial) (fun hHeld2 => ?_)
        clear hK K hHeld; have hHeld := hHeld2; clear hHeld2
        try simp only [Act.put, List.setIfInBounds_toArray, List.set_cons_zero, List.set_cons_succ]
        refine held_one (i := 0) rfl (by kernel_rfl) (by rfl) (fun K hK => ?_)
        refine wp_load_g _ _ rfl q (by rfl) 38 (stL l c.on j) G7 Try.underlying38 (by rw [HC32.out]; exact infoState) ?_
        refine hK.out _ _ (trivial) (fun hHeld2 => ?_)
        clear hK K hHeld; have hHeld := hHeld2; clear hHeld2
        try simp only [Act.put, List.setIfInBounds_toArray, List.set_cons_zero, List.set_cons_succ]
        refine held_one (i := 5) rfl (by kernel_rfl) (by rfl) (fun K hK => ?_)
        go_simp
        with_reducible refine (HWi.out _).mono ?_
        rintro e w5 ⟨rfl, hb5⟩
        have HK5 := HK4.out.belows hb5
        refine hK.out _ _ (trivial) (fun hHeld2 => ?_)
        clear hK K hHeld; have hHeld := hHeld2; clear hHeld2
        try simp only [Act.put, List.setIfInBounds_toArray, List.set_cons_zero, List.set_cons_succ]
        refine held_one (i := 6) rfl (by kernel_rfl) (by rfl) (fun K hK => ?_)
        refine wp_store_g _ _ _ rfl q (by rfl) 38 (stL l c.on j) (stL l c.on (j + 1)) HK5.out.cur (by rfl) (by rw [HC33.out, HC32.out]) (by rw [HC33.out]; exact infoState) ?_
        intro w6 G6 S6 R6
        have HK6 := HK5.out.stored (Nat.le_of_lt HLt.out) HLt.out G6 R6
        refine hK.out _ _ (trivial) (fun hHeld2 => ?_)
        clear hK K hHeld; have hHeld := hHeld2; clear hHeld2
        try simp only [Act.put, List.setIfInBounds_toArray, List.set_cons_zero, List.set_cons_succ]
        refine wpAnyH_done (by kernel_rfl) ?_ _
        go_wp2
        go_roundw
        case rel => exact ⟨j + 1, by go_num, by omega, HK6⟩
        case measure => simp [intOf]; omega
    · obtain rfl : j = 4 := by omega
      have z32 := Lib.hid (zG_length 32)
      have hE := stL_four l c.on
      have HE := Lib.hid hE
      clear hE
      go_wp2_with (first
        | (with_reducible refine wpList_load_g rfl 38 (.tmp 7) rfl q (by with_unfolding_all rfl) 38 (stL l c.on 4) hK.out.cur Try.underlying38 (by rw [HC32.out]; exact infoState) ?_)
        | (with_reducible refine wpList_store_g rfl 38 (.tmp 4) (.tmp 31) rfl w.heap.size (by with_unfolding_all rfl) 38 (zG 32) (stL l c.on 4) hK.out.res (by with_unfolding_all rfl) (by rw [HC32.out, z32.out]) (by rw [HC32.out]; exact infoState) ?_; intro w7 G7 S7 R7))
      rw [HE.out] at G7
      refine bodyPost_ret (results_g2 rfl G7 rfl (v := .bool true) rfl Try.underlying38 (by rw [gmL_len]; exact infoState)) rfl ⟨rfl, ?_⟩
      exact hK.out.be.grown R7 hK.out.be.size (fun k e => by have := Option.some.inj e; omega)
end Go.Proofs.Ytkmkjfbbpeocdaa
