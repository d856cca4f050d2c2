/- texts of YcF -/
import Derived.Test.YtpnobpligchpiaaGreatDoorYcE
namespace Go.Proofs.YtpnobpligchpiaaGreatDoor
set_option maxRecDepth 100000
open Go.RowKit
set_option linter.unusedVariables false
set_option linter.unusedSimpArgs false
theorem bu_core {w0 w : World} (hb : Below w0.heap.size w0 w) (c p : Nat) (oc op om oe : Obj) (hc : w0.heap.size ≤ c) (hp : w0.heap.size ≤ p) (hcp : c ≠ p) (h1 : w.heap[c]? = some oc) (h2 : w.heap[p]? = some op) : BU w0 w [(some c, oc), (some p, op), (none, om), (none, oe)] := by
  have key : ∀ (i k : Nat) (o : Obj), ([(some c, oc), (some p, op), (none, om), (none, oe)] : List Ent)[i]? = some (some k, o) → (i = 0 ∧ k = c ∧ o = oc) ∨ (i = 1 ∧ k = p ∧ o = op) := fun i k o hi => by
    match i, hi with
    | 0, hi => injection hi with hi; injection hi with a b; injection a with a; exact .inl ⟨rfl, a.symm, b.symm⟩
    | 1, hi => injection hi with hi; injection hi with a b; injection a with a; exact .inr ⟨rfl, a.symm, b.symm⟩
    | 2, hi => injection hi with hi; injection hi with a b; cases a
    | 3, hi => injection hi with hi; injection hi with a b; cases a
    | n + 4, hi => simp at hi
  refine ⟨hb, fun i k o hi => ?_, fun i j k o o' hi hj => ?_⟩
  · rcases key i k o hi with ⟨-, rfl, rfl⟩ | ⟨-, rfl, rfl⟩
    · exact ⟨hc, h1⟩
    · exact ⟨hp, h2⟩
  · rcases key i k o hi with ⟨rfl, h3, -⟩ | ⟨rfl, h3, -⟩ <;> rcases key j k o' hj with ⟨rfl, h4, -⟩ | ⟨rfl, h4, -⟩
    · rfl
    · exact absurd (h3.symm.trans h4) hcp
    · exact absurd (h4.symm.trans h3) hcp
    · rfl
abbrev pr0 : Pr := ⟨0, 0, 0, 0, false⟩
def psK (n d : Nat) : Nat → List Pr
  | 0 => List.replicate n pr0
  | k + 1 => (psK n d k).set k ⟨0, d, 0, 0, false⟩
theorem psK_get (n d : Nat) : ∀ k i, (psK n d k)[i]? = if i < n then some (if i < k then ⟨0, d, 0, 0, false⟩ else pr0) else none
  | 0, i => by
    unfold psK
    rw [List.getElem?_replicate]
    split <;> simp
  | k + 1, i => by
    have hl : (psK n d k).length = n := by
      have h1 : ∀ m, (psK n d m).length = n := fun m => by
        induction m with
        | zero => simp [psK]
        | succ m ih => simp [psK, ih]
      exact h1 k
    unfold psK
    rw [List.getElem?_set, psK_get n d k i, hl]
    by_cases e : k = i
    · subst e
      by_cases e2 : k < n <;> simp [e2]
    · by_cases e2 : i < n
      · have e3 : (i < k + 1) = (i < k) := by simp; omega
        simp [e, e2, e3]
      · simp [e, e2]
theorem psK_all (n d : Nat) : psK n d n = List.replicate n ⟨0, d, 0, 0, false⟩ := by
  refine List.ext_getElem? fun i => ?_
  rw [psK_get, List.getElem?_replicate]
  by_cases e : i < n <;> simp [e]
theorem peer_info : (Tryz.prog.info? 100).map (fun i => (i.zero, i.size, i.bytes)) = some (some (.agg #[.int .i64 0, .int .i64 0, .int .i64 0, .int .u32 0, .bool false]), 5, 32) := by kernel_rfl
theorem run_make_rowC {P : Program} (t e : TypeId) (i : TypeInfo) (z : Value) (ht : P.underlying t = some (.slice e)) (hi : P.info? e = some i) (hz : i.zero = some z)
    (kl kc : IntKind) (n c : Nat) (hnc : n ≤ c) (hbytes : i.bytes * c ≤ 281474976710656) (h63 : c ≤ 9223372036854775807) (w : World) :
    (Instr.makeSlice t (.int kl (n : Int)) (.int kc (c : Int))).run P w = .ok (.slice (some ⟨w.heap.size, 0, none⟩) n c) (w.alloc (.cells (madeCells z.cells (c * i.size)) e)) := by
  have hb : (i.bytes : Int) * (c : Int) ≤ 281474976710656 := by
    have h : ((i.bytes * c : Nat) : Int) ≤ 281474976710656 := by omega
    rwa [Int.natCast_mul] at h
  have hr := run_make (P := P) w t e i z ht hi hz kl kc n c (by omega) (by omega) hb (by omega)
  simp only [Int.toNat_natCast] at hr
  exact hr
theorem made_peers (n : Nat) (h : n ≤ 8) : madeCells #[.int .i64 0, .int .i64 0, .int .i64 0, .int .u32 0, .bool false] (n * 5) = (prsL (List.replicate n pr0)).toArray := by
  refine Array.ext_getElem? fun i => ?_
  obtain ⟨a, b, hb, rfl⟩ : ∃ a b, b < 5 ∧ i = a * 5 + b := ⟨i / 5, i % 5, by omega, by omega⟩
  refine Eq.trans ?_ (show (prsL (List.replicate n pr0))[a * 5 + b]? = ((prsL (List.replicate n pr0)).toArray)[a * 5 + b]? from by simp)
  rw [prsL_get _ _ _ hb, List.getElem?_replicate]
  unfold madeCells
  rw [Array.getElem?_map, Array.getElem?_range]
  by_cases ha : a < n
  · rw [if_pos (by omega), if_pos ha]
    show some ((#[.int .i64 0, .int .i64 0, .int .i64 0, .int .u32 0, .bool false] : Array Value)[(a * 5 + b) % 5]!) = (prL pr0)[b]?
    rw [show (a * 5 + b) % 5 = b by omega]
    match b, hb with
    | 0, _ | 1, _ | 2, _ | 3, _ | 4, _ => rfl
  · rw [if_neg (by omega), if_neg ha]; rfl
theorem make_peers (n : Nat) (h : n ≤ 8) (W : World) : (Instr.makeSlice 98 (.int .i64 (n : Int)) (.int .i64 (n : Int))).run Tryz.prog W = .ok (.slice (some ⟨W.heap.size, 0, none⟩) n n) (W.alloc (peersO (psK n 0 0))) := by
  obtain ⟨i0, hi0, hz0, hz1, hz2⟩ := info_parts peer_info
  have := run_make_rowC (P := Tryz.prog) 98 100 i0 _ Tryz.underlying98 hi0 hz0 .i64 .i64 n n (Nat.le_refl _) (by rw [hz2]; omega) (by omega) W
  rw [hz1] at this
  rw [this]
  show _ = Result.ok _ (W.alloc (.cells (prsL (List.replicate n pr0)).toArray _))
  rw [← made_peers n h]
  rfl
set_option maxHeartbeats 8000000 in
theorem core_new_no (n me id dl wi g o br wk ro : Int) (hm : ¬ MayC n me id dl wi g o br wk ro) (w : World) :
    Calls Tryz.prog 12 #[cfV n me id dl wi g o br wk ro] w fun e w' => e = .returned (.tuple #[.pointer none, .int .i64 1]) ∧ Below w.heap.size w w' := by
  have HM := Lib.hid (core_may n me id dl wi g o br wk ro false ⟨fun e => (by cases e), fun e => absurd e hm⟩ (w.alloc (cfO n me id dl wi g o br wk ro)))
  clear hm
  have HA := Lib.hid ((Below.refl w.heap.size w).alloc (Nat.le_refl _) (cfO n me id dl wi g o br wk ro))
  go_enter Tryz.func12, Tryz.ntmps12
  go_wp2_with (first
    | (go_at_call 13; (refine HM.out.mono ?_); rintro en w1 ⟨rfl, hb⟩; have HB := Lib.hid hb; clear hb))
  go_ret2
  exact ⟨rfl, HA.out.trans (HB.out.mono HA.out.size)⟩
set_option maxHeartbeats 600000 in
theorem core_new (w0 w : World) (h0 : Below w0.heap.size w0 w) (C : Cf) (hm : C.may) :
    Calls Tryz.prog 12 #[C.v] w fun e w' => ∃ K : Cm, e = .returned (.tuple #[pB K.c, .int .i64 0]) ∧ K.C = C ∧ K.s = newP C ∧ CM w0 w' K ∧ Below w.heap.size w w' ∧ ∀ k, CB K k → w.heap.size ≤ k := by
  have hmay := hm
  unfold Cf.may MayC at hmay
  obtain ⟨N, hN⟩ : ∃ N, C.n = N := ⟨_, rfl⟩
  obtain ⟨D, hD⟩ : ∃ D, C.dl = D := ⟨_, rfl⟩
  have hN8 : N ≤ 8 := by omega
  have hN2 : 2 ≤ N := by omega
  have hD8 : D ≤ 8 := by omega
  obtain ⟨P, hP⟩ : ∃ P, w.heap.size = P := ⟨_, rfl⟩
  obtain ⟨W1, hW1⟩ : ∃ W1, W1 = w.alloc (cfO C.n C.me C.id C.dl C.wi C.g C.o C.br C.wk C.ro) := ⟨_, rfl⟩
  have HA : Hid (Below w.heap.size w W1) := by rw [hW1]; exact (Below.refl _ _).alloc (Nat.le_refl _) _
  have hcf : CfAt W1 P C := by rw [hW1, ← hP]; exact CfAt.of_heap (heap_alloc_new w _)
  have HPL : Hid (P < W1.heap.size) := by show _ < _; rw [hW1, ← hP]; simp
  have HS : Hid (∀ W, Below W1.heap.size W1 W → W.cell? ⟨P, 0, none⟩ = some (.int .i64 (N : Int)) ∧ W.cell? ⟨P, 3, none⟩ = some (.int .i64 (D : Int)) ∧ CfAt W P C) := fun W hb => by
    have h1 : CfAt W P C := fun j v hv => (hb.cell (p := ⟨P, j, none⟩) HPL.out).trans (hcf j v hv)
    exact ⟨by rw [← hN]; exact h1 0 _ rfl, by rw [← hD]; exact h1 3 _ rfl, h1⟩
  have HM := Lib.hid (core_may C.n C.me C.id C.dl C.wi C.g C.o C.br C.wk C.ro true ⟨fun _ => hm, fun _ => rfl⟩ W1)
  have HW1 := Lib.hid hW1
  have HMK := Lib.hid (fun W => make_peers N hN8 W)
  have HQ : Hid (∀ W, Below w0.heap.size w0 W → Calls Tryz.prog 62 #[.int .i64 (N : Int), .int .i64 (D : Int)] W fun e w' => ∃ q r xs, e = .returned (pB q) ∧ QF w0 w' q r xs (fun k => False) ∧ xs.map Ln.l = List.replicate N (zB D) ∧ Below W.heap.size W w' ∧ ∀ k, QB q r xs k → W.heap.size ≤ k) := fun W hb =>
    (qnew_any W (N : Int) (D : Int) N D (by omega) (by omega)).mono fun e w' ⟨q, r, xs, he, h1, h2, h3, h4⟩ => ⟨q, r, xs, he, ⟨h1, hb.trans (h3.mono hb.size), fun k hk => ⟨Nat.le_trans hb.size (h4 k hk), fun e => e⟩, fun k hk => hk.elim⟩, h2, h3, h4⟩
  have HH0 := Lib.hid h0
  have HCN := Lib.hid hN; have HCD := Lib.hid hD
  have HPP := Lib.hid hP
  clear h0 hm hmay hN hD hW1 hcf hP
  go_enter Tryz.func12, Tryz.ntmps12
  go_upto_region 1 with fail
  rw [← HW1.out]
  try rw [HPP.out]
  go_wp2_with (first
    | (refine wpList_load_cf rfl (.tmp 1) rfl P rfl C (HS.out _ (Below.refl _ _)).2.2 ?_)
    | (go_at_call 13; (refine HM.out.mono ?_); rintro en w2 ⟨rfl, hb⟩; have HB := Lib.hid hb; obtain ⟨c0, c3, -⟩ := HS.out _ hb; have hmk := HMK.out w2; clear hb HM))
  have HPS : Hid ((w2.alloc (peersO (psK N 0 0))).heap[w2.heap.size]? = some (peersO (psK N D 0))) := heap_alloc_new _ _
  have HB2 := Lib.hid ((Below.refl w2.heap.size w2).alloc (Nat.le_refl _) (peersO (psK N 0 0)))
  obtain ⟨p, hp⟩ : ∃ p, w2.heap.size = p := ⟨_, rfl⟩
  have HWP := Lib.hid hp
  rw [hp] at HPS HB2
  try rw [hp]
  clear hmk c0 c3 hp
  go_loopw [5, 14] (fun pp ii wr => ∃ k : Nat, ii = .int .i64 (k : Int) ∧ k ≤ N ∧ Hid (wr.heap[p]? = some (peersO (psK N D k))) ∧ Hid (Below p w2 wr)) (fun _ ii _ => N - (intOf ii).toNat)
  case atStart => exact ⟨0, rfl, by omega, HPS, HB2⟩
  case round =>
    obtain ⟨k, rfl, hk, HR, HBR0⟩ := hrel
    have HBR : Hid (Below W1.heap.size W1 wr) := HB.out.trans (HBR0.out.mono (by rw [← HWP.out]; exact HB.out.size))
    by_cases hlt : k < N
    · have hkN : (k : Int) < (N : Int) := by omega
      have hk2 : Hid (k + 1 ≤ N) := hlt
      have hms : Hid (N - (k + 1) < N - k) := by show _ < _; omega
      obtain ⟨c0, c3, -⟩ := HS.out _ HBR.out
      have hx : (psK N D k)[k]? = some pr0 := by rw [psK_get]; simp [hlt]
      have hz : wr.cell? ⟨p, k * 5 + 1, none⟩ = some (.int .i64 0) := by rw [cell_of_row wr p _ _ _ _ HR.out, List.getElem?_toArray, prsL_get _ _ _ (by omega), hx]; rfl
      have hfz : wr.frozen? ⟨p, k * 5 + 1, none⟩ = false := frozen_of_row wr p _ _ _ HR.out
      have HR2 : Hid ((wr.setCell ⟨p, k * 5 + 1, none⟩ (.int .i64 (D : Int))).heap[p]? = some (peersO (psK N D (k + 1)))) := by
        show _ = _
        rw [heap_setCell_same wr p _ _ _ _ HR.out, peers_set (psK N D k) k 1 (by omega) pr0 ⟨0, D, 0, 0, false⟩ hx _ rfl]
        rfl
      have HB7 := Lib.hid (HBR0.out.setCell (p := ⟨p, k * 5 + 1, none⟩) (Nat.le_refl _) (.int .i64 (D : Int)))
      clear hx
      go_wp2_with fail
      go_roundw
      case rel => exact ⟨k + 1, by go_num, hk2.out, HR2, HB7⟩
      case measure => simp [intOf]; have := hms.out; omega
    · obtain rfl : N = k := by omega
      have HBD : Hid (Below w0.heap.size w0 wr.drew) := (HH0.out.trans ((HA.out.trans (HBR.out.mono HA.out.size)).mono HH0.out.size)).drew
      have HBRD : Hid (Below W1.heap.size W1 wr.drew) := HBR.out.drew
      replace HBR := HBRD
      go_wp2_with fail
      refine wp_region_held_drew (S := (fun w' => w'.cell? ⟨P, 0, none⟩ = some (.int .i64 (N : Int)) ∧ w'.cell? ⟨P, 3, none⟩ = some (.int .i64 (D : Int)) ∧ CfAt w' P C)) (by kernel_rfl) (HS.out _ HBR.out) (fun hHeld => ?_)
      refine held_take (i := 0) (v := C.v) rfl (by kernel_rfl) (by kernel_rfl) (by kernel_rfl) (fun _ _ _ h => h) (by rfl) hHeld (exec_load_cf (.tmp 1) rfl P (by rfl) C (fun w h => h.2.2)) ?_
      try simp only [Act.put, nB, nC, nD]
      refine held_take (i := 1) (v := ?_) rfl (by kernel_rfl) (by kernel_rfl) (by kernel_rfl) (fun _ _ _ h => h) (by rfl) hHeld ?_ ?_
      rotate_left 1
      · (intro w hSw; (try dsimp only at hSw); go_simp; try (with_reducible rfl))
      try simp only [Act.put, nB, nC, nD]
      refine held_take (i := 2) (v := ?_) rfl (by kernel_rfl) (by kernel_rfl) (by kernel_rfl) (fun _ _ _ h => h) (by rfl) hHeld ?_ ?_
      rotate_left 1
      · (intro w hSw; (try dsimp only at hSw); go_simp; try (with_reducible rfl))
      try simp only [Act.put, nB, nC, nD]
      refine held_take (i := 3) (v := ?_) rfl (by kernel_rfl) (by kernel_rfl) (by kernel_rfl) (fun _ _ _ h => h) (by rfl) hHeld ?_ ?_
      rotate_left 1
      · (intro w hSw; (try dsimp only at hSw); go_simp; try (with_reducible rfl))
      try simp only [Act.put, nB, nC, nD]
      refine held_take (i := 4) (v := ?_) rfl (by kernel_rfl) (by kernel_rfl) (by kernel_rfl) (fun _ _ _ h => h) (by rfl) hHeld ?_ ?_
      rotate_left 1
      · (intro w hSw; (try dsimp only at hSw); go_simp; try (with_reducible rfl))
      try simp only [Act.put, nB, nC, nD]
      refine held_take (i := 6) (v := ?_) rfl (by kernel_rfl) (by kernel_rfl) (by kernel_rfl) (fun _ _ _ h => h) (by rfl) hHeld ?_ ?_
      rotate_left 1
      · (intro w hSw; (try dsimp only at hSw); go_simp; try (with_reducible rfl))
      try simp only [Act.put, nB, nC, nD]
      refine held_one (i := 5) rfl (by kernel_rfl) (by rfl) (fun K hK => ?_)
      go_simp
      refine (HQ.out _ HBD.out).mono ?_
      rintro en w3 ⟨q, r, xs, rfl, hqf, hxs, hb3, hxq⟩
      have HQF := Lib.hid hqf
      have HXS := Lib.hid hxs
      have HB3 := Lib.hid hb3
      have HXQ := Lib.hid hxq
      clear hqf hxs hb3 hxq
      refine hK.out _ _ (HS.out _ ((HBR.out.trans (HB3.out.mono HBR.out.size)))) (fun hHeld2 => ?_)
      clear hK K hHeld; have hHeld := hHeld2; clear hHeld2
      try simp only [Act.put, nB, nC, nD]
      refine held_one (i := 7) rfl (by kernel_rfl) (by rfl) (fun K hK => ?_)
      go_simp
      refine hK.out _ _ (hHeld) (fun hHeld2 => ?_)
      clear hK K hHeld; have hHeld := hHeld2; clear hHeld2
      try simp only [Act.put, nB, nC, nD]
      refine held_one (i := 8) rfl (by kernel_rfl) (by rfl) (fun K hK => ?_)
      go_simp
      have HB4 := Lib.hid ((Below.refl w3.heap.size w3).alloc (Nat.le_refl _) (Obj.cells #[.int .i64 C.n, .int .i64 C.me, .int .i64 C.id, .int .i64 C.dl, .int .i64 C.wi, .int .i64 C.g, .int .i64 C.o, .int .i64 C.br, .int .i64 C.wk, .int .i64 C.ro, pB q, .int .i64 0, .slice (some ⟨p, 0, none⟩) N N, .slice none 0 0, .slice none 0 0, .bool false] 104))
      refine hK.out _ _ (HS.out _ ((HBR.out.trans (HB3.out.mono HBR.out.size)).trans (HB4.out.mono (Nat.le_trans HBR.out.size HB3.out.size)))) (fun hHeld2 => ?_)
      clear hK K hHeld; have hHeld := hHeld2; clear hHeld2
      try simp only [Act.put, nB, nC, nD]
      refine held_one (i := 9) rfl (by kernel_rfl) (by rfl) (fun K hK => ?_)
      go_simp
      refine hK.out _ _ (hHeld) (fun hHeld2 => ?_)
      clear hK K hHeld; have hHeld := hHeld2; clear hHeld2
      try simp only [Act.put, nB, nC, nD]
      refine held_one (i := 10) rfl (by kernel_rfl) (by rfl) (fun K hK => ?_)
      go_simp
      refine hK.out _ _ (hHeld) (fun hHeld2 => ?_)
      clear hK K hHeld; have hHeld := hHeld2; clear hHeld2
      try simp only [Act.put, nB, nC, nD]
      refine wpAnyH_done (by kernel_rfl) ?_ _
      clear hHeld
      go_wp2_with fail
      go_ret2
      have hpl : p < wr.heap.size := (Array.getElem?_eq_some_iff.1 HR.out).1
      have hsz : wr.heap.size ≤ w3.heap.size := HB3.out.size
      have hw0p : w0.heap.size ≤ p := by have h1 := HH0.out.size; have h2 := HA.out.size; have h3 := HB.out.size; have h4 := HWP.out; omega
      have hbe : Below w0.heap.size w0 (w3.alloc (Obj.cells #[.int .i64 C.n, .int .i64 C.me, .int .i64 C.id, .int .i64 C.dl, .int .i64 C.wi, .int .i64 C.g, .int .i64 C.o, .int .i64 C.br, .int .i64 C.wk, .int .i64 C.ro, pB q, .int .i64 0, .slice (some ⟨p, 0, none⟩) N N, .slice none 0 0, .slice none 0 0, .bool false] 104)) := (HQF.out.be.trans (HB4.out.mono HQF.out.be.size))
      have hwP : w.heap.size ≤ p := by have h2 := HA.out.size; have h3 := HB.out.size; have h4 := HWP.out; omega
      have hqp : ∀ i, QB q r xs i → wr.heap.size ≤ i := fun i hi => HXQ.out i hi
      have hOB : (Obj.cells #[.int .i64 C.n, .int .i64 C.me, .int .i64 C.id, .int .i64 C.dl, .int .i64 C.wi, .int .i64 C.g, .int .i64 C.o, .int .i64 C.br, .int .i64 C.wk, .int .i64 C.ro, pB q, .int .i64 0, .slice (some ⟨p, 0, none⟩) N N, .slice none 0 0, .slice none 0 0, .bool false] 104) = coreO C q 0 p (.slice none 0 0) (.slice none 0 0) false := by have h := HCN.out; subst h; rfl
      refine ⟨⟨C, w3.heap.size, q, r, p, xs, .slice none 0 0, .cells #[] 0 (0, 0), .slice none 0 0, .cells #[] 0 (0, 0), newP C⟩, rfl, rfl, rfl, ⟨?_, RowE.nil _ _ _, RowE.nil _ _ _, ?_, ?_⟩, ?_, ?_⟩
      · refine bu_core hbe _ _ _ _ _ _ (show w0.heap.size ≤ w3.heap.size by omega) hw0p (show w3.heap.size ≠ p by omega) ((heap_alloc_new w3 _).trans (congrArg some hOB)) ?_
        have h1 : (w3.alloc (Obj.cells #[.int .i64 C.n, .int .i64 C.me, .int .i64 C.id, .int .i64 C.dl, .int .i64 C.wi, .int .i64 C.g, .int .i64 C.o, .int .i64 C.br, .int .i64 C.wk, .int .i64 C.ro, pB q, .int .i64 0, .slice (some ⟨p, 0, none⟩) N N, .slice none 0 0, .slice none 0 0, .bool false] 104)).heap[p]? = w3.heap[p]? := Below.heap_alloc _ _ _ (by omega)
        rw [h1, HB3.out.block p hpl]
        show wr.heap[p]? = _
        rw [HR.out, psK_all]
        show _ = some (peersO (List.replicate C.n ⟨0, C.dl, 0, 0, false⟩))
        rw [HCN.out, HCD.out]
      · refine ⟨HQF.out.qm.belows HB4.out, hbe, fun i hi => ⟨(HQF.out.qb i hi).1, fun e => ?_⟩, fun i hi => ?_⟩
        · rcases e with e | e | e | e
          · have h1 := HQF.out.qm.lt hi; have e2 : i = w3.heap.size := e; omega
          · have h1 := hqp i hi; have e2 : i = p := e; omega
          · cases e
          · cases e
        · have hs : w3.heap.size < (w3.alloc (Obj.cells #[.int .i64 C.n, .int .i64 C.me, .int .i64 C.id, .int .i64 C.dl, .int .i64 C.wi, .int .i64 C.g, .int .i64 C.o, .int .i64 C.br, .int .i64 C.wk, .int .i64 C.ro, pB q, .int .i64 0, .slice (some ⟨p, 0, none⟩) N N, .slice none 0 0, .slice none 0 0, .bool false] 104)).heap.size := by simp
          rcases hi with e | e | e | e
          · have e2 : i = w3.heap.size := e; exact ⟨by omega, by omega⟩
          · have e2 : i = p := e; exact ⟨by omega, by omega⟩
          · cases e
          · cases e
      · show xs.map Ln.l = List.replicate C.n (zB C.dl)
        rw [HXS.out, HCN.out, HCD.out]
      · exact (HA.out.trans (HBR.out.mono HA.out.size)).trans ((HB3.out.trans (HB4.out.mono HB3.out.size)).mono (Nat.le_trans HA.out.size HBR.out.size))
      · intro i hi
        rcases hi with hi | e | e | e | e
        · have := hqp i hi; omega
        · have e2 : i = w3.heap.size := e; omega
        · have e2 : i = p := e; omega
        · cases e
        · cases e
def At (w0 w : World) (C : Cf) (c q : Nat) (s : Pl) (O : Nat → Prop) : Prop := ∃ K : Cm, K.C = C ∧ K.c = c ∧ K.q = q ∧ K.s = s ∧ CM w0 w K ∧ ∀ k, O k → w0.heap.size ≤ k ∧ k < w.heap.size ∧ ¬ CB K k
section
variable {w0 w w' : World} {C : Cf} {c q : Nat} {s s' : Pl} {O O' : Nat → Prop}
theorem At.be (h : At w0 w C c q s O) : Below w0.heap.size w0 w := by obtain ⟨K, -, -, -, -, h, -⟩ := h; exact h.be
theorem At.ob (h : At w0 w C c q s O) : ∀ k, O k → w0.heap.size ≤ k ∧ k < w.heap.size := by obtain ⟨K, -, -, -, -, -, h⟩ := h; exact fun k hk => ⟨(h k hk).1, (h k hk).2.1⟩
theorem At.belows (h : At w0 w C c q s O) (hb : Below w.heap.size w w') : At w0 w' C c q s O := by
  obtain ⟨K, e1, e2, e3, e4, h1, h2⟩ := h
  exact ⟨K, e1, e2, e3, e4, h1.belows hb, fun k hk => ⟨(h2 k hk).1, Nat.lt_of_lt_of_le (h2 k hk).2.1 hb.size, (h2 k hk).2.2⟩⟩
theorem At.same (h : At w0 w C c q s O) (hb : Below w.heap.size w w') : Same O w w' := fun k hk => hb.block k (h.ob k hk).2
theorem At.grab (h : At w0 w C c q s O) (hb : Below w.heap.size w w') : At w0 w' C c q s (Grab O w w') := by
  obtain ⟨K, e1, e2, e3, e4, h1, h2⟩ := h
  refine ⟨K, e1, e2, e3, e4, h1.belows hb, fun k hk => ?_⟩
  rcases hk with hk | ⟨ha, hb2⟩
  · exact ⟨(h2 k hk).1, Nat.lt_of_lt_of_le (h2 k hk).2.1 hb.size, (h2 k hk).2.2⟩
  · exact ⟨Nat.le_trans h1.be.size ha, hb2, fun e => by have := (h1.lt e).2; omega⟩
theorem At.less (h : At w0 w C c q s O) (ho : ∀ k, O' k → O k) : At w0 w C c q s O' := by
  obtain ⟨K, e1, e2, e3, e4, h1, h2⟩ := h
  exact ⟨K, e1, e2, e3, e4, h1, fun k hk => h2 k (ho k hk)⟩
theorem At.goes {K : Cm} (e1 : K.C = C) (e2 : K.c = c) (e3 : K.q = q) (h1 : CM w0 w K) (h2 : ∀ k, O k → w0.heap.size ≤ k ∧ k < w.heap.size ∧ ¬ CB K k) (g : Goes w0 w K w' s') : At w0 w' C c q s' O ∧ Same O w w' := by
  obtain ⟨K', f1, f2, f3, f4, g1, g2, g3⟩ := g
  refine ⟨⟨K', f2.trans e1, f3.trans e2, f4.1.trans e3, f1, g1, fun k hk => ⟨(h2 k hk).1, Nat.lt_of_lt_of_le (h2 k hk).2.1 g2.size, fun e => (g3 k e).elim (h2 k hk).2.2 (fun e2 => by have := (h2 k hk).2.1; omega)⟩⟩, fun k hk => g2.block k (h2 k hk).2.1 (h2 k hk).2.2⟩
def With (O : Nat → Prop) (B n : Nat) (k : Nat) : Prop := O k ∨ (B ≤ k ∧ k < n)
theorem At.goesB {K : Cm} {B : Nat} (e1 : K.C = C) (e2 : K.c = c) (e3 : K.q = q) (h1 : CM w0 w K) (h2 : ∀ k, O k → w0.heap.size ≤ k ∧ k < w.heap.size ∧ ¬ CB K k) (g : GoesB w0 w K w' s' B) : At w0 w' C c q s' (With O B w'.heap.size) ∧ Same O w w' := by
  obtain ⟨K', f1, f2, f3, f4, g1, g2, g3, g4, g5⟩ := g
  refine ⟨⟨K', f2.trans e1, f3.trans e2, f4.1.trans e3, f1, g1, fun k hk => ?_⟩, fun k hk => g2.block k (h2 k hk).2.1 (h2 k hk).2.2⟩
  rcases hk with hk | ⟨ha, hb⟩
  · exact ⟨(h2 k hk).1, Nat.lt_of_lt_of_le (h2 k hk).2.1 g2.size, fun e => (g3 k e).elim (h2 k hk).2.2 (fun e2 => by have := (h2 k hk).2.1; omega)⟩
  · exact ⟨by have := h1.be.size; omega, hb, fun e => by have := g4 k e; omega⟩
theorem Tells.keep {B : Nat} {v : Value} {me : Nat} {xs : List (Nat × List UInt8)} (h : Tells w B v me xs) (S : Same (With O B w.heap.size) w w') : Tells w' B v me xs := by
  obtain ⟨ms, h1, h2⟩ := h
  exact ⟨ms, h1.same fun k ha hb => S k (.inr ⟨ha, hb⟩), h2⟩
theorem at_new (h0 : Below w0.heap.size w0 w) (ho : ∀ k, O k → w0.heap.size ≤ k ∧ k < w.heap.size) (C : Cf) (hm : C.may) :
    Calls Tryz.prog 12 #[C.v] w fun e w' => ∃ c q, e = .returned (.tuple #[pB c, .int .i64 0]) ∧ At w0 w' C c q (newP C) O ∧ Same O w w' :=
  (core_new w0 w h0 C hm).mono fun e w' ⟨K, he, h1, h2, h3, h4, h5⟩ => ⟨K.c, K.q, he, ⟨K, h1, rfl, rfl, h2, h3, fun k hk => ⟨(ho k hk).1, Nat.lt_of_lt_of_le (ho k hk).2 h4.size, fun e => by have := h5 k e; have := (ho k hk).2; omega⟩⟩, fun k hk => h4.block k (ho k hk).2⟩
def Fit (C : Cf) : Prop := 0 < C.n ∧ C.n ≤ 8 ∧ C.me < C.n
theorem may_fit (h : C.may) : Fit C := by
  unfold Cf.may MayC at h
  exact ⟨by omega, by omega, by omega⟩
variable (hf : Fit C) (h : At w0 w C c q s O) {m : Nat} (hok : Ok C m s)
include hf h hok
theorem at_press (b : UInt8) (a : Int) (s' : Pl) (hp : pressP C s b = (a, s')) : Calls Tryz.prog 16 #[pB c, vb b] w fun e w' => e = .returned (.int .i64 a) ∧ At w0 w' C c q s' O ∧ Same O w w' := by
  obtain ⟨K, rfl, rfl, rfl, rfl, h1, h2⟩ := h
  exact (core_press w0 w K h1 m hok hf.1 hf.2.1 hf.2.2 b a s' hp).mono fun e w' ⟨he, g⟩ => ⟨he, At.goes rfl rfl rfl h1 h2 g⟩
theorem at_tick (hT : TabW w0) (hm9 : m ≤ 10000) (xs : List (Nat × List UInt8)) (s' : Pl) (hp : tickP C s = (xs, s')) : Calls Tryz.prog 20 #[pB c] w fun e w' => ∃ v B, e = .returned v ∧ Tells w' B v C.me xs ∧ At w0 w' C c q s' (With O B w'.heap.size) ∧ Same O w w' := by
  obtain ⟨K, rfl, rfl, rfl, rfl, h1, h2⟩ := h
  exact (core_tick w0 w K h1 hT m hok hm9 hf.2.1 hf.2.2 xs s' hp).mono fun e w' ⟨v, B, he, ht, g⟩ => ⟨v, B, he, ht, At.goesB rfl rfl rfl h1 h2 g⟩
theorem at_recv (hT : TabW w0) (hm9 : m ≤ 10000) (A : Option Addr) (l : List UInt8) (n cp : Nat) (hr : RB w w.heap.size A l) (hn : l.length = n) (hc : n ≤ cp) (hm : cp ≤ maxLen) (hl : n ≤ 4096) (o : Option Pk) (ho : Told l o) (a : Int) (s' : Pl) (hp : recvP C s o = (a, s')) :
    Calls Tryz.prog 24 #[pB c, .slice A n cp] w fun e w' => e = .returned (.int .i64 a) ∧ At w0 w' C c q s' O ∧ Same O w w' := by
  obtain ⟨K, rfl, rfl, rfl, rfl, h1, h2⟩ := h
  exact (core_receive w0 w K h1 hT m hok hm9 hf.2.1 hf.2.2 A l n cp hr hn hc hm hl o ho a s' hp).mono fun e w' ⟨he, g⟩ => ⟨he, At.goes rfl rfl rfl h1 h2 g⟩
theorem at_head (H : Nat) (hH : s.head C = H) : Calls Tryz.prog 57 #[pB c] w fun e w' => e = .returned (.int .i64 H) ∧ Below w.heap.size w w' := by
  obtain ⟨K, rfl, rfl, rfl, rfl, h1, h2⟩ := h
  obtain ⟨l, hl, -⟩ := hok.line K.C.me hf.2.2
  exact core_head w0 w K h1 l hl H (by rw [← hH, Ok.head_eq hl])
theorem at_front (F : Nat) (hF : frontP s.L = F) : Calls Tryz.prog 60 #[pB q] w fun e w' => e = .returned (.int .i64 F) ∧ w = w' := by
  obtain ⟨K, rfl, rfl, rfl, rfl, h1, h2⟩ := h
  have := hok.L
  exact front_any w K.q K.r K.xs h1.qf.qm (by rw [h1.xlen]; have := hf.1; omega) (by rw [h1.xlen]; have := hf.2.1; omega) F (by rw [frontN_P, h1.ln]; exact hF)
omit hf hok
theorem at_queue : Calls Tryz.prog 59 #[pB c] w fun e w' => e = .returned (pB q) ∧ w = w' := by
  obtain ⟨K, rfl, rfl, rfl, rfl, h1, h2⟩ := h
  exact core_queue w K.c K.q (h1.cell 10 _ rfl)
theorem at_closed (b : Bool) (hb : s.cl = b) : Calls Tryz.prog 61 #[pB c] w fun e w' => e = .returned (.bool b) ∧ w = w' := by
  obtain ⟨K, rfl, rfl, rfl, rfl, h1, h2⟩ := h
  exact core_closed w K.c b (by rw [← hb]; exact h1.cell 15 _ rfl)
theorem at_marks (n : Nat) (hn : s.ms.length = n) : Calls Tryz.prog 58 #[pB c] w fun e w' => e = .returned (.int .i64 n) ∧ w = w' := by
  obtain ⟨K, rfl, rfl, rfl, rfl, h1, h2⟩ := h
  obtain ⟨A, cap, hm, -, -⟩ := h1.marks
  rw [hn] at hm
  exact core_marks w K.c n cap A (by rw [← hm]; exact h1.cell 13 _ rfl)
end
def EvR (w : World) (v : Value) (es : List Ev) : Prop := ∃ A cap, v = .slice A es.length cap ∧ es.length ≤ cap ∧ cap ≤ maxLen ∧ ∀ (j : Nat) (e : Ev), es[j]? = some e → ∃ b, A = some ⟨b, 0, none⟩ ∧ b < w.heap.size ∧ w.cell? ⟨b, j, none⟩ = some (evC e)
theorem EvR.belows {w w' : World} {v : Value} {es : List Ev} (h : EvR w v es) (hb : Below w.heap.size w w') : EvR w' v es := by
  obtain ⟨A, cap, h1, h2, h3, h4⟩ := h
  exact ⟨A, cap, h1, h2, h3, fun j e he => by obtain ⟨b, q1, q2, q3⟩ := h4 j e he; exact ⟨b, q1, Nat.lt_of_lt_of_le q2 hb.size, (hb.cell (p := ⟨b, j, none⟩) q2).trans q3⟩⟩
theorem at_events {w0 w : World} {C : Cf} {c q : Nat} {s : Pl} {O : Nat → Prop} (h : At w0 w C c q s O) : Calls Tryz.prog 33 #[pB c] w fun e w' => ∃ v, e = .returned v ∧ EvR w' v s.es ∧ At w0 w' C c q (toldP s) O ∧ Same O w w' := by
  obtain ⟨K, rfl, rfl, rfl, rfl, h1, h2⟩ := h
  refine (core_events w K.c K.ev (h1.cell 14 _ rfl) (h1.fz 14)).mono fun e w' ⟨he, hw⟩ => ?_
  subst hw
  obtain ⟨A, cap, hv, hc, hm⟩ := h1.events
  refine ⟨K.ev, he, ⟨A, cap, hv, hc, hm, fun j ev hj => ?_⟩, At.goes rfl rfl rfl h1 h2 h1.set_told⟩
  obtain ⟨b, e1, e2, e3, _⟩ := h1.bu.rowcell h1.ke (i := 3) rfl hv j (evC ev) (by unfold esL; rw [List.getElem?_map, hj]; rfl)
  have hne : b ≠ K.c := fun e => by
    have := h1.bu.inj 0 3 K.c _ K.eo rfl (by show some (K.ev.ownBlock, K.eo) = _; rw [e2, e])
    omega
  have hbl := cell_lt e3
  refine ⟨b, e1, by simpa [World.setCell] using hbl, ?_⟩
  exact (World.cell?_of_block (a := ⟨b, j, none⟩) (heap_setCell_other _ _ _ _ hne)).trans e3
theorem raw_any (e : Ev) (w : World) : Calls Tryz.prog 91 #[evV e] w fun en w' => en = .returned (evR e) ∧ Below w.heap.size w w' := by
  cases e with
  | q p => exact raw_quit p w
  | l p => exact raw_late p w
  | a p f => exact raw_apart p f w
theorem raw_info3 : ∃ i0, Tryz.prog.info? 119 = some i0 ∧ i0.zero = some (.agg #[.int .i64 0, .int .i64 0, .int .i64 0]) ∧ i0.size = 3 ∧ i0.bytes = 24 :=
  info_parts (show (Tryz.prog.info? 119).map (fun i => (i.zero, i.size, i.bytes)) = some (some (.agg #[.int .i64 0, .int .i64 0, .int .i64 0]), 3, 24) from by kernel_rfl)
def rwsL : List Ev → List Value
  | [] => []
  | e :: r => rwL e ++ rwsL r
theorem rwL_len (e : Ev) : (rwL e).length = 3 := by cases e <;> rfl
theorem rwsL_append : ∀ a b, rwsL (a ++ b) = rwsL a ++ rwsL b
  | [], b => rfl
  | e :: r, b => by show rwL e ++ rwsL (r ++ b) = _; rw [rwsL_append r b, ← List.append_assoc]; rfl
theorem rwsL_get : ∀ (es : List Ev) (i j : Nat) (e : Ev), es[i]? = some e → j < 3 → (rwsL es)[i * 3 + j]? = (rwL e)[j]?
  | [], i, j, e, h, _ => by cases h
  | x :: r, 0, j, e, h, hj => by
    obtain rfl : x = e := Option.some.inj h
    show (rwL x ++ rwsL r)[0 * 3 + j]? = _
    rw [List.getElem?_append_left (by rw [rwL_len]; omega), Nat.zero_mul, Nat.zero_add]
  | x :: r, i + 1, j, e, h, hj => by
    show (rwL x ++ rwsL r)[(i + 1) * 3 + j]? = _
    rw [List.getElem?_append_right (by rw [rwL_len]; omega), rwL_len, show (i + 1) * 3 + j - 3 = i * 3 + j by omega]
    exact rwsL_get r i j e h hj
def RwO (w : World) (base : Nat) (v : Value) (es : List Ev) : Prop := w.ownsRow base 119 3 v es.length (rwsL es)
def evK : Ev → Int | .q _ => 1 | .l _ => 2 | .a _ _ => 3
def evP : Ev → Nat | .q p => p | .l p => p | .a p _ => p
def evF : Ev → Nat | .q _ => 0 | .l _ => 0 | .a _ f => f
theorem rwL_eq (e : Ev) : rwL e = [.int .i64 (evK e), .int .i64 (evP e : Int), .int .i64 (evF e : Int)] := by cases e <;> rfl
theorem evR_eq (e : Ev) : evR e = .agg #[.int .i64 (evK e), .int .i64 (evP e : Int), .int .i64 (evF e : Int)] := by cases e <;> rfl
theorem RwO.at {w : World} {base : Nat} {v : Value} {es : List Ev} (h : RwO w base v es) : ∃ A cap, v = .slice A es.length cap ∧ es.length ≤ cap ∧ cap ≤ maxLen ∧ ∀ (j : Nat) (e : Ev), es[j]? = some e → ∃ b, A = some ⟨b, 0, none⟩ ∧ b < w.heap.size ∧ w.cell? ⟨b, j * 3, none⟩ = some (.int .i64 (evK e)) ∧ w.cell? ⟨b, j * 3 + 1, none⟩ = some (.int .i64 (evP e : Int)) ∧ w.cell? ⟨b, j * 3 + 2, none⟩ = some (.int .i64 (evF e : Int)) := by
  rcases h.2 with ⟨hv, h0⟩ | ⟨g, cap, cur, hv, h1, h2, h3, h4, h5, h6⟩
  · exact ⟨none, 0, by rw [hv, h0], by omega, by unfold maxLen; omega, fun j x hx => by have := (List.getElem?_eq_some_iff.1 hx).1; omega⟩
  · refine ⟨_, cap, hv, h3, h4, fun j x hx => ⟨g, rfl, (Array.getElem?_eq_some_iff.1 h2).1, ?_⟩⟩
    have hj := (List.getElem?_eq_some_iff.1 hx).1
    have key : ∀ i, i < 3 → w.cell? ⟨g, j * 3 + i, none⟩ = (rwL x)[i]? := fun i hi => by
      have e := rwsL_get es j i x hx hi
      rw [← h6, List.getElem?_take_of_lt (by omega), Array.getElem?_toList] at e
      rw [cell_of_row w g _ _ _ _ h2, e]
    have k0 := key 0 (by omega); have k1 := key 1 (by omega); have k2 := key 2 (by omega)
    rw [rwL_eq] at k0 k1 k2
    exact ⟨k0, k1, k2⟩
theorem wpList_append_raw {w : World} {ops : Array Oper} {rest : List Oper} {o : Oper} {a : Act} {Q : Exit → Act → World → Prop} (hgd : o.guard = none) (s x : Operand)
    (ho : o.op = .call { callee := .builtin .append, args := #[s, x], argTypes := #[52, 52] })
    (base : Nat) (v : Value) (es : List Ev) (y : Ev) (hs : a.eval s = v) (hown : RwO (w.alloc (.cells #[.int .i64 (evK y), .int .i64 (evP y : Int), .int .i64 (evF y : Int)] 119)) base v es) (hx : a.eval x = .slice (some ⟨w.heap.size, 0, none⟩) 1 1) (hlen : es.length ≤ 900000) (hbase : base ≤ w.heap.size)
    (h : ∀ v' w', RwO w' base v' (es ++ [y]) → (w.alloc (.cells #[.int .i64 (evK y), .int .i64 (evP y : Int), .int .i64 (evF y : Int)] 119)).grownBy w' v.ownBlock → wpList Tryz.prog ops Q rest (a.put o.dst v') w') : wpList Tryz.prog ops Q (o :: rest) a (w.alloc (.cells #[.int .i64 (evK y), .int .i64 (evP y : Int), .int .i64 (evF y : Int)] 119)) := by
  obtain ⟨i0, hi0, hz0, hz1, hz2⟩ := raw_info3
  refine wpList_append_own_at (P := Tryz.prog) _ hgd s x 52 ho base 119 i0 _ 3 24 Tryz.underlying52 hi0 hz0 hz1 hz2 rfl (by decide) v es.length _ hs hown ⟨w.heap.size, 0, none⟩ 1 1 (rwL y) hx (rwL_len y) (fun j u hj => ?_) (fun u hu => ?_) (by unfold maxLen; omega) (by omega) (by rw [World.size_alloc]; omega) ?_
  · rw [Addr.add_lit, Nat.zero_add, cell_of_row _ _ _ _ _ _ (heap_alloc_new w _)]
    rw [rwL_eq] at hj
    simpa using hj
  · rw [rwL_eq] at hu
    simp at hu
    rcases hu with rfl | rfl | rfl <;> simp [Value.oneCell']
  · intro v' w' h1 h2 _ _
    refine h v' w' ?_ h2
    unfold RwO
    rw [List.length_append, rwsL_append]
    have e : rwsL [y] = rwL y := by show rwL y ++ [] = _; rw [List.append_nil]
    rw [e]
    exact h1
theorem evC_parts2 (e : Ev) : ∃ T V, evC e = .iface T V := evC_parts e
set_option maxHeartbeats 4000000 in
theorem raws_any (v : Value) (es : List Ev) (w : World) (hr : EvR w v es) (hlen : es.length ≤ 900000) : Calls Tryz.prog 32 #[v] w fun e w' => ∃ v', e = .returned v' ∧ RwO w' w.heap.size v' es ∧ Below w.heap.size w w' := by
  obtain ⟨A, cap, rfl, -, -, hc⟩ := hr
  obtain ⟨N, hN⟩ : ∃ N, es.length = N := ⟨_, rfl⟩
  rw [hN] at hlen
  have HC := Lib.hid hc; have HN := Lib.hid hN
  have HRaw := Lib.hid raw_any
  rw [hN]
  clear hc hN
  go_enter Tryz.func32, Tryz.ntmps32
  go_wp2_with fail
  go_loopw [3, 4] (fun v1 ii wr => ∃ (k : Nat) (vv : Value), ii = .int .i64 (k : Int) ∧ vv = v1 ∧ k ≤ N ∧ Hid (RwO wr w.heap.size vv (es.take k)) ∧ Hid (Below w.heap.size w wr)) (fun _ ii _ => N - (intOf ii).toNat)
  case atStart => exact ⟨0, _, rfl, rfl, by omega, World.ownsRow_nil _ _ _ _, Below.refl _ _⟩
  case round =>
    obtain ⟨k, vv, rfl, rfl, hk, HO, HB⟩ := hrel
    by_cases hlt : k < N
    · obtain ⟨e, he⟩ : ∃ e, es[k]? = some e := ⟨_, List.getElem?_eq_getElem (by rw [HN.out]; exact hlt)⟩
      obtain ⟨b, rfl, hbl, hbc⟩ := HC.out k e he
      have cx := (HB.out.cell (p := ⟨b, k, none⟩) hbl).trans hbc
      obtain ⟨T, V, hV⟩ := evC_parts2 e
      rw [hV] at cx
      have HR1 := Lib.hid (HRaw.out e wr)
      unfold evV at HR1
      rw [hV, evR_eq] at HR1
      obtain ⟨ek, hek⟩ : ∃ ek, evK e = ek := ⟨_, rfl⟩
      obtain ⟨ep, hep⟩ : ∃ ep : Int, (evP e : Int) = ep := ⟨_, rfl⟩
      obtain ⟨ef, hef⟩ : ∃ ef : Int, (evF e : Int) = ef := ⟨_, rfl⟩
      rw [hek, hep, hef] at HR1
      have hkN : (k : Int) < (N : Int) := by omega
      have hk2 : Hid (k + 1 ≤ N) := hlt
      have hms : Hid (N - (k + 1) < N - k) := by show _ < _; omega
      have HTK : Hid (es.take (k + 1) = es.take k ++ [e]) := take_snoc es k e he
      have HLN : Hid ((es.take k).length ≤ 900000) := by show _ ≤ _; rw [List.length_take]; omega
      have HGE : Hid (∀ i, vv.ownBlock = some i → w.heap.size ≤ i) := fun i hi => (World.ownsRow.lt HO.out i hi).1
      have HAP : Hid (∀ w1, Below wr.heap.size wr w1 → RwO (w1.alloc (.cells #[.int .i64 ek, .int .i64 ep, .int .i64 ef] 119)) w.heap.size vv (es.take k) ∧ w.heap.size ≤ w1.heap.size ∧ Below w.heap.size w (w1.alloc (.cells #[.int .i64 ek, .int .i64 ep, .int .i64 ef] 119))) := fun w1 hb => by
        have hb2 := HB.out.trans (hb.mono HB.out.size)
        exact ⟨ownsRow_same HO.out fun i hi => (Below.heap_alloc _ _ _ (Nat.lt_of_lt_of_le (World.ownsRow.lt HO.out i hi).2 hb.size)).trans (hb.block i (World.ownsRow.lt HO.out i hi).2), hb2.size, hb2.alloc hb2.size _⟩
      have HAPP : Hid (∀ (w1 : World) {ops : Array Oper} {rest : List Oper} {o : Oper} {a : Act} {Q : Exit → Act → World → Prop} (hgd : o.guard = none) (s x : Operand)
          (ho : o.op = .call { callee := .builtin .append, args := #[s, x], argTypes := #[52, 52] }) (hs : a.eval s = vv) (hown : RwO (w1.alloc (.cells #[.int .i64 ek, .int .i64 ep, .int .i64 ef] 119)) w.heap.size vv (es.take k)) (hx : a.eval x = .slice (some ⟨w1.heap.size, 0, none⟩) 1 1) (hbase : w.heap.size ≤ w1.heap.size)
          (h : ∀ v' w', RwO w' w.heap.size v' (es.take k ++ [e]) → (w1.alloc (.cells #[.int .i64 ek, .int .i64 ep, .int .i64 ef] 119)).grownBy w' vv.ownBlock → wpList Tryz.prog ops Q rest (a.put o.dst v') w'), wpList Tryz.prog ops Q (o :: rest) a (w1.alloc (.cells #[.int .i64 ek, .int .i64 ep, .int .i64 ef] 119))) := by
        subst hek; subst hep; subst hef
        intro w1 ops rest o a Q hgd s x ho hs hown hx hbase h
        exact wpList_append_raw hgd s x ho w.heap.size vv (es.take k) e hs hown hx HLN.out hbase h
      clear he hbl hbc hV hek hep hef
      go_wp2_with (first
        | (go_at_call 91; (refine HR1.out.mono ?_); rintro en w1 ⟨rfl, hb⟩; obtain ⟨q1, q2, q3⟩ := HAP.out w1 hb; have HQ1 := Lib.hid q1; have HQ2 := Lib.hid q2; have HQ3 := Lib.hid q3; clear hb q1 q2 q3)
        | (refine HAPP.out _ rfl (.tmp 11) (.tmp 17) rfl rfl HQ1.out rfl HQ2.out ?_; intro v7 w7 o7 g7; have HO7 := Lib.hid o7; have HB7 := Lib.hid (HQ3.out.grown g7 HQ3.out.size HGE.out); clear o7 g7))
      go_roundw
      case rel => exact ⟨k + 1, _, by go_num, rfl, hk2.out, by show RwO _ _ _ _; rw [HTK.out]; exact HO7.out, HB7⟩
      case measure => simp [intOf]; have := hms.out; omega
    · obtain rfl : N = k := by omega
      go_wp2_with fail
      go_ret
      exact ⟨_, rfl, by have := HO.out; rw [← HN.out, List.take_length] at this; exact this, HB.out⟩
def cfB : Cf := ⟨2, 1, 5, 0, 4, 1, 0, 0, 0, 3⟩
theorem cfB_may : cfB.may := by unfold Cf.may MayC cfB; simp
def pkB : Pk := ⟨1, 0, 1, 5, 0, 1, 0, 0, [3]⟩
theorem cMayB : mayC 1 0 1 5 0 1 0 0 1 := by unfold mayC; omega
theorem isB : IsK (encC 1 0 1 5 0 1 0 0 [3]) pkB := ⟨cMayB, by decide, (if_pos cMayB).symm⟩
def sB1 : Pl := (pressP cfB (newP cfB) 7).2
theorem sB1_eq : pressP cfB (newP cfB) 7 = (0, sB1) := rfl
def sB2 : Pl := (tickP cfB sB1).2
def xB2 : List (Nat × List UInt8) := (tickP cfB sB1).1
theorem sB2_eq : tickP cfB sB1 = (xB2, sB2) := rfl
theorem xB2_len : xB2.length = 1 := by kernel_rfl
theorem xB2_get : ∃ l, xB2[0]? = some (0, l) := ⟨_, rfl⟩
def sB3 : Pl := (recvP cfB sB2 (some pkB)).2
theorem sB3_eq : recvP cfB sB2 (some pkB) = (0, sB3) := by kernel_rfl
def sB4 : Pl := (tickP cfB sB3).2
def xB4 : List (Nat × List UInt8) := (tickP cfB sB3).1
theorem sB4_eq : tickP cfB sB3 = (xB4, sB4) := rfl
theorem xB4_len : xB4.length = 1 := by kernel_rfl
theorem sB5_eq : recvP cfB sB4 none = (1, sB4) := by kernel_rfl
theorem sB_head : sB4.head cfB = 1 := by kernel_rfl
theorem sB_front : frontP sB4.L = 1 := by kernel_rfl
theorem sB_cl : sB4.cl = false := by kernel_rfl
theorem sB_es : sB4.es = [] := by kernel_rfl
theorem okB0 : Ok cfB 0 (newP cfB) := Ok.new cfB (by decide)
theorem okB1 : Ok cfB 0 sB1 := okB0.press 7
theorem okB2 : Ok cfB 1 sB2 := okB1.tick
theorem okB3 : Ok cfB 2 sB3 := okB2.recv (by decide) (some pkB) (fun p hp => by obtain rfl := Option.some.inj hp; exact ⟨by decide, by decide, by decide, by decide⟩)
theorem okB4 : Ok cfB 3 sB4 := okB3.tick
theorem told_nil : Told [] none := fun p hp => by have := is_long hp; simp at this
theorem Tells.get {w : World} {B : Nat} {A : Option Addr} {n cap me : Nat} {xs : List (Nat × List UInt8)} (h : Tells w B (.slice A n cap) me xs) (j tt : Nat) (l : List UInt8) (hj : xs[j]? = some (tt, l)) : ∃ (g : Nat) (B2 : Option Addr) (n2 c2 : Nat), A = some ⟨g, 0, none⟩ ∧ g < w.heap.size ∧ w.cell? ⟨g, j * 3, none⟩ = some (.int .i64 (me : Int)) ∧ w.cell? ⟨g, j * 3 + 1, none⟩ = some (.int .i64 (tt : Int)) ∧ w.cell? ⟨g, j * 3 + 2, none⟩ = some (.slice B2 n2 c2) ∧ RB w w.heap.size B2 l ∧ l.length = n2 ∧ n2 ≤ c2 ∧ c2 ≤ maxLen := by
  obtain ⟨A', cap', hv, -, -, hc⟩ := h.at
  injection hv with e1 e2 e3
  subst e1
  exact hc j tt l hj
theorem Tells.form {w : World} {B : Nat} {v : Value} {me : Nat} {xs : List (Nat × List UInt8)} (h : Tells w B v me xs) (n : Nat) (hn : xs.length = n) : ∃ A cap, v = .slice A n cap := by
  obtain ⟨A', cap', hv, -, -, hc⟩ := h.at
  exact ⟨A', cap', by rw [hv, hn]⟩
theorem EvR.form {w : World} {v : Value} {es : List Ev} (h : EvR w v es) (n : Nat) (hn : es.length = n) : ∃ A cap, v = .slice A n cap := by
  obtain ⟨A, cap, hv, -⟩ := h
  exact ⟨A, cap, by rw [hv, hn]⟩
theorem Same.then_ {O : Nat → Prop} {w w1 w2 : World} (h : Same O w w1) (g : Same O w1 w2) : Same O w w2 := fun k hk => (g k hk).trans (h k hk)
set_option maxHeartbeats 4000000 in
theorem begun21_any (w : World) (hT : TabW w) : Calls Tryz.prog 11 #[] w fun e w' => e = .returned (.bool true) ∧ Below w.heap.size w w' := by
  have HT := Lib.hid hT
  have HF := Lib.hid (may_fit cfB_may)
  have HNew := Lib.hid (at_new (w0 := w) (w := w) (O := noB) (Below.refl _ _) (no_noB _ _) cfB cfB_may)
  obtain ⟨l0, hl0⟩ := xB2_get
  have HL0 := Lib.hid hl0
  obtain ⟨L4, hL4⟩ : ∃ L4, (encC 1 0 1 5 0 1 0 0 [3]).length = L4 := ⟨_, rfl⟩
  have HL4 := Lib.hid hL4
  have HL4b : Hid (L4 ≤ 4096) := by show _ ≤ _; have := enc_short 1 0 1 5 0 1 0 0 [3]; omega
  have HPk := Lib.hid (fun (W : World) (A : Option Addr) (n c : Nat) (hr : RB W W.heap.size A [3]) (hn : 1 = n) (hc : n ≤ c) (hm : c ≤ maxLen) => refpacket_any 1 0 1 5 0 A [3] n c 1 0 0 W hr hn hc hm (by omega) (by omega))
  have HOk1 := Lib.hid okB1; have HOk2 := Lib.hid okB2; have HOk3 := Lib.hid okB3; have HOk4 := Lib.hid okB4; have HOk0 := Lib.hid okB0
  unfold Cf.v cfV at HNew
  clear hT hl0 hL4
  go_enter Tryz.func11, Tryz.ntmps11
  go_wp2_with (first
    | (go_at_call 12; (refine HNew.out.mono ?_); rintro en w1 ⟨c, q, rfl, ha, -⟩; have HA1 := Lib.hid ha; clear ha HNew)
    | (go_at_call 59; (first | (refine (at_queue HA7.out).mono ?_) | (refine (at_queue HA1.out).mono ?_)); rintro en w2 ⟨rfl, rfl⟩)
    | (go_at_call 16; (refine (at_press HF.out HA1.out HOk0.out 7 0 sB1 sB1_eq).mono ?_); rintro en w2 ⟨rfl, ha, -⟩; have HA2 := Lib.hid ha; clear ha)
    | (go_at_call 20; first
        | (refine (at_tick HF.out HA5.out HOk3.out HT.out (by omega) xB4 sB4 sB4_eq).mono ?_; rintro en w6 ⟨v6, B6, rfl, ht, ha, hs⟩; obtain ⟨A6, p6, rfl⟩ := ht.form 1 xB4_len; have HA6 := Lib.hid ha; have hte := HTE3.out.keep (HS5.out.then_ hs); obtain ⟨g3, B3', n3', c3', rfl, -, -, k1, -, -, -, -, -⟩ := hte.get 0 0 l0 HL0.out; clear ha hs ht hte)
        | (refine (at_tick HF.out HA2.out HOk1.out HT.out (by omega) xB2 sB2 sB2_eq).mono ?_; rintro en w3 ⟨v3, B3, rfl, ht, ha, hs⟩; obtain ⟨A3, p3, rfl⟩ := ht.form 1 xB2_len; have HA3 := Lib.hid ha; have HTE3 := Lib.hid ht; clear ha hs ht))
    | (go_at_call 22; (refine (HPk.out _ _ 1 1 (rb_made w3 3 _ _ (by simp)) rfl (Nat.le_refl _) (by unfold maxLen; omega)).mono ?_); rintro en w4 ⟨v4, rfl, ho, hb⟩; obtain ⟨A4, c4, rfl, h41, h42, h43⟩ := ho.form_n L4 HL4.out; have HB4 : Hid (Below w3.heap.size w3 w4) := (((Below.refl _ _).alloc (Nat.le_refl _) _).trans (hb.mono (by simp))); have HA4 := Lib.hid (HA3.out.belows HB4.out); have HS4 := Lib.hid (HA3.out.same HB4.out); have H41 := Lib.hid h41; have H42 := Lib.hid h42; have H43 := Lib.hid h43; clear ho hb h41 h42 h43)
    | (go_at_call 24; first
        | (refine (at_recv HF.out HA7.out HOk4.out HT.out (by omega) none [] 0 0 (RB.nil _ _ _) rfl (Nat.le_refl _) (by unfold maxLen; omega) (by omega) none told_nil 1 sB4 sB5_eq).mono ?_; rintro en w8 ⟨rfl, ha, -⟩; have HA8 := Lib.hid ha; clear ha)
        | (refine (at_recv HF.out HA4.out HOk2.out HT.out (by omega) A4 _ L4 c4 H43.out HL4.out H41.out H42.out HL4b.out (some pkB) isB 0 sB3 sB3_eq).mono ?_; rintro en w5 ⟨rfl, ha, hs⟩; have HA5 := Lib.hid ha; have HS5 := Lib.hid (HS4.out.then_ hs); clear ha hs))
    | (go_at_call 57; (refine (at_head HF.out HA6.out HOk4.out 1 sB_head).mono ?_); rintro en w7 ⟨rfl, hb⟩; have HA7 := Lib.hid (HA6.out.belows hb); clear hb)
    | (go_at_call 60; (refine (at_front HF.out HA7.out HOk4.out 1 sB_front).mono ?_); rintro en w9 ⟨rfl, rfl⟩)
    | (go_at_call 61; (refine (at_closed HA8.out false sB_cl).mono ?_); rintro en w9 ⟨rfl, rfl⟩)
    | (go_at_call 33; (refine (at_events HA8.out).mono ?_); rintro en w9 ⟨v9, rfl, hev, ha, -⟩; rw [sB_es] at hev; obtain ⟨A9, p9, rfl⟩ := hev.form 0 rfl; have HA9 := Lib.hid ha; clear ha hev))
  go_ret
  exact ⟨rfl, HA9.out.be⟩
end Go.Proofs.YtpnobpligchpiaaGreatDoor
