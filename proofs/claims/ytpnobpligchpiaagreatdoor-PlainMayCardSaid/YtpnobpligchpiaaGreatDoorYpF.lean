/- texts of YpF -/
import Derived.Test.YtpnobpligchpiaaGreatDoorYpE
import Derived.Test.YtpnobpligchpiaaGreatDoorYpK
namespace Go.Proofs.YtpnobpligchpiaaGreatDoor
set_option maxRecDepth 100000
open Go.RowKit
set_option linter.unusedVariables false
set_option linter.unusedSimpArgs false
theorem bu_core {w0 w : World} (hb : Below w0.heap.size w0 w) (c p : Nat) (oc op om oe : Obj) (hc : w0.heap.size ≤ c) (hp : w0.heap.size ≤ p) (hcp : c ≠ p) (h1 : w.heap[c]? = some oc) (h2 : w.heap[p]? = some op) : BU w0 w [(some c, oc), (some p, op), (none, om), (none, oe)] := by
 have key : ∀ (i k : Nat) (o : Obj), ([(some c, oc), (some p, op), (none, om), (none, oe)] : List Ent)[i]? = some (some k, o) → (i = 0 ∧ k = c ∧ o = oc) ∨ (i = 1 ∧ k = p ∧ o = op) := fun i k o hi => by
  match i, hi with
  | 0, hi => injection hi with hi; injection hi with a b; injection a with a; exact .inl ⟨rfl, a.symm, b.symm⟩
  | 1, hi => injection hi with hi; injection hi with a b; injection a with a; exact .inr ⟨rfl, a.symm, b.symm⟩
  | 2, hi => injection hi with hi; injection hi with a b; cases a
  | 3, hi => injection hi with hi; injection hi with a b; cases a
  | n + 4, hi => simp at hi
 refine ⟨hb, fun i k o hi => ?_, fun i j k o o' hi hj => ?_⟩
 · rcases key i k o hi with ⟨-, rfl, rfl⟩ | ⟨-, rfl, rfl⟩
   · exact ⟨hc, h1⟩
   · exact ⟨hp, h2⟩
 · rcases key i k o hi with ⟨rfl, h3, -⟩ | ⟨rfl, h3, -⟩ <;> rcases key j k o' hj with ⟨rfl, h4, -⟩ | ⟨rfl, h4, -⟩
   · rfl
   · exact absurd (h3.symm.trans h4) hcp
   · exact absurd (h4.symm.trans h3) hcp
   · rfl
abbrev pr0 : Pr := ⟨0, 0, 0, 0, false⟩
def psK (n d : Nat) : Nat → List Pr
 | 0 => List.replicate n pr0
 | k + 1 => (psK n d k).set k ⟨0, d, 0, 0, false⟩
theorem psK_get (n d : Nat) : ∀ k i, (psK n d k)[i]? = if i < n then some (if i < k then ⟨0, d, 0, 0, false⟩ else pr0) else none
 | 0, i => by
   unfold psK
   rw [List.getElem?_replicate]
   split <;> simp
 | k + 1, i => by
   have hl : (psK n d k).length = n := by
    have h1 : ∀ m, (psK n d m).length = n := fun m => by
     induction m with
     | zero => simp [psK]
     | succ m ih => simp [psK, ih]
    exact h1 k
   unfold psK
   rw [List.getElem?_set, psK_get n d k i, hl]
   by_cases e : k = i
   · subst e
     by_cases e2 : k < n <;> simp [e2]
   · by_cases e2 : i < n
     · have e3 : (i < k + 1) = (i < k) := by simp; omega
       simp [e, e2, e3]
     · simp [e, e2]
theorem psK_all (n d : Nat) : psK n d n = List.replicate n ⟨0, d, 0, 0, false⟩ := by
 refine List.ext_getElem? fun i => ?_
 rw [psK_get, List.getElem?_replicate]
 by_cases e : i < n <;> simp [e]
theorem peer_info : (Tryz.prog.info? 100).map (fun i => (i.zero, i.size, i.bytes)) = some (some (.agg #[.int .i64 0, .int .i64 0, .int .i64 0, .int .u32 0, .bool false]), 5, 32) := by kernel_rfl
theorem run_make_rowC {P : Program} (t e : TypeId) (i : TypeInfo) (z : Value) (ht : P.underlying t = some (.slice e)) (hi : P.info? e = some i) (hz : i.zero = some z)
 (kl kc : IntKind) (n c : Nat) (hnc : n ≤ c) (hbytes : i.bytes * c ≤ 281474976710656) (h63 : c ≤ 9223372036854775807) (w : World) :
 (Instr.makeSlice t (.int kl (n : Int)) (.int kc (c : Int))).run P w = .ok (.slice (some ⟨w.heap.size, 0, none⟩) n c) (w.alloc (.cells (madeCells z.cells (c * i.size)) e)) := by
 have hb : (i.bytes : Int) * (c : Int) ≤ 281474976710656 := by
  have h : ((i.bytes * c : Nat) : Int) ≤ 281474976710656 := by omega
  rwa [Int.natCast_mul] at h
 have hr := run_make (P := P) w t e i z ht hi hz kl kc n c (by omega) (by omega) hb (by omega)
 simp only [Int.toNat_natCast] at hr
 exact hr
theorem made_peers (n : Nat) (h : n ≤ 8) : madeCells #[.int .i64 0, .int .i64 0, .int .i64 0, .int .u32 0, .bool false] (n * 5) = (prsL (List.replicate n pr0)).toArray := by
 refine Array.ext_getElem? fun i => ?_
 obtain ⟨a, b, hb, rfl⟩ : ∃ a b, b < 5 ∧ i = a * 5 + b := ⟨i / 5, i % 5, by omega, by omega⟩
 refine Eq.trans ?_ (show (prsL (List.replicate n pr0))[a * 5 + b]? = ((prsL (List.replicate n pr0)).toArray)[a * 5 + b]? from by simp)
 rw [prsL_get _ _ _ hb, List.getElem?_replicate]
 unfold madeCells
 rw [Array.getElem?_map, Array.getElem?_range]
 by_cases ha : a < n
 · rw [if_pos (by omega), if_pos ha]
   show some ((#[.int .i64 0, .int .i64 0, .int .i64 0, .int .u32 0, .bool false] : Array Value)[(a * 5 + b) % 5]!) = (prL pr0)[b]?
   rw [show (a * 5 + b) % 5 = b by omega]
   match b, hb with
   | 0, _ | 1, _ | 2, _ | 3, _ | 4, _ => rfl
 · rw [if_neg (by omega), if_neg ha]; rfl
theorem make_peers (n : Nat) (h : n ≤ 8) (W : World) : (Instr.makeSlice 98 (.int .i64 (n : Int)) (.int .i64 (n : Int))).run Tryz.prog W = .ok (.slice (some ⟨W.heap.size, 0, none⟩) n n) (W.alloc (peersO (psK n 0 0))) := by
 obtain ⟨i0, hi0, hz0, hz1, hz2⟩ := info_parts peer_info
 have := run_make_rowC (P := Tryz.prog) 98 100 i0 _ Tryz.underlying98 hi0 hz0 .i64 .i64 n n (nl _) (by rw [hz2]; omega) (by omega) W
 rw [hz1] at this
 rw [this]
 show _ = Result.ok _ (W.alloc (.cells (prsL (List.replicate n pr0)).toArray _))
 rw [← made_peers n h]
 rfl
set_option maxHeartbeats 600000 in
theorem core_new (w0 w : World) (h0 : Below w0.heap.size w0 w) (C : Cf) (hm : C.may) :
 Calls Tryz.prog 12 #[C.v] w fun e w' => ∃ K : Cm, e = .returned (.tuple #[pB K.c, .int .i64 0]) ∧ K.C = C ∧ K.s = newP C ∧ CM w0 w' K ∧ Below w.heap.size w w' ∧ ∀ k, CB K k → w.heap.size ≤ k := by
 have hmay := hm
 unfold Cf.may MayC at hmay
 obtain ⟨N, hN⟩ : ∃ N, C.n = N := ⟨_, rfl⟩
 obtain ⟨D, hD⟩ : ∃ D, C.dl = D := ⟨_, rfl⟩
 have hN8 : N ≤ 8 := by omega
 have hN2 : 2 ≤ N := by omega
 have hD8 : D ≤ 8 := by omega
 obtain ⟨P, hP⟩ : ∃ P, w.heap.size = P := ⟨_, rfl⟩
 obtain ⟨W1, hW1⟩ : ∃ W1, W1 = w.alloc (cfO C.n C.me C.id C.dl C.wi C.g C.o C.br C.wk C.ro) := ⟨_, rfl⟩
 have HA : Hid (Below w.heap.size w W1) := by rw [hW1]; exact (bR _ _).alloc (nl _) _
 have hcf : CfAt W1 P C := by rw [hW1, ← hP]; exact CfAt.of_heap (heap_alloc_new w _)
 have HPL : Hid (P < W1.heap.size) := by show _ < _; rw [hW1, ← hP]; simp
 have HS : Hid (∀ W, Below W1.heap.size W1 W → W.cell? ⟨P, 0, none⟩ = some (.int .i64 (N : Int)) ∧ W.cell? ⟨P, 3, none⟩ = some (.int .i64 (D : Int)) ∧ CfAt W P C) := fun W hb => by
  have h1 : CfAt W P C := fun j v hv => (hb.cell (p := ⟨P, j, none⟩) HPL.out).trans (hcf j v hv)
  exact ⟨by rw [← hN]; exact h1 0 _ rfl, by rw [← hD]; exact h1 3 _ rfl, h1⟩
 have HM := qh (core_may C.n C.me C.id C.dl C.wi C.g C.o C.br C.wk C.ro true ⟨fun _ => hm, fun _ => rfl⟩ W1)
 have HW1 := qh hW1
 have HMK := qh (fun W => make_peers N hN8 W)
 have HQ : Hid (∀ W, Below w0.heap.size w0 W → Calls Tryz.prog 62 #[.int .i64 (N : Int), .int .i64 (D : Int)] W fun e w' => ∃ q r xs, e = .returned (pB q) ∧ QF w0 w' q r xs (fun k => False) ∧ xs.map Ln.l = List.replicate N (zB D) ∧ Below W.heap.size W w' ∧ ∀ k, QB q r xs k → W.heap.size ≤ k) := fun W hb =>
  (qnew_any W (N : Int) (D : Int) N D (by omega) (by omega)).mono fun e w' ⟨q, r, xs, he, h1, h2, h3, h4⟩ => ⟨q, r, xs, he, ⟨h1, hb.trans (h3.mono hb.size), fun k hk => ⟨Nat.le_trans hb.size (h4 k hk), fun e => e⟩, fun k hk => hk.elim⟩, h2, h3, h4⟩
 have HH0 := qh h0
 have HCN := qh hN; have HCD := qh hD
 have HPP := qh hP
 clear h0 hm hmay hN hD hW1 hcf hP
 go_enter Tryz.func12, Tryz.ntmps12
 go_upto_region 1 with fail
 rw [← HW1.out]
 try rw [HPP.out]
 go_wp2_with (first
  | (refine wpList_load_cf rfl (.tmp 1) rfl P rfl C (HS.out _ (bR _ _)).2.2 ?_)
  | (go_at_call 13; (refine HM.out.mono ?_); rintro en w2 ⟨rfl, hb⟩; have HB := qh hb; obtain ⟨c0, c3, -⟩ := HS.out _ hb; have hmk := HMK.out w2; clear hb HM))
 have HPS : Hid ((w2.alloc (peersO (psK N 0 0))).heap[w2.heap.size]? = some (peersO (psK N D 0))) := heap_alloc_new _ _
 have HB2 := qh ((bR w2.heap.size w2).alloc (nl _) (peersO (psK N 0 0)))
 obtain ⟨p, hp⟩ : ∃ p, w2.heap.size = p := ⟨_, rfl⟩
 have HWP := qh hp
 rw [hp] at HPS HB2
 try rw [hp]
 clear hmk c0 c3 hp
 go_loopw [5, 14] (fun pp ii wr => ∃ k : Nat, ii = .int .i64 (k : Int) ∧ k ≤ N ∧ Hid (wr.heap[p]? = some (peersO (psK N D k))) ∧ Hid (Below p w2 wr)) (fun _ ii _ => N - (intOf ii).toNat)
 case atStart => exact ⟨0, rfl, by omega, HPS, HB2⟩
 case round =>
  obtain ⟨k, rfl, hk, HR, HBR0⟩ := hrel
  have HBR : Hid (Below W1.heap.size W1 wr) := HB.out.trans (HBR0.out.mono (by rw [← HWP.out]; exact HB.out.size))
  by_cases hlt : k < N
  · have hkN : (k : Int) < (N : Int) := by omega
    have hk2 : Hid (k + 1 ≤ N) := hlt
    have hms : Hid (N - (k + 1) < N - k) := by show _ < _; omega
    obtain ⟨c0, c3, -⟩ := HS.out _ HBR.out
    have hx : (psK N D k)[k]? = some pr0 := by rw [psK_get]; simp [hlt]
    have hz : wr.cell? ⟨p, k * 5 + 1, none⟩ = some (.int .i64 0) := by rw [cell_of_row wr p _ _ _ _ HR.out, List.getElem?_toArray, prsL_get _ _ _ (by omega), hx]; rfl
    have hfz : wr.frozen? ⟨p, k * 5 + 1, none⟩ = false := frozen_of_row wr p _ _ _ HR.out
    have HR2 : Hid ((wr.setCell ⟨p, k * 5 + 1, none⟩ (.int .i64 (D : Int))).heap[p]? = some (peersO (psK N D (k + 1)))) := by
     show _ = _
     rw [heap_setCell_same wr p _ _ _ _ HR.out, peers_set (psK N D k) k 1 (by omega) pr0 ⟨0, D, 0, 0, false⟩ hx _ rfl]
     rfl
    have HB7 := qh (HBR0.out.setCell (p := ⟨p, k * 5 + 1, none⟩) (nl _) (.int .i64 (D : Int)))
    clear hx
    go_wp2_with fail
    go_roundw
    case rel => exact ⟨k + 1, by go_num, hk2.out, HR2, HB7⟩
    case measure => simp [intOf]; have := hms.out; omega
  · obtain rfl : N = k := by omega
    have HBD : Hid (Below w0.heap.size w0 wr.drew) := (HH0.out.trans ((HA.out.trans (HBR.out.mono HA.out.size)).mono HH0.out.size)).drew
    have HBRD : Hid (Below W1.heap.size W1 wr.drew) := HBR.out.drew
    replace HBR := HBRD
    go_wp2_with fail
    refine wp_region_held_drew (S := (fun w' => w'.cell? ⟨P, 0, none⟩ = some (.int .i64 (N : Int)) ∧ w'.cell? ⟨P, 3, none⟩ = some (.int .i64 (D : Int)) ∧ CfAt w' P C)) (by kernel_rfl) (HS.out _ HBR.out) (fun hHeld => ?_)
    refine htk (i := 0) (v := C.v) rfl (by kernel_rfl) (fun _ _ _ h => h) (by rfl) hHeld (exec_load_cf (.tmp 1) rfl P (by rfl) C (fun w h => h.2.2)) ?_
    try simp only [Act.put, nB, nC, nD]
    refine htk (i := 1) (v := ?_) rfl (by kernel_rfl) (fun _ _ _ h => h) (by rfl) hHeld ?_ ?_
    rotate_left 1
    · (intro w hSw; (try dsimp only at hSw); go_simp; try (with_reducible rfl))
    try simp only [Act.put, nB, nC, nD]
    refine htk (i := 2) (v := ?_) rfl (by kernel_rfl) (fun _ _ _ h => h) (by rfl) hHeld ?_ ?_
    rotate_left 1
    · (intro w hSw; (try dsimp only at hSw); go_simp; try (with_reducible rfl))
    try simp only [Act.put, nB, nC, nD]
    refine htk (i := 3) (v := ?_) rfl (by kernel_rfl) (fun _ _ _ h => h) (by rfl) hHeld ?_ ?_
    rotate_left 1
    · (intro w hSw; (try dsimp only at hSw); go_simp; try (with_reducible rfl))
    try simp only [Act.put, nB, nC, nD]
    refine htk (i := 4) (v := ?_) rfl (by kernel_rfl) (fun _ _ _ h => h) (by rfl) hHeld ?_ ?_
    rotate_left 1
    · (intro w hSw; (try dsimp only at hSw); go_simp; try (with_reducible rfl))
    try simp only [Act.put, nB, nC, nD]
    refine htk (i := 6) (v := ?_) rfl (by kernel_rfl) (fun _ _ _ h => h) (by rfl) hHeld ?_ ?_
    rotate_left 1
    · (intro w hSw; (try dsimp only at hSw); go_simp; try (with_reducible rfl))
    try simp only [Act.put, nB, nC, nD]
    refine held_one (i := 5) rfl (by kernel_rfl) (by rfl) (fun K hK => ?_)
    go_simp
    refine (HQ.out _ HBD.out).mono ?_
    rintro en w3 ⟨q, r, xs, rfl, hqf, hxs, hb3, hxq⟩
    have HQF := qh hqf
    have HXS := qh hxs
    have HB3 := qh hb3
    have HXQ := qh hxq
    clear hqf hxs hb3 hxq
    refine hK.out _ _ (HS.out _ ((HBR.out.trans (HB3.out.mono HBR.out.size)))) (fun hHeld2 => ?_)
    clear hK K hHeld; have hHeld := hHeld2; clear hHeld2
    try simp only [Act.put, nB, nC, nD]
    refine held_one (i := 7) rfl (by kernel_rfl) (by rfl) (fun K hK => ?_)
    go_simp
    refine hK.out _ _ (hHeld) (fun hHeld2 => ?_)
    clear hK K hHeld; have hHeld := hHeld2; clear hHeld2
    try simp only [Act.put, nB, nC, nD]
    refine held_one (i := 8) rfl (by kernel_rfl) (by rfl) (fun K hK => ?_)
    go_simp
    have HB4 := qh ((bR w3.heap.size w3).alloc (nl _) (Obj.cells #[.int .i64 C.n, .int .i64 C.me, .int .i64 C.id, .int .i64 C.dl, .int .i64 C.wi, .int .i64 C.g, .int .i64 C.o, .int .i64 C.br, .int .i64 C.wk, .int .i64 C.ro, pB q, .int .i64 0, .slice (some ⟨p, 0, none⟩) N N, .slice none 0 0, .slice none 0 0, .bool false] 104))
    refine hK.out _ _ (HS.out _ ((HBR.out.trans (HB3.out.mono HBR.out.size)).trans (HB4.out.mono (Nat.le_trans HBR.out.size HB3.out.size)))) (fun hHeld2 => ?_)
    clear hK K hHeld; have hHeld := hHeld2; clear hHeld2
    try simp only [Act.put, nB, nC, nD]
    refine held_one (i := 9) rfl (by kernel_rfl) (by rfl) (fun K hK => ?_)
    go_simp
    refine hK.out _ _ (hHeld) (fun hHeld2 => ?_)
    clear hK K hHeld; have hHeld := hHeld2; clear hHeld2
    try simp only [Act.put, nB, nC, nD]
    refine held_one (i := 10) rfl (by kernel_rfl) (by rfl) (fun K hK => ?_)
    go_simp
    refine hK.out _ _ (hHeld) (fun hHeld2 => ?_)
    clear hK K hHeld; have hHeld := hHeld2; clear hHeld2
    try simp only [Act.put, nB, nC, nD]
    refine wpAnyH_done (by kernel_rfl) ?_ _
    clear hHeld
    go_wp2_with fail
    go_ret2
    have hpl : p < wr.heap.size := (Array.getElem?_eq_some_iff.1 HR.out).1
    have hsz : wr.heap.size ≤ w3.heap.size := HB3.out.size
    have hw0p : w0.heap.size ≤ p := by have h1 := HH0.out.size; have h2 := HA.out.size; have h3 := HB.out.size; have h4 := HWP.out; omega
    have hbe : Below w0.heap.size w0 (w3.alloc (Obj.cells #[.int .i64 C.n, .int .i64 C.me, .int .i64 C.id, .int .i64 C.dl, .int .i64 C.wi, .int .i64 C.g, .int .i64 C.o, .int .i64 C.br, .int .i64 C.wk, .int .i64 C.ro, pB q, .int .i64 0, .slice (some ⟨p, 0, none⟩) N N, .slice none 0 0, .slice none 0 0, .bool false] 104)) := (HQF.out.be.trans (HB4.out.mono HQF.out.be.size))
    have hwP : w.heap.size ≤ p := by have h2 := HA.out.size; have h3 := HB.out.size; have h4 := HWP.out; omega
    have hqp : ∀ i, QB q r xs i → wr.heap.size ≤ i := fun i hi => HXQ.out i hi
    have hOB : (Obj.cells #[.int .i64 C.n, .int .i64 C.me, .int .i64 C.id, .int .i64 C.dl, .int .i64 C.wi, .int .i64 C.g, .int .i64 C.o, .int .i64 C.br, .int .i64 C.wk, .int .i64 C.ro, pB q, .int .i64 0, .slice (some ⟨p, 0, none⟩) N N, .slice none 0 0, .slice none 0 0, .bool false] 104) = coreO C q 0 p (.slice none 0 0) (.slice none 0 0) false := by have h := HCN.out; subst h; rfl
    refine ⟨⟨C, w3.heap.size, q, r, p, xs, .slice none 0 0, .cells #[] 0 (0, 0), .slice none 0 0, .cells #[] 0 (0, 0), newP C⟩, rfl, rfl, rfl, ⟨?_, RowE.nil _ _ _, RowE.nil _ _ _, ?_, ?_⟩, ?_, ?_⟩
    · refine bu_core hbe _ _ _ _ _ _ (show w0.heap.size ≤ w3.heap.size by omega) hw0p (show w3.heap.size ≠ p by omega) ((heap_alloc_new w3 _).trans (congrArg some hOB)) ?_
      have h1 : (w3.alloc (Obj.cells #[.int .i64 C.n, .int .i64 C.me, .int .i64 C.id, .int .i64 C.dl, .int .i64 C.wi, .int .i64 C.g, .int .i64 C.o, .int .i64 C.br, .int .i64 C.wk, .int .i64 C.ro, pB q, .int .i64 0, .slice (some ⟨p, 0, none⟩) N N, .slice none 0 0, .slice none 0 0, .bool false] 104)).heap[p]? = w3.heap[p]? := Below.heap_alloc _ _ _ (by omega)
      rw [h1, HB3.out.block p hpl]
      show wr.heap[p]? = _
      rw [HR.out, psK_all]
      show _ = some (peersO (List.replicate C.n ⟨0, C.dl, 0, 0, false⟩))
      rw [HCN.out, HCD.out]
    · refine ⟨HQF.out.qm.belows HB4.out, hbe, fun i hi => ⟨(HQF.out.qb i hi).1, fun e => ?_⟩, fun i hi => ?_⟩
      · rcases e with e | e | e | e
        · have h1 := HQF.out.qm.lt hi; have e2 : i = w3.heap.size := e; omega
        · have h1 := hqp i hi; have e2 : i = p := e; omega
        · cases e
        · cases e
      · have hs : w3.heap.size < (w3.alloc (Obj.cells #[.int .i64 C.n, .int .i64 C.me, .int .i64 C.id, .int .i64 C.dl, .int .i64 C.wi, .int .i64 C.g, .int .i64 C.o, .int .i64 C.br, .int .i64 C.wk, .int .i64 C.ro, pB q, .int .i64 0, .slice (some ⟨p, 0, none⟩) N N, .slice none 0 0, .slice none 0 0, .bool false] 104)).heap.size := by simp
        rcases hi with e | e | e | e
        · have e2 : i = w3.heap.size := e; exact ⟨by omega, by omega⟩
        · have e2 : i = p := e; exact ⟨by omega, by omega⟩
        · cases e
        · cases e
    · show xs.map Ln.l = List.replicate C.n (zB C.dl)
      rw [HXS.out, HCN.out, HCD.out]
    · exact (HA.out.trans (HBR.out.mono HA.out.size)).trans ((HB3.out.trans (HB4.out.mono HB3.out.size)).mono (Nat.le_trans HA.out.size HBR.out.size))
    · intro i hi
      rcases hi with hi | e | e | e | e
      · have := hqp i hi; omega
      · have e2 : i = w3.heap.size := e; omega
      · have e2 : i = p := e; omega
      · cases e
      · cases e
def At (w0 w : World) (C : Cf) (c q : Nat) (s : Pl) (O : Nat → Prop) : Prop := ∃ K : Cm, K.C = C ∧ K.c = c ∧ K.q = q ∧ K.s = s ∧ CM w0 w K ∧ ∀ k, O k → w0.heap.size ≤ k ∧ k < w.heap.size ∧ ¬ CB K k
section
variable {w0 w w' : World} {C : Cf} {c q : Nat} {s s' : Pl} {O O' : Nat → Prop}
theorem At.be (h : At w0 w C c q s O) : Below w0.heap.size w0 w := by obtain ⟨K, -, -, -, -, h, -⟩ := h; exact h.be
theorem At.ob (h : At w0 w C c q s O) : ∀ k, O k → w0.heap.size ≤ k ∧ k < w.heap.size := by obtain ⟨K, -, -, -, -, -, h⟩ := h; exact fun k hk => ⟨(h k hk).1, (h k hk).2.1⟩
theorem At.belows (h : At w0 w C c q s O) (hb : Below w.heap.size w w') : At w0 w' C c q s O := by
 obtain ⟨K, e1, e2, e3, e4, h1, h2⟩ := h
 exact ⟨K, e1, e2, e3, e4, h1.belows hb, fun k hk => ⟨(h2 k hk).1, Nat.lt_of_lt_of_le (h2 k hk).2.1 hb.size, (h2 k hk).2.2⟩⟩
theorem At.same (h : At w0 w C c q s O) (hb : Below w.heap.size w w') : Same O w w' := fun k hk => hb.block k (h.ob k hk).2
theorem At.grab (h : At w0 w C c q s O) (hb : Below w.heap.size w w') : At w0 w' C c q s (Grab O w w') := by
 obtain ⟨K, e1, e2, e3, e4, h1, h2⟩ := h
 refine ⟨K, e1, e2, e3, e4, h1.belows hb, fun k hk => ?_⟩
 rcases hk with hk | ⟨ha, hb2⟩
 · exact ⟨(h2 k hk).1, Nat.lt_of_lt_of_le (h2 k hk).2.1 hb.size, (h2 k hk).2.2⟩
 · exact ⟨Nat.le_trans h1.be.size ha, hb2, fun e => by have := (h1.lt e).2; omega⟩
theorem At.less (h : At w0 w C c q s O) (ho : ∀ k, O' k → O k) : At w0 w C c q s O' := by
 obtain ⟨K, e1, e2, e3, e4, h1, h2⟩ := h
 exact ⟨K, e1, e2, e3, e4, h1, fun k hk => h2 k (ho k hk)⟩
theorem At.goes {K : Cm} (e1 : K.C = C) (e2 : K.c = c) (e3 : K.q = q) (h1 : CM w0 w K) (h2 : ∀ k, O k → w0.heap.size ≤ k ∧ k < w.heap.size ∧ ¬ CB K k) (g : Goes w0 w K w' s') : At w0 w' C c q s' O ∧ Same O w w' := by
 obtain ⟨K', f1, f2, f3, f4, g1, g2, g3⟩ := g
 refine ⟨⟨K', f2.trans e1, f3.trans e2, f4.1.trans e3, f1, g1, fun k hk => ⟨(h2 k hk).1, Nat.lt_of_lt_of_le (h2 k hk).2.1 g2.size, fun e => (g3 k e).elim (h2 k hk).2.2 (fun e2 => by have := (h2 k hk).2.1; omega)⟩⟩, fun k hk => g2.block k (h2 k hk).2.1 (h2 k hk).2.2⟩
def With (O : Nat → Prop) (B n : Nat) (k : Nat) : Prop := O k ∨ (B ≤ k ∧ k < n)
theorem At.goesB {K : Cm} {B : Nat} (e1 : K.C = C) (e2 : K.c = c) (e3 : K.q = q) (h1 : CM w0 w K) (h2 : ∀ k, O k → w0.heap.size ≤ k ∧ k < w.heap.size ∧ ¬ CB K k) (g : GoesB w0 w K w' s' B) : At w0 w' C c q s' (With O B w'.heap.size) ∧ Same O w w' := by
 obtain ⟨K', f1, f2, f3, f4, g1, g2, g3, g4, g5⟩ := g
 refine ⟨⟨K', f2.trans e1, f3.trans e2, f4.1.trans e3, f1, g1, fun k hk => ?_⟩, fun k hk => g2.block k (h2 k hk).2.1 (h2 k hk).2.2⟩
 rcases hk with hk | ⟨ha, hb⟩
 · exact ⟨(h2 k hk).1, Nat.lt_of_lt_of_le (h2 k hk).2.1 g2.size, fun e => (g3 k e).elim (h2 k hk).2.2 (fun e2 => by have := (h2 k hk).2.1; omega)⟩
 · exact ⟨by have := h1.be.size; omega, hb, fun e => by have := g4 k e; omega⟩
theorem Tells.keep {B : Nat} {v : Value} {me : Nat} {xs : List (Nat × List UInt8)} (h : Tells w B v me xs) (S : Same (With O B w.heap.size) w w') : Tells w' B v me xs := by
 obtain ⟨ms, h1, h2⟩ := h
 exact ⟨ms, h1.same fun k ha hb => S k (.inr ⟨ha, hb⟩), h2⟩
def Fit (C : Cf) : Prop := 0 < C.n ∧ C.n ≤ 8 ∧ C.me < C.n
theorem may_fit (h : C.may) : Fit C := by
 unfold Cf.may MayC at h
 exact ⟨by omega, by omega, by omega⟩
variable (hf : Fit C) (h : At w0 w C c q s O) {m : Nat} (hok : Ok C m s)
include hf h hok
theorem at_press (b : UInt8) (a : Int) (s' : Pl) (hp : pressP C s b = (a, s')) : Calls Tryz.prog 16 #[pB c, vb b] w fun e w' => e = .returned (.int .i64 a) ∧ At w0 w' C c q s' O ∧ Same O w w' := by
 obtain ⟨K, rfl, rfl, rfl, rfl, h1, h2⟩ := h
 exact (core_press w0 w K h1 m hok hf.1 hf.2.1 hf.2.2 b a s' hp).mono fun e w' ⟨he, g⟩ => ⟨he, At.goes rfl rfl rfl h1 h2 g⟩
theorem at_mark (hm9 : m ≤ 10000) (u : Int) (hu : 0 ≤ u ∧ u ≤ 4294967295) : Calls Tryz.prog 27 #[pB c, .int .u32 u] w fun e w' => e = .returned (.tuple #[]) ∧ At w0 w' C c q (markP C s u) O ∧ Same O w w' := by
 obtain ⟨K, rfl, rfl, rfl, rfl, h1, h2⟩ := h
 exact (core_mark w0 w K h1 m hok hm9 hf.2.1 u hu).mono fun e w' ⟨he, g⟩ => ⟨he, At.goes rfl rfl rfl h1 h2 g⟩
theorem at_recv (hT : TabW w0) (hm9 : m ≤ 10000) (A : Option Addr) (l : List UInt8) (n cp : Nat) (hr : RB w w.heap.size A l) (hn : l.length = n) (hc : n ≤ cp) (hm : cp ≤ maxLen) (hl : n ≤ 4096) (o : Option Pk) (ho : Told l o) (a : Int) (s' : Pl) (hp : recvP C s o = (a, s')) :
 Calls Tryz.prog 24 #[pB c, .slice A n cp] w fun e w' => e = .returned (.int .i64 a) ∧ At w0 w' C c q s' O ∧ Same O w w' := by
 obtain ⟨K, rfl, rfl, rfl, rfl, h1, h2⟩ := h
 exact (core_receive w0 w K h1 hT m hok hm9 hf.2.1 hf.2.2 A l n cp hr hn hc hm hl o ho a s' hp).mono fun e w' ⟨he, g⟩ => ⟨he, At.goes rfl rfl rfl h1 h2 g⟩
theorem at_head (H : Nat) (hH : s.head C = H) : Calls Tryz.prog 57 #[pB c] w fun e w' => e = .returned (.int .i64 H) ∧ Below w.heap.size w w' := by
 obtain ⟨K, rfl, rfl, rfl, rfl, h1, h2⟩ := h
 obtain ⟨l, hl, -⟩ := hok.line K.C.me hf.2.2
 exact core_head w0 w K h1 l hl H (by rw [← hH, Ok.head_eq hl])
theorem at_front (F : Nat) (hF : frontP s.L = F) : Calls Tryz.prog 60 #[pB q] w fun e w' => e = .returned (.int .i64 F) ∧ w = w' := by
 obtain ⟨K, rfl, rfl, rfl, rfl, h1, h2⟩ := h
 have := hok.L
 exact front_any w K.q K.r K.xs h1.qf.qm (by rw [h1.xlen]; have := hf.1; omega) (by rw [h1.xlen]; have := hf.2.1; omega) F (by rw [frontN_P, h1.ln]; exact hF)
omit hf hok
theorem at_queue : Calls Tryz.prog 59 #[pB c] w fun e w' => e = .returned (pB q) ∧ w = w' := by
 obtain ⟨K, rfl, rfl, rfl, rfl, h1, h2⟩ := h
 exact core_queue w K.c K.q (h1.cell 10 _ rfl)
theorem at_closed (b : Bool) (hb : s.cl = b) : Calls Tryz.prog 61 #[pB c] w fun e w' => e = .returned (.bool b) ∧ w = w' := by
 obtain ⟨K, rfl, rfl, rfl, rfl, h1, h2⟩ := h
 exact core_closed w K.c b (by rw [← hb]; exact h1.cell 15 _ rfl)
theorem at_marks (n : Nat) (hn : s.ms.length = n) : Calls Tryz.prog 58 #[pB c] w fun e w' => e = .returned (.int .i64 n) ∧ w = w' := by
 obtain ⟨K, rfl, rfl, rfl, rfl, h1, h2⟩ := h
 obtain ⟨A, cap, hm, -, -⟩ := h1.marks
 rw [hn] at hm
 exact core_marks w K.c n cap A (by rw [← hm]; exact h1.cell 13 _ rfl)
end
theorem Tells.get {w : World} {B : Nat} {A : Option Addr} {n cap me : Nat} {xs : List (Nat × List UInt8)} (h : Tells w B (.slice A n cap) me xs) (j tt : Nat) (l : List UInt8) (hj : xs[j]? = some (tt, l)) : ∃ (g : Nat) (B2 : Option Addr) (n2 c2 : Nat), A = some ⟨g, 0, none⟩ ∧ g < w.heap.size ∧ w.cell? ⟨g, j * 3, none⟩ = some (.int .i64 (me : Int)) ∧ w.cell? ⟨g, j * 3 + 1, none⟩ = some (.int .i64 (tt : Int)) ∧ w.cell? ⟨g, j * 3 + 2, none⟩ = some (.slice B2 n2 c2) ∧ RB w w.heap.size B2 l ∧ l.length = n2 ∧ n2 ≤ c2 ∧ c2 ≤ maxLen := by
 obtain ⟨A', cap', hv, -, -, hc⟩ := h.at
 injection hv with e1 e2 e3
 subst e1
 exact hc j tt l hj
theorem Tells.form {w : World} {B : Nat} {v : Value} {me : Nat} {xs : List (Nat × List UInt8)} (h : Tells w B v me xs) (n : Nat) (hn : xs.length = n) : ∃ A cap, v = .slice A n cap := by
 obtain ⟨A', cap', hv, -, -, hc⟩ := h.at
 exact ⟨A', cap', by rw [hv, hn]⟩
theorem Same.then_ {O : Nat → Prop} {w w1 w2 : World} (h : Same O w w1) (g : Same O w1 w2) : Same O w w2 := fun k hk => (g k hk).trans (h k hk)
end Go.Proofs.YtpnobpligchpiaaGreatDoor
