/- texts of YpPe -/
import Derived.Test.YtpnobpligchpiaaGreatDoorYpK
import Derived.Test.YtpnobpligchpiaaGreatDoorYpPd
namespace Go.Proofs.YtpnobpligchpiaaGreatDoor
set_option maxRecDepth 100000
open Go.RowKit
set_option linter.unusedVariables false
set_option linter.unusedSimpArgs false
set_option maxHeartbeats 4000000 in
theorem mayall_any (n me id dl wi gk o br wk ro : Int) (T : ByteArray) (A : Option Addr) (os : List O4) (L cap : Nat) (TA : Option Addr) (tb : List UInt8) (X tc : Nat) (w : World) (hL : os.length = L) (hro : RO w w.heap.size A os) (hcap : L ≤ cap) (hcm : cap ≤ maxLen) (htz : T.size ≤ 1000000) (htc : X ≤ tc) (htm : tc ≤ maxLen) (b : Bool) (hb : b = true ↔ (MayC n me id dl wi gk o br wk ro ∧ faultN (titB T) os = -1 ∧ mayB gk o X = true)) :
 Calls Tryz.prog 39 #[cfV n me id dl wi gk o br wk ro, .agg #[.string T, .slice A L cap], .slice TA X tc] w fun e w' => e = .returned (.bool b) ∧ Below w.heap.size w w' := by
 obtain ⟨D, hD⟩ : ∃ D, w.heap.size = D := ⟨_, rfl⟩
 obtain ⟨W2, hW2⟩ : ∃ W2, W2 = (w.alloc (cfO n me id dl wi gk o br wk ro)).alloc (.cells #[.string T, .slice A L cap] 61) := ⟨_, rfl⟩
 have s2 : W2.heap.size = D + 2 := by rw [hW2, World.size_alloc, World.size_alloc, hD]
 have b2 : Below D w W2 := by rw [hW2, ← hD]; exact ((bR _ _).alloc (nl _) _).alloc (by simp) _
 have k0 : W2.rangeAt D 0 (cfZ n me id dl wi gk o br wk ro) := by
  have h9 : W2.heap[D]? = some (cfO n me id dl wi gk o br wk ro) := by
   rw [hW2, ← hD]; exact (Below.heap_alloc _ _ _ (by simp)).trans (heap_alloc_new w _)
  exact cz_range h9
 have k1 : W2.heap[D + 1]? = some (.cells #[.string T, .slice A L cap] 61 (0, 0)) := by
  have h9 := heap_alloc_new (w.alloc (cfO n me id dl wi gk o br wk ro)) (.cells #[.string T, .slice A L cap] 61 (0, 0))
  rw [World.size_alloc, hD] at h9
  rw [hW2]; exact h9
 have HK0 : Hid (∀ W, Below W2.heap.size W2 W → W.rangeAt D 0 (cfZ n me id dl wi gk o br wk ro)) := fun W hW => cz_below k0 hW (by omega)
 have HC0 : Hid (∀ W, Below W2.heap.size W2 W → W.cell? ⟨D + 1, 0, none⟩ = some (.string T) ∧ W.cell? ⟨D + 1, 1, none⟩ = some (.slice A L cap) ∧ W.cell? ⟨D, 5, none⟩ = some (.int .i64 gk) ∧ W.cell? ⟨D, 6, none⟩ = some (.int .i64 o)) := fun W hW => by
  have h1 := (hW.block (D + 1) (by omega)).trans k1
  have h0 := HK0.out W hW
  have h5 := h0 5 _ rfl; have h6 := h0 6 _ rfl
  rw [Nat.zero_add] at h5 h6
  refine ⟨?_, ?_, h5, h6⟩
  · rw [cell_of_row _ _ _ _ _ _ h1]; rfl
  · rw [cell_of_row _ _ _ _ _ _ h1]; rfl
 have HFA : Hid (∀ W, Below W2.heap.size W2 W → Calls Tryz.prog 99 #[.agg #[.string T, .slice A L cap]] W fun e w' => e = .returned (.int .i64 (faultN (titB T) os)) ∧ Below W.heap.size W w') := fun W hW => by
  have := reffault_any T A os cap w.heap.size W (hro.below (by rw [hD]; exact b2.trans (hW.mono (by omega)))) (by have := hW.size; omega) (by rw [hL]; exact hcap) hcm (by omega)
  rw [hL] at this
  exact this
 have HBY : Hid (∀ W, Calls Tryz.prog 100 #[.agg #[.int .i64 gk, .int .i64 o, .slice TA X tc]] W fun e w' => e = .returned (.bool (mayB gk o X)) ∧ Below W.heap.size W w') := fun W => mayBy_at gk o TA X tc W (by omega) _ rfl
 have HZ2 := qh s2; have HB2 := qh b2; have HW2 := qh hW2; have HD := qh hD
 have HR22 : Hid (Below W2.heap.size W2 W2) := bR _ _
 obtain ⟨z, hz⟩ : ∃ z, faultN (titB T) os = z := ⟨_, rfl⟩
 obtain ⟨mb, hmb⟩ : ∃ mb, mayB gk o X = mb := ⟨_, rfl⟩
 rw [hz] at HFA
 rw [hmb] at HBY
 rw [hz, hmb] at hb
 by_cases h1 : MayC n me id dl wi gk o br wk ro
 · have HM1 := qh (fun W => ref_may n me id dl wi gk o br wk ro true ⟨fun _ => h1, fun _ => rfl⟩ W)
   by_cases h2 : z = -1
   · have hbv : b = mb := by
      cases mb with
      | true => exact hb.2 ⟨h1, h2, rfl⟩
      | false =>
        cases b with
        | false => rfl
        | true => exact absurd (hb.1 rfl).2.2 (by simp)
     have z1 : (z == -1) = true := by simp [h2]
     subst h2
     clear hro hcap hcm htc htm htz hL s2 b2 hW2 k0 k1 hD hz hmb h1 hb
     go_enter Tryz.func39, Tryz.ntmps39
     go_upto_region 1 with fail
     rw [← HW2.out]
     try rw [HD.out]
     go_wp2_with (first
    | (refine wpList_load_cz rfl (.tmp 3) rfl D (by rfl) (cfZ n me id dl wi gk o br wk ro) rfl (HK0.out _ HR22.out) ?_)
    | (go_at_call 14; (with_reducible refine (HM1.out _).mono ?_); rintro e w4 ⟨rfl, b4⟩; have HB4 := qh b4; obtain ⟨q0, q1, q2, q3⟩ := HC0.out _ b4; clear b4)
    | (go_at_call 99; (with_reducible refine (HFA.out _ HB4.out).mono ?_); rintro e w5 ⟨rfl, b5⟩; have HB5 := qh (HB4.out.trans (b5.mono HB4.out.size)); clear b5 q0 q1 q2 q3; obtain ⟨q0, q1, q2, q3⟩ := HC0.out _ HB5.out)
    | (go_at_call 100; (with_reducible refine (HBY.out _).mono ?_); rintro e w6 ⟨rfl, b6⟩; have HB6 := qh (HB5.out.trans (b6.mono HB5.out.size)); clear b6 q0 q1 q2 q3))
     go_ret
     exact ⟨by rw [hbv]; rfl, by rw [HD.out]; exact HB2.out.trans (HB6.out.mono (by have := HZ2.out; omega))⟩
   · have hbv : b = false := by
      cases b with
      | false => rfl
      | true => exact absurd (hb.1 rfl).2.1 h2
     have z1 : (z == -1) = false := by simp [h2]
     clear hro hcap hcm htc htm htz hL s2 b2 hW2 k0 k1 hD hz hmb h1 h2 hb
     go_enter Tryz.func39, Tryz.ntmps39
     go_upto_region 1 with fail
     rw [← HW2.out]
     try rw [HD.out]
     go_wp2_with (first
    | (refine wpList_load_cz rfl (.tmp 3) rfl D (by rfl) (cfZ n me id dl wi gk o br wk ro) rfl (HK0.out _ HR22.out) ?_)
    | (go_at_call 14; (with_reducible refine (HM1.out _).mono ?_); rintro e w4 ⟨rfl, b4⟩; have HB4 := qh b4; obtain ⟨q0, q1, q2, q3⟩ := HC0.out _ b4; clear b4)
    | (go_at_call 99; (with_reducible refine (HFA.out _ HB4.out).mono ?_); rintro e w5 ⟨rfl, b5⟩; have HB5 := qh (HB4.out.trans (b5.mono HB4.out.size)); clear b5 q0 q1 q2 q3; obtain ⟨q0, q1, q2, q3⟩ := HC0.out _ HB5.out))
     go_ret
     exact ⟨by rw [hbv]; rfl, by rw [HD.out]; exact HB2.out.trans (HB5.out.mono (by have := HZ2.out; omega))⟩
 · have HM1 := qh (fun W => ref_may n me id dl wi gk o br wk ro false ⟨fun e => (by cases e), fun e => absurd e h1⟩ W)
   have hbv : b = false := by
    cases b with
    | false => rfl
    | true => exact absurd (hb.1 rfl).1 h1
   clear hro hcap hcm htc htm htz hL s2 b2 hW2 k0 k1 hD hz hmb h1 hb
   go_enter Tryz.func39, Tryz.ntmps39
   go_upto_region 1 with fail
   rw [← HW2.out]
   try rw [HD.out]
   go_wp2_with (first
    | (refine wpList_load_cz rfl (.tmp 3) rfl D (by rfl) (cfZ n me id dl wi gk o br wk ro) rfl (HK0.out _ HR22.out) ?_)
    | (go_at_call 14; (with_reducible refine (HM1.out _).mono ?_); rintro e w4 ⟨rfl, b4⟩; have HB4 := qh b4; obtain ⟨q0, q1, q2, q3⟩ := HC0.out _ b4; clear b4))
   go_ret
   exact ⟨by rw [hbv]; rfl, by rw [HD.out]; exact HB2.out.trans (HB4.out.mono (by have := HZ2.out; omega))⟩
set_option maxHeartbeats 8000000 in
theorem may22_no (n me id dl wi gk o br wk ro : Int) (t : ByteArray) (A : Option Addr) (os : List O4) (cap : Nat) (TA : Option Addr) (tb : List UInt8) (tc : Nat) (w : World) (hT : TabW w) (hro : RO w w.heap.size A os) (hcap : os.length ≤ cap) (hcm : cap ≤ maxLen) (hrb : RB w w.heap.size TA tb) (htc : tb.length ≤ tc) (htm : tc ≤ maxLen) (hno : ¬ (MayC n me id dl wi gk o br wk ro ∧ faultN (titB (cutT t)) (os.take 66) = -1 ∧ mayB gk o (tb.take 30).length = true)) :
 Calls Tryz.prog 8 #[cfV n me id dl wi gk o br wk ro, .agg #[.string t, .slice A os.length cap], .slice TA tb.length tc] w fun e w' => e = .returned (.bool true) ∧ Below w.heap.size w w' := by
 obtain ⟨L0, hL0⟩ : ∃ L0, os.length = L0 := ⟨_, rfl⟩
 obtain ⟨X0, hX0⟩ : ∃ X0, tb.length = X0 := ⟨_, rfl⟩
 obtain ⟨L, hL⟩ : ∃ L, (os.take 66).length = L := ⟨_, rfl⟩
 obtain ⟨X, hX⟩ : ∃ X, (tb.take 30).length = X := ⟨_, rfl⟩
 have hLc : L ≤ cap := by rw [← hL, List.length_take]; omega
 have hXc : X ≤ tc := by rw [← hX, List.length_take]; omega
 obtain ⟨D, hD⟩ : ∃ D, w.heap.size = D := ⟨_, rfl⟩
 obtain ⟨W2, hW2⟩ : ∃ W2, W2 = (w.alloc (cfO n me id dl wi gk o br wk ro)).alloc (.cells #[.string t, .slice A L0 cap] 61) := ⟨_, rfl⟩
 have s2 : W2.heap.size = D + 2 := by rw [hW2, World.size_alloc, World.size_alloc, hD]
 have b2 : Below D w W2 := by rw [hW2, ← hD]; exact ((bR _ _).alloc (nl _) _).alloc (by simp) _
 have k0 : W2.heap[D]? = some (cfO n me id dl wi gk o br wk ro) := by rw [hW2, ← hD]; exact (Below.heap_alloc _ _ _ (by simp)).trans (heap_alloc_new w _)
 have k1 : W2.heap[D + 1]? = some (.cells #[.string t, .slice A L0 cap] 61 (0, 0)) := by
  have h9 := heap_alloc_new (w.alloc (cfO n me id dl wi gk o br wk ro)) (.cells #[.string t, .slice A L0 cap] 61 (0, 0))
  rw [World.size_alloc, hD] at h9
  rw [hW2]; exact h9
 have HBG := qh (begun22_any W2 (hT.below (by rw [← hD] at b2; exact b2) hT.lt))
 have HCUT : Hid (∀ W, Calls Tryz.prog 37 #[.agg #[.string t, .slice A L0 cap], .int .i64 66] W fun e w' => e = .returned (.agg #[.string (cutT t), .slice A L cap]) ∧ Below W.heap.size W w') := fun W => by
  have := lcut_any t A os cap 66 66 (by show _ = _; rfl) W (by omega) (by omega) hcap hcm
  rw [hL0, hL] at this
  exact this
 have HSH := qh (fun W => short_n TA tb X0 tc 30 W hX0 (by omega) (by omega) htm X hX 30 rfl)
 obtain ⟨w4, hw4⟩ : ∃ w4 : World → World, w4 = fun W => (W.setCell ⟨D + 1, 0, none⟩ (.string (cutT t))).setCell ⟨D + 1, 1, none⟩ (.slice A L cap) := ⟨_, rfl⟩
 have H4 : Hid (∀ W, Below W2.heap.size W2 W → Below D w (w4 W) ∧ (w4 W).heap.size = W.heap.size ∧ (w4 W).heap[D]? = some (cfO n me id dl wi gk o br wk ro) ∧ (w4 W).heap[D + 1]? = some (.cells #[.string (cutT t), .slice A L cap] 61 (0, 0))) := fun W hW => by
  have hs := hW.size
  have h0 := (hW.block D (by omega)).trans k0
  have h1 := (hW.block (D + 1) (by omega)).trans k1
  have bW : Below D w W := b2.trans (hW.mono (by omega))
  rw [hw4]
  refine ⟨(bW.setCell (p := ⟨D + 1, 0, none⟩) (by show D ≤ D + 1; omega) _).setCell (p := ⟨D + 1, 1, none⟩) (by show D ≤ D + 1; omega) _, by simp [World.setCell], ?_, ?_⟩
  · exact (heap_setCell_other _ _ _ _ (by show D ≠ D + 1; omega)).trans ((heap_setCell_other _ _ _ _ (by show D ≠ D + 1; omega)).trans h0)
  · simp only [World.setCell]
    rw [Array.getElem?_modify, if_pos rfl, Array.getElem?_modify, if_pos rfl, h1]
    rfl
 have HQ : Hid (∀ W, Below W2.heap.size W2 W → (W.cell? ⟨D + 1, 0, none⟩ = some (.string t) ∧ W.cell? ⟨D + 1, 1, none⟩ = some (.slice A L0 cap)) ∧ W.frozen? ⟨D + 1, 0, none⟩ = false ∧ W.frozen? ⟨D + 1, 1, none⟩ = false) := fun W hW => by
  have h1 := (hW.block (D + 1) (by omega)).trans k1
  refine ⟨⟨?_, ?_⟩, ?_, ?_⟩
  · rw [cell_of_row _ _ _ _ _ _ h1]; rfl
  · rw [cell_of_row _ _ _ _ _ _ h1]; rfl
  · simp [World.frozen?, h1]
  · simp [World.frozen?, h1]
 have HRO : Hid (∀ W, Below D w W → RO W W.heap.size A (os.take 66)) := fun W hW => by
  have h1 := (hro.below (w' := W) (by rw [hD]; exact hW)).more hW.size
  exact h1.take 66
 have HRB : Hid (∀ W, Below D w W → RB W W.heap.size TA (tb.take 30)) := fun W hW => ((hrb.below (by rw [hD]; exact hW)).more hW.size).take 30
 have hcut : (cutT t).size ≤ 1000000 := by have := cutT_size t; omega
 have HNW : Hid (∀ W, RO W W.heap.size A (os.take 66) → RB W W.heap.size TA (tb.take 30) → Calls Tryz.prog 38 #[cfV n me id dl wi gk o br wk ro, .agg #[.string (cutT t), .slice A L cap], .slice TA X tc] W fun e w' => e = .returned (.tuple #[.pointer none, .int .i64 1]) ∧ Below W.heap.size W w') := fun W h1 h2 => pnew_no n me id dl wi gk o br wk ro (cutT t) A (os.take 66) L cap TA (tb.take 30) X tc W hL hX h1 hLc hcm hcut h2 hXc htm (by rw [← hX]; exact hno)
 have HMA : Hid (∀ W, RO W W.heap.size A (os.take 66) → Calls Tryz.prog 39 #[cfV n me id dl wi gk o br wk ro, .agg #[.string (cutT t), .slice A L cap], .slice TA X tc] W fun e w' => e = .returned (.bool false) ∧ Below W.heap.size W w') := fun W h1 => mayall_any n me id dl wi gk o br wk ro (cutT t) A (os.take 66) L cap TA (tb.take 30) X tc W hL h1 hLc hcm hcut hXc htm false ⟨fun e => (by cases e), fun e => absurd e (by rw [← hX]; exact hno)⟩
 have HZ2 := qh s2; have HB2 := qh b2; have HW2 := qh hW2; have HD := qh hD; have HW4 := qh hw4
 rw [hL0, hX0]
 clear hno hT hro hcap hcm hrb htc htm hL0 hX0 hL hX hLc hXc s2 b2 hW2 k0 k1 hD hcut hw4
 go_enter Tryz.func8, Tryz.ntmps8
 go_upto_region 1 with fail
 rw [← HW2.out]
 try rw [HD.out]
 go_upto_region 5 with (first
  | (go_at_call 36; (with_reducible refine HBG.out.mono ?_); rintro e w1 ⟨rfl, b1⟩; have HB1 := qh b1; obtain ⟨⟨q0, q1⟩, -, -⟩ := HQ.out _ b1; clear b1)
  | (go_at_call 37; (with_reducible refine (HCUT.out _).mono ?_); rintro e w2 ⟨rfl, b2⟩; have HB2b := qh (HB1.out.trans (b2.mono HB1.out.size)); clear b2 q0 q1; obtain ⟨⟨q0, q1⟩, q2, q3⟩ := HQ.out _ HB2b.out)
  | (go_at_call 26; (with_reducible refine (HSH.out _).mono ?_); rintro e w3 ⟨rfl, rfl⟩))
 obtain ⟨bw4, sw4, r0, r1⟩ := H4.out _ HB2b.out
 obtain ⟨W4, hW4⟩ : ∃ W4, W4 = w4 w2 := ⟨_, rfl⟩
 rw [← hW4] at bw4 sw4 r0 r1
 have e4 : W4 = (w2.setCell ⟨D + 1, 0, none⟩ (.string (cutT t))).setCell ⟨D + 1, 1, none⟩ (.slice A L cap) := by rw [hW4, HW4.out]
 rw [← e4]
 have HBW4 := qh bw4; have HR0 := qh r0; have HR1 := qh r1
 have hD4 : D + 2 ≤ W4.heap.size := by rw [sw4]; have := HB2b.out.size; have := HZ2.out; omega
 have HD4 := qh hD4
 have HKZ : Hid (∀ (W : World), W.heap[D]? = some (cfO n me id dl wi gk o br wk ro) → W.rangeAt D 0 (cfZ n me id dl wi gk o br wk ro)) := fun W h => cz_range h
 have p0 : W4.cell? ⟨D + 1, 0, none⟩ = some (.string (cutT t)) := by rw [cell_of_row _ _ _ _ _ _ r1]; rfl
 have p1 : W4.cell? ⟨D + 1, 1, none⟩ = some (.slice A L cap) := by rw [cell_of_row _ _ _ _ _ _ r1]; rfl
 have HRO4 := qh (HRO.out _ bw4)
 have HRB4 := qh (HRB.out _ bw4)
 clear bw4 sw4 r0 r1 hW4 e4 q0 q1 q2 q3 hD4
 go_wp2_with (first
  | (have h99 := HR05.out; clear h99; refine wpList_load_cz rfl (.tmp 3) rfl D (by rfl) (cfZ n me id dl wi gk o br wk ro) rfl (HKZ.out _ HR05.out) ?_)
  | (refine wpList_load_cz rfl (.tmp 3) rfl D (by rfl) (cfZ n me id dl wi gk o br wk ro) rfl (HKZ.out _ HR0.out) ?_)
  | (go_at_call 38; (with_reducible refine (HNW.out _ HRO4.out HRB4.out).mono ?_); rintro e w5 ⟨rfl, b5⟩; have HB5 := qh b5; have HR05 := qh ((b5.block D (by have := HD4.out; omega)).trans HR0.out); have r15 := (b5.block (D + 1) (by have := HD4.out; omega)).trans HR1.out; have HRO5 := qh ((HRO4.out.below b5).more b5.size); clear b5 p0 p1; have p0 : w5.cell? ⟨D + 1, 0, none⟩ = some (.string (cutT t)) := by { rw [cell_of_row _ _ _ _ _ _ r15]; rfl }; have p1 : w5.cell? ⟨D + 1, 1, none⟩ = some (.slice A L cap) := by { rw [cell_of_row _ _ _ _ _ _ r15]; rfl }; clear r15)
  | (go_at_call 39; (with_reducible refine (HMA.out _ HRO5.out).mono ?_); rintro e w6 ⟨rfl, b6⟩; have HB6 := qh b6; clear b6))
 go_ret
 exact ⟨rfl, by rw [HD.out]; exact HBW4.out.trans ((HB5.out.trans (HB6.out.mono HB5.out.size)).mono (by have := HD4.out; omega))⟩
theorem front_rep (d : Nat) (h : d ≤ 1000) : ∀ n, 0 < n → frontP (List.replicate n (zB d)) = d := fun n hn => by
 have e : ∀ (n m : Nat), d ≤ m → (List.replicate n (zB d)).foldl (fun m l => min m l.length) m = if n = 0 then m else d := by
  intro n
  induction n with
  | zero => intro m _; rfl
  | succ k ih =>
    intro m hm
    rw [List.replicate_succ, List.foldl_cons]
    have hz : (zB d).length = d := by simp [zB]
    rw [hz, ih (min m d) (by omega)]
    split <;> simp <;> omega
 unfold frontP
 rw [e n 1000 h, if_neg (by omega)]
theorem front_new (C : Cf) (hn : 0 < C.n) (hd : C.dl ≤ 8) : frontP (newP C).L = C.dl := front_rep C.dl (by omega) C.n hn
set_option maxHeartbeats 8000000 in
theorem may22_yes (C : Cf) (hm : C.may) (t : ByteArray) (A : Option Addr) (os : List O4) (cap : Nat) (TA : Option Addr) (tb : List UInt8) (tc : Nat) (w : World) (hT : TabW w) (hro : RO w w.heap.size A os) (hcap : os.length ≤ cap) (hcm : cap ≤ maxLen) (hrb : RB w w.heap.size TA tb) (htc : tb.length ≤ tc) (htm : tc ≤ maxLen) (hf : faultN (titB (cutT t)) (os.take 66) = -1) (hmb : mayB C.g C.o (tb.take 30).length = true) :
 Calls Tryz.prog 8 #[C.v, .agg #[.string t, .slice A os.length cap], .slice TA tb.length tc] w fun e w' => e = .returned (.bool true) ∧ Below w.heap.size w w' := by
 obtain ⟨L0, hL0⟩ : ∃ L0, os.length = L0 := ⟨_, rfl⟩
 obtain ⟨X0, hX0⟩ : ∃ X0, tb.length = X0 := ⟨_, rfl⟩
 obtain ⟨L, hL⟩ : ∃ L, (os.take 66).length = L := ⟨_, rfl⟩
 obtain ⟨X, hX⟩ : ∃ X, (tb.take 30).length = X := ⟨_, rfl⟩
 have hLc : L ≤ cap := by rw [← hL, List.length_take]; omega
 have hXc : X ≤ tc := by rw [← hX, List.length_take]; omega
 obtain ⟨D, hD⟩ : ∃ D, w.heap.size = D := ⟨_, rfl⟩
 obtain ⟨W2, hW2⟩ : ∃ W2, W2 = (w.alloc (cfO C.n C.me C.id C.dl C.wi C.g C.o C.br C.wk C.ro)).alloc (.cells #[.string t, .slice A L0 cap] 61) := ⟨_, rfl⟩
 have s2 : W2.heap.size = D + 2 := by rw [hW2, World.size_alloc, World.size_alloc, hD]
 have b2 : Below D w W2 := by rw [hW2, ← hD]; exact ((bR _ _).alloc (nl _) _).alloc (by simp) _
 have k0 : W2.heap[D]? = some (cfO C.n C.me C.id C.dl C.wi C.g C.o C.br C.wk C.ro) := by rw [hW2, ← hD]; exact (Below.heap_alloc _ _ _ (by simp)).trans (heap_alloc_new w _)
 have k1 : W2.heap[D + 1]? = some (.cells #[.string t, .slice A L0 cap] 61 (0, 0)) := by
  have h9 := heap_alloc_new (w.alloc (cfO C.n C.me C.id C.dl C.wi C.g C.o C.br C.wk C.ro)) (.cells #[.string t, .slice A L0 cap] 61 (0, 0))
  rw [World.size_alloc, hD] at h9
  rw [hW2]; exact h9
 have HBG := qh (begun22_any W2 (hT.below (by rw [← hD] at b2; exact b2) hT.lt))
 have HCUT : Hid (∀ W, Calls Tryz.prog 37 #[.agg #[.string t, .slice A L0 cap], .int .i64 66] W fun e w' => e = .returned (.agg #[.string (cutT t), .slice A L cap]) ∧ Below W.heap.size W w') := fun W => by
  have := lcut_any t A os cap 66 66 (by show _ = _; rfl) W (by omega) (by omega) hcap hcm
  rw [hL0, hL] at this
  exact this
 have HSH := qh (fun W => short_n TA tb X0 tc 30 W hX0 (by omega) (by omega) htm X hX 30 rfl)
 obtain ⟨w4, hw4⟩ : ∃ w4 : World → World, w4 = fun W => (W.setCell ⟨D + 1, 0, none⟩ (.string (cutT t))).setCell ⟨D + 1, 1, none⟩ (.slice A L cap) := ⟨_, rfl⟩
 have H4 : Hid (∀ W, Below W2.heap.size W2 W → Below D w (w4 W) ∧ (w4 W).heap.size = W.heap.size ∧ (w4 W).heap[D]? = some (cfO C.n C.me C.id C.dl C.wi C.g C.o C.br C.wk C.ro) ∧ (w4 W).heap[D + 1]? = some (.cells #[.string (cutT t), .slice A L cap] 61 (0, 0))) := fun W hW => by
  have hs := hW.size
  have h0 := (hW.block D (by omega)).trans k0
  have h1 := (hW.block (D + 1) (by omega)).trans k1
  have bW : Below D w W := b2.trans (hW.mono (by omega))
  rw [hw4]
  refine ⟨(bW.setCell (p := ⟨D + 1, 0, none⟩) (by show D ≤ D + 1; omega) _).setCell (p := ⟨D + 1, 1, none⟩) (by show D ≤ D + 1; omega) _, by simp [World.setCell], ?_, ?_⟩
  · exact (heap_setCell_other _ _ _ _ (by show D ≠ D + 1; omega)).trans ((heap_setCell_other _ _ _ _ (by show D ≠ D + 1; omega)).trans h0)
  · simp only [World.setCell]
    rw [Array.getElem?_modify, if_pos rfl, Array.getElem?_modify, if_pos rfl, h1]
    rfl
 have HQ : Hid (∀ W, Below W2.heap.size W2 W → (W.cell? ⟨D + 1, 0, none⟩ = some (.string t) ∧ W.cell? ⟨D + 1, 1, none⟩ = some (.slice A L0 cap)) ∧ W.frozen? ⟨D + 1, 0, none⟩ = false ∧ W.frozen? ⟨D + 1, 1, none⟩ = false) := fun W hW => by
  have h1 := (hW.block (D + 1) (by omega)).trans k1
  refine ⟨⟨?_, ?_⟩, ?_, ?_⟩
  · rw [cell_of_row _ _ _ _ _ _ h1]; rfl
  · rw [cell_of_row _ _ _ _ _ _ h1]; rfl
  · simp [World.frozen?, h1]
  · simp [World.frozen?, h1]
 have HRO : Hid (∀ W, Below D w W → RO W W.heap.size A (os.take 66)) := fun W hW => by
  have h1 := (hro.below (w' := W) (by rw [hD]; exact hW)).more hW.size
  exact h1.take 66
 have HRB : Hid (∀ W, Below D w W → RB W W.heap.size TA (tb.take 30)) := fun W hW => ((hrb.below (by rw [hD]; exact hW)).more hW.size).take 30
 have hcut : (cutT t).size ≤ 1000000 := by have := cutT_size t; omega
 obtain ⟨⟨s, g⟩, hpl⟩ : ∃ x, playsP C (cutT t) (os.take 66) (newP C) (zG 32) = x := ⟨_, rfl⟩
 have hfr : frontP (newP C).L = C.dl := front_new C (by unfold Cf.may MayC at hm; omega) (by unfold Cf.may MayC at hm; omega)
 have hsL : s.L = (newP C).L := by have := plays_L (C := C) (T := cutT t) (os := os.take 66) (s := newP C) (g := zG 32); rw [hpl] at this; exact this
 have hsm : s.ms.length = C.dl := by have := plays_len (C := C) (T := cutT t) (os := os.take 66) (s := newP C) (g := zG 32) (Nat.zero_le _); rw [hpl, hfr] at this; exact this
 have hok : Ok C (0 + (frontP (newP C).L - (newP C).ms.length)) s := by have := playN_ok (T := cutT t) (os := os.take 66) (g := zG 32) (may_fit hm).2.1 (Ok.new C (by unfold Cf.may MayC at hm; omega)) (frontP (newP C).L - (newP C).ms.length); unfold playsP at hpl; rw [hpl] at this; exact this
 have hhd : s.head C = C.dl := by
  unfold Pl.head
  rw [hsL]
  show (((List.replicate C.n (zB C.dl))[C.me]?).getD []).length = C.dl
  rw [List.getElem?_replicate, if_pos (may_fit hm).2.2]
  simp [zB]
 have HNW : Hid (∀ W, Below w.heap.size w W → D + 2 ≤ W.heap.size → RO W W.heap.size A (os.take 66) → RB W W.heap.size TA (tb.take 30) → Calls Tryz.prog 38 #[cfV C.n C.me C.id C.dl C.wi C.g C.o C.br C.wk C.ro, .agg #[.string (cutT t), .slice A L cap], .slice TA X tc] W fun e w' => ∃ P : Pc, e = .returned (.tuple #[pB P.x, .int .i64 0]) ∧ P.C = C ∧ PFit P ∧ PX w w' P s g C.dl (fun k => D ≤ k ∧ k < D + 2) ∧ Same (fun k => D ≤ k ∧ k < D + 2) W w') := fun W hb h2 h1 h3 => by
  have := pnew_yes w (fun k => D ≤ k ∧ k < D + 2) hT C hm (cutT t) A (os.take 66) L cap TA (tb.take 30) X tc W hL hX h1 hLc hcm hcut h3 hXc htm hb (fun k hk => by rw [hD]; omega) hf (by rw [← hX]; exact hmb) s g hpl
  rw [hfr] at this
  exact this.mono fun e w' ⟨P, a1, a2, a3, a4, a5, a6, a7, a8⟩ => ⟨P, a1, a2, a6, a7, a8⟩
 have HMA : Hid (∀ W, RO W W.heap.size A (os.take 66) → Calls Tryz.prog 39 #[cfV C.n C.me C.id C.dl C.wi C.g C.o C.br C.wk C.ro, .agg #[.string (cutT t), .slice A L cap], .slice TA X tc] W fun e w' => e = .returned (.bool true) ∧ Below W.heap.size W w') := fun W h1 => mayall_any C.n C.me C.id C.dl C.wi C.g C.o C.br C.wk C.ro (cutT t) A (os.take 66) L cap TA (tb.take 30) X tc W hL h1 hLc hcm hcut hXc htm true ⟨fun _ => ⟨hm, hf, by rw [← hX]; exact hmb⟩, fun _ => rfl⟩
 have HOK := qh hok; have HHD := qh hhd; have HSM := qh hsm
 have HFR : Hid (frontP s.L = C.dl) := by show _ = _; rw [hsL]; exact hfr
 have HRO9 : Hid (∀ W, Below w.heap.size w W → RO W W.heap.size A (os.take 66)) := fun W hW => HRO.out W (by rw [← hD]; exact hW)
 have HZ2 := qh s2; have HB2 := qh b2; have HW2 := qh hW2; have HD := qh hD; have HW4 := qh hw4
 rw [hL0, hX0]
 unfold Cf.v cfV at *
 clear hm hf hmb hpl hfr hsL hsm hok hhd hT hro hcap hcm hrb htc htm hL0 hX0 hL hX hLc hXc s2 b2 hW2 k0 k1 hcut hw4
 go_enter Tryz.func8, Tryz.ntmps8
 go_upto_region 1 with fail
 rw [← HW2.out]
 try rw [HD.out]
 go_upto_region 5 with (first
  | (go_at_call 36; (with_reducible refine HBG.out.mono ?_); rintro e w1 ⟨rfl, b1⟩; have HB1 := qh b1; obtain ⟨⟨q0, q1⟩, -, -⟩ := HQ.out _ b1; clear b1)
  | (go_at_call 37; (with_reducible refine (HCUT.out _).mono ?_); rintro e w2 ⟨rfl, b2⟩; have HB2b := qh (HB1.out.trans (b2.mono HB1.out.size)); clear b2 q0 q1; obtain ⟨⟨q0, q1⟩, q2, q3⟩ := HQ.out _ HB2b.out)
  | (go_at_call 26; (with_reducible refine (HSH.out _).mono ?_); rintro e w3 ⟨rfl, rfl⟩))
 obtain ⟨bw4, sw4, r0, r1⟩ := H4.out _ HB2b.out
 obtain ⟨W4, hW4⟩ : ∃ W4, W4 = w4 w2 := ⟨_, rfl⟩
 rw [← hW4] at bw4 sw4 r0 r1
 have e4 : W4 = (w2.setCell ⟨D + 1, 0, none⟩ (.string (cutT t))).setCell ⟨D + 1, 1, none⟩ (.slice A L cap) := by rw [hW4, HW4.out]
 rw [← e4]
 have HBW4 := qh bw4; have HR0 := qh r0; have HR1 := qh r1
 have hD4 : D + 2 ≤ W4.heap.size := by rw [sw4]; have := HB2b.out.size; have := HZ2.out; omega
 have HD4 := qh hD4
 have HKZ : Hid (∀ (W : World), W.heap[D]? = some (cfO C.n C.me C.id C.dl C.wi C.g C.o C.br C.wk C.ro) → W.rangeAt D 0 (cfZ C.n C.me C.id C.dl C.wi C.g C.o C.br C.wk C.ro)) := fun W h => cz_range h
 have p0 : W4.cell? ⟨D + 1, 0, none⟩ = some (.string (cutT t)) := by rw [cell_of_row _ _ _ _ _ _ r1]; rfl
 have p1 : W4.cell? ⟨D + 1, 1, none⟩ = some (.slice A L cap) := by rw [cell_of_row _ _ _ _ _ _ r1]; rfl
 have HRO4 := qh (HRO.out _ bw4)
 have HRB4 := qh (HRB.out _ bw4)
 clear bw4 sw4 r0 r1 hW4 e4 q0 q1 q2 q3 hD4
 go_upto_region 9 with (first
  | (have h99 := HR05.out; clear h99; refine wpList_load_cz rfl (.tmp 3) rfl D (by rfl) (cfZ C.n C.me C.id C.dl C.wi C.g C.o C.br C.wk C.ro) rfl (HKZ.out _ HR05.out) ?_)
  | (refine wpList_load_cz rfl (.tmp 3) rfl D (by rfl) (cfZ C.n C.me C.id C.dl C.wi C.g C.o C.br C.wk C.ro) rfl (HKZ.out _ HR0.out) ?_)
  | (go_at_call 38; (with_reducible refine (HNW.out _ (by rw [HD.out]; exact HBW4.out) HD4.out HRO4.out HRB4.out).mono ?_); rintro e w5 ⟨P, rfl, eC, hpf, hx, hs⟩; have HC := qh eC; have HPF := qh hpf; have HX5 := qh hx; have HR05 := qh ((hs D (by omega)).trans HR0.out); have r15 := (hs (D + 1) (by omega)).trans HR1.out; have HRO5 : Hid (RO w5 w5.heap.size A (os.take 66)) := (HRO9.out _ hx.be); clear eC hpf hx hs p0 p1; have p0 : w5.cell? ⟨D + 1, 0, none⟩ = some (.string (cutT t)) := by { rw [cell_of_row _ _ _ _ _ _ r15]; rfl }; have p1 : w5.cell? ⟨D + 1, 1, none⟩ = some (.slice A L cap) := by { rw [cell_of_row _ _ _ _ _ _ r15]; rfl }; clear r15)
  | (go_at_call 39; (with_reducible refine (HMA.out _ HRO5.out).mono ?_); rintro e w6 ⟨rfl, b6⟩; have HX6 := qh (HX5.out.belows b6); have HR06 := qh ((b6.block D (by have := HX5.out.ob D ⟨by omega, by omega⟩; omega)).trans HR05.out); clear b6)
  | (go_at_call 46; (with_reducible refine (pconf_any HPF.out HX6.out (m := _) (by rw [HC.out]; exact HOK.out) HFR.out).mono ?_); rintro e w7 ⟨v7, rfl, -, b7⟩; have HX7 := qh (HX6.out.belows b7); have HR07 := qh ((b7.block D (by have := HX6.out.ob D ⟨by omega, by omega⟩; omega)).trans HR06.out); clear b7))
 have HX8 := qh (HX7.out.belows (bR _ _).drew)
 have HR08 : Hid (w7.drew.heap[D]? = some (cfO C.n C.me C.id C.dl C.wi C.g C.o C.br C.wk C.ro)) := HR07.out
 have HK3 : Hid (∀ (W : World), W.heap[D]? = some (cfO C.n C.me C.id C.dl C.wi C.g C.o C.br C.wk C.ro) → W.cell? ⟨D, 3, none⟩ = some (.int .i64 (C.dl : Int))) := fun W h => by { have := HKZ.out W h 3 _ rfl; rw [Nat.zero_add] at this; exact this }
 refine wp_region_held_drew (S := (fun w' => w'.cell? ⟨D, 3, none⟩ = some (.int .i64 (C.dl : Int)))) (by kernel_rfl) (HK3.out _ HR08.out) (fun hHeld => ?_)
 refine htk (i := 0) (v := ?_) rfl (by kernel_rfl) (fun _ _ _ h => h) (by rfl) hHeld ?_ ?_
 rotate_left 1
 · (intro w hSw; (try dsimp only at hSw); go_simp; try (with_reducible rfl))
 try simp only [Act.put, nB, nC, nD]
 refine htk (i := 1) (v := ?_) rfl (by kernel_rfl) (fun _ _ _ h => h) (by rfl) hHeld ?_ ?_
 rotate_left 1
 · (intro w hSw; (try dsimp only at hSw); go_simp; try (with_reducible rfl))
 try simp only [Act.put, nB, nC, nD]
 refine htk (i := 2) (v := ?_) rfl (by kernel_rfl) (fun _ _ _ h => h) (by rfl) hHeld ?_ ?_
 rotate_left 1
 · (intro w hSw; (try dsimp only at hSw); go_simp; try (with_reducible rfl))
 try simp only [Act.put, nB, nC, nD]
 refine htk (i := 3) (v := ?_) rfl (by kernel_rfl) (fun _ _ _ h => h) (by rfl) hHeld ?_ ?_
 rotate_left 1
 · (intro w hSw; (try dsimp only at hSw); go_simp; try (with_reducible rfl))
 try simp only [Act.put, nB, nC, nD]
 refine htk (i := 4) (v := ?_) rfl (by kernel_rfl) (fun _ _ _ h => h) (by rfl) hHeld ?_ ?_
 rotate_left 1
 · (intro w hSw; (try dsimp only at hSw); go_simp; try (with_reducible rfl))
 try simp only [Act.put, nB, nC, nD]
 refine htk (i := 5) (v := ?_) rfl (by kernel_rfl) (fun _ _ _ h => h) (by rfl) hHeld ?_ ?_
 rotate_left 1
 · (intro w hSw; (try dsimp only at hSw); go_simp; try (with_reducible rfl))
 try simp only [Act.put, nB, nC, nD]
 refine htk (i := 6) (v := ?_) rfl (by kernel_rfl) (fun _ _ _ h => h) (by rfl) hHeld ?_ ?_
 rotate_left 1
 · (intro w hSw; (try dsimp only at hSw); go_simp; try (with_reducible rfl))
 try simp only [Act.put, nB, nC, nD]
 refine htk (i := 7) (v := ?_) rfl (by kernel_rfl) (fun _ _ _ h => h) (by rfl) hHeld ?_ ?_
 rotate_left 1
 · (intro w hSw; (try dsimp only at hSw); go_simp; try (with_reducible rfl))
 try simp only [Act.put, nB, nC, nD]
 refine htk (i := 8) (v := ?_) rfl (by kernel_rfl) (fun _ _ _ h => h) (by rfl) hHeld ?_ ?_
 rotate_left 1
 · (intro w hSw; (try dsimp only at hSw); go_simp; try (with_reducible rfl))
 try simp only [Act.put, nB, nC, nD]
 refine htk (i := 9) (v := ?_) rfl (by kernel_rfl) (fun _ _ _ h => h) (by rfl) hHeld ?_ ?_
 rotate_left 1
 · (intro w hSw; (try dsimp only at hSw); go_simp; try (with_reducible rfl))
 try simp only [Act.put, nB, nC, nD]
 refine htk (i := 12) (v := ?_) rfl (by kernel_rfl) (fun _ _ _ h => h) (by rfl) hHeld ?_ ?_
 rotate_left 1
 · (intro w hSw; (try dsimp only at hSw); go_simp; try (with_reducible rfl))
 try simp only [Act.put, nB, nC, nD]
 refine htk (i := 13) (v := ?_) rfl (by kernel_rfl) (fun _ _ _ h => h) (by rfl) hHeld ?_ ?_
 rotate_left 1
 · (intro w hSw; (try dsimp only at hSw); go_simp; try (with_reducible rfl))
 try simp only [Act.put, nB, nC, nD]
 refine held_one (i := 10) rfl (by kernel_rfl) (by rfl) (fun K hK => ?_)
 go_simp
 (with_reducible refine (plain_core _ P.x P.c HX8.out.core).mono ?_)
 rintro e w8 ⟨rfl, rfl⟩
 refine hK.out _ _ (HK3.out _ HR08.out) (fun hHeld2 => ?_)
 clear hK K hHeld; have hHeld := hHeld2; clear hHeld2
 try simp only [Act.put, nB, nC, nD]
 refine held_one (i := 11) rfl (by kernel_rfl) (by rfl) (fun K hK => ?_)
 go_simp
 (refine (at_head HPF.out.f HX8.out.at_ (m := _) (by rw [HC.out]; exact HOK.out) C.dl (by rw [HC.out]; exact HHD.out)).mono ?_)
 rintro e w9 ⟨rfl, b9⟩
 have HX9 := qh (HX8.out.belows b9)
 have HR09 := qh ((b9.block D (by have := HX8.out.ob D ⟨by omega, by omega⟩; exact this.2)).trans HR08.out)
 clear b9
 refine hK.out _ _ (HK3.out _ HR09.out) (fun hHeld2 => ?_)
 clear hK K hHeld; have hHeld := hHeld2; clear hHeld2
 try simp only [Act.put, nB, nC, nD]
 refine htk (i := 14) (v := ?_) rfl (by kernel_rfl) (fun _ _ _ h => h) (by rfl) hHeld ?_ ?_
 rotate_left 1
 · (intro w hSw; (try dsimp only at hSw); go_simp; try (with_reducible rfl))
 try simp only [Act.put, nB, nC, nD]
 refine htk (i := 15) (v := ?_) rfl (by kernel_rfl) (fun _ _ _ h => h) (by rfl) hHeld ?_ ?_
 rotate_left 1
 · (intro w hSw; (try dsimp only at hSw); go_simp; try (with_reducible rfl))
 try simp only [Act.put, nB, nC, nD]
 refine htk (i := 16) (v := ?_) rfl (by kernel_rfl) (fun _ _ _ h => h) (by rfl) hHeld ?_ ?_
 rotate_left 1
 · (intro w hSw; (try dsimp only at hSw); go_simp; try (with_reducible rfl))
 try simp only [Act.put, nB, nC, nD]
 refine htk (i := 17) (v := ?_) rfl (by kernel_rfl) (fun _ _ _ h => h) (by rfl) hHeld ?_ ?_
 rotate_left 1
 · (intro w hSw; (try dsimp only at hSw); go_simp; try (with_reducible rfl))
 try simp only [Act.put, nB, nC, nD]
 refine htk (i := 20) (v := ?_) rfl (by kernel_rfl) (fun _ _ _ h => h) (by rfl) hHeld ?_ ?_
 rotate_left 1
 · (intro w hSw; (try dsimp only at hSw); go_simp; try (with_reducible rfl))
 try simp only [Act.put, nB, nC, nD]
 refine htk (i := 21) (v := ?_) rfl (by kernel_rfl) (fun _ _ _ h => h) (by rfl) hHeld ?_ ?_
 rotate_left 1
 · (intro w hSw; (try dsimp only at hSw); go_simp; try (with_reducible rfl))
 try simp only [Act.put, nB, nC, nD]
 refine held_one (i := 18) rfl (by kernel_rfl) (by rfl) (fun K hK => ?_)
 go_simp
 (with_reducible refine (plain_core _ P.x P.c HX9.out.core).mono ?_)
 rintro e w10 ⟨rfl, rfl⟩
 refine hK.out _ _ (HK3.out _ HR09.out) (fun hHeld2 => ?_)
 clear hK K hHeld; have hHeld := hHeld2; clear hHeld2
 try simp only [Act.put, nB, nC, nD]
 refine held_one (i := 19) rfl (by kernel_rfl) (by rfl) (fun K hK => ?_)
 go_simp
 (with_reducible refine (at_marks HX9.out.at_ C.dl HSM.out).mono ?_)
 rintro e w11 ⟨rfl, rfl⟩
 refine hK.out _ _ (HK3.out _ HR09.out) (fun hHeld2 => ?_)
 clear hK K hHeld; have hHeld := hHeld2; clear hHeld2
 try simp only [Act.put, nB, nC, nD]
 refine htk (i := 22) (v := ?_) rfl (by kernel_rfl) (fun _ _ _ h => h) (by rfl) hHeld ?_ ?_
 rotate_left 1
 · (intro w hSw; (try dsimp only at hSw); go_simp; try (with_reducible rfl))
 try simp only [Act.put, nB, nC, nD]
 refine htk (i := 23) (v := ?_) rfl (by kernel_rfl) (fun _ _ _ h => h) (by rfl) hHeld ?_ ?_
 rotate_left 1
 · (intro w hSw; (try dsimp only at hSw); go_simp; try (with_reducible rfl))
 try simp only [Act.put, nB, nC, nD]
 refine htk (i := 24) (v := ?_) rfl (by kernel_rfl) (fun _ _ _ h => h) (by rfl) hHeld ?_ ?_
 rotate_left 1
 · (intro w hSw; (try dsimp only at hSw); go_simp; try (with_reducible rfl))
 try simp only [Act.put, nB, nC, nD]
 refine wpAnyH_done (by kernel_rfl) ?_ _
 clear hHeld
 go_wp2
 go_ret
 exact ⟨rfl, HX9.out.be⟩
theorem may22_law (n me id dl wi gk o br wk ro : Int) (t : ByteArray) (A : Option Addr) (os : List O4) (cap : Nat) (TA : Option Addr) (tb : List UInt8) (tc : Nat) (w : World) (hT : TabW w) (hro : RO w w.heap.size A os) (hcap : os.length ≤ cap) (hcm : cap ≤ maxLen) (hrb : RB w w.heap.size TA tb) (htc : tb.length ≤ tc) (htm : tc ≤ maxLen) :
 Calls Tryz.prog 8 #[cfV n me id dl wi gk o br wk ro, .agg #[.string t, .slice A os.length cap], .slice TA tb.length tc] w fun e w' => e = .returned (.bool true) ∧ Below w.heap.size w w' := by
 by_cases h : MayC n me id dl wi gk o br wk ro ∧ faultN (titB (cutT t)) (os.take 66) = -1 ∧ mayB gk o (tb.take 30).length = true
 · obtain ⟨h1, h2, h3⟩ := h
   obtain ⟨C, hm, e⟩ := cf_of h1
   have e2 := e
   unfold Cf.v cfV at e2
   injection e2 with e2
   have eg : C.g = gk := by have := congrArg (·[5]?) e2; simpa using this
   have eo : C.o = o := by have := congrArg (·[6]?) e2; simpa using this
   rw [← e]
   exact may22_yes C hm t A os cap TA tb tc w hT hro hcap hcm hrb htc htm h2 (by rw [eg, eo]; exact h3)
 · exact may22_no n me id dl wi gk o br wk ro t A os cap TA tb tc w hT hro hcap hcm hrb htc htm h
end Go.Proofs.YtpnobpligchpiaaGreatDoor
