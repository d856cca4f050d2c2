/- texts of YpPc -/
import Derived.Lib.SliceRun
import Derived.Test.YtpnobpligchpiaaGreatDoorYpCh
import Derived.Test.YtpnobpligchpiaaGreatDoorYpK
import Derived.Test.YtpnobpligchpiaaGreatDoorYpPb
namespace Go.Proofs.YtpnobpligchpiaaGreatDoor
set_option maxRecDepth 100000
open Go.RowKit
set_option linter.unusedVariables false
set_option linter.unusedSimpArgs false
theorem clone_bnone (w : World) (n c : Nat) : Calls Tryz.prog 97 #[.slice none n c] w fun e w' => e = .returned (.slice none 0 0) ∧ w = w' := by
 have hne : ∀ (n c : Nat) (W : World), (binOp .eql 33 (.slice none n c) (.slice none 0 0)).run Tryz.prog W = .ok (.bool true) W := fun n c W => Lib.run_eql_slice_nil W _ _ _ _ _ _ _ Tryz.underlying33
 go_enter Tryz.func97, Tryz.ntmps97
 go_wp2
 go_ret
 exact ⟨rfl, rfl⟩
theorem clone_tab (w : World) (TA : Option Addr) (tb : List UInt8) (X tc B : Nat) (h : RB w B TA tb) (hX : tb.length = X) (hB : B ≤ w.heap.size) (h9 : X ≤ 1000) : Calls Tryz.prog 97 #[.slice TA X tc] w fun e w' => ∃ v, e = .returned v ∧ OB w' w.heap.size v tb ∧ Below w.heap.size w w' := by
 cases TA with
 | none =>
   have e : tb = [] := by
    cases tb with
    | nil => rfl
    | cons a r => obtain ⟨b, off, e, -⟩ := h (by simp); cases e
   subst e
   exact (clone_bnone w X tc).mono fun e w' ⟨he, hw⟩ => ⟨_, he, OB.nil _ _, by rw [← hw]; exact bR _ _⟩
 | some a => exact clone_b w a X tc B tb h hX hB h9
set_option maxHeartbeats 4000000 in
theorem pnew_no (n me id dl wi gk o br wk ro : Int) (T : ByteArray) (A : Option Addr) (os : List O4) (L cap : Nat) (TA : Option Addr) (tb : List UInt8) (X tc : Nat) (w : World) (hL : os.length = L) (hX : tb.length = X) (hro : RO w w.heap.size A os) (hcap : L ≤ cap) (hcm : cap ≤ maxLen) (htz : T.size ≤ 1000000) (hrb : RB w w.heap.size TA tb) (htc : X ≤ tc) (htm : tc ≤ maxLen) (hno : ¬ (MayC n me id dl wi gk o br wk ro ∧ faultN (titB T) os = -1 ∧ mayB gk o X = true)) :
 Calls Tryz.prog 38 #[cfV n me id dl wi gk o br wk ro, .agg #[.string T, .slice A L cap], .slice TA X tc] w fun e w' => e = .returned (.tuple #[.pointer none, .int .i64 1]) ∧ Below w.heap.size w w' := by
 obtain ⟨D, hD⟩ : ∃ D, w.heap.size = D := ⟨_, rfl⟩
 obtain ⟨W2, hW2⟩ : ∃ W2, W2 = (w.alloc (cfO n me id dl wi gk o br wk ro)).alloc (.cells #[.string T, .slice A L cap] 61) := ⟨_, rfl⟩
 have s2 : W2.heap.size = D + 2 := by rw [hW2, World.size_alloc, World.size_alloc, hD]
 have b2 : Below D w W2 := by rw [hW2, ← hD]; exact ((bR _ _).alloc (nl _) _).alloc (by simp) _
 obtain ⟨W3, hW3⟩ : ∃ W3, W3 = W2.alloc (.cells #[.int .i64 gk, .int .i64 o, .slice TA X tc] 146) := ⟨_, rfl⟩
 have s3 : W3.heap.size = D + 3 := by rw [hW3, World.size_alloc, s2]
 have b3 : Below D w W3 := by rw [hW3]; exact b2.alloc (by omega) _
 have k0 : W2.rangeAt D 0 (cfZ n me id dl wi gk o br wk ro) := by
  have h9 : W2.heap[D]? = some (cfO n me id dl wi gk o br wk ro) := by
   rw [hW2, ← hD]; exact (Below.heap_alloc _ _ _ (by simp)).trans (heap_alloc_new w _)
  exact cz_range h9
 have k1 : W2.heap[D + 1]? = some (.cells #[.string T, .slice A L cap] 61 (0, 0)) := by
  have h9 := heap_alloc_new (w.alloc (cfO n me id dl wi gk o br wk ro)) (.cells #[.string T, .slice A L cap] 61 (0, 0))
  rw [World.size_alloc, hD] at h9
  rw [hW2]; exact h9
 have k2 : W3.heap[D + 2]? = some (.cells #[.int .i64 gk, .int .i64 o, .slice TA X tc] 146 (0, 0)) := by
  have h9 := heap_alloc_new W2 (.cells #[.int .i64 gk, .int .i64 o, .slice TA X tc] 146 (0, 0))
  rw [s2] at h9
  rw [hW3]; exact h9
 have HK0 : Hid (∀ W, Below W3.heap.size W3 W → W.rangeAt D 0 (cfZ n me id dl wi gk o br wk ro)) := fun W hW => cz_below (cz_below k0 (by rw [hW3]; exact (bR _ _).alloc (nl _) _) (by omega)) hW (by omega)
 have HK1 : Hid (∀ W, Below W3.heap.size W3 W → W.heap[D + 1]? = some (.cells #[.string T, .slice A L cap] 61 (0, 0))) := fun W hW => (hW.block _ (by omega)).trans (by rw [hW3]; exact (Below.heap_alloc _ _ _ (by omega)).trans k1)
 have HK2 : Hid (∀ W, Below W3.heap.size W3 W → W.heap[D + 2]? = some (.cells #[.int .i64 gk, .int .i64 o, .slice TA X tc] 146 (0, 0))) := fun W hW => (hW.block _ (by omega)).trans k2
 have HC0 : Hid (∀ W, Below W3.heap.size W3 W → W.cell? ⟨D + 1, 0, none⟩ = some (.string T) ∧ W.cell? ⟨D + 1, 1, none⟩ = some (.slice A L cap) ∧ W.cell? ⟨D + 2, 0, none⟩ = some (.int .i64 gk) ∧ W.cell? ⟨D + 2, 1, none⟩ = some (.int .i64 o) ∧ W.cell? ⟨D + 2, 2, none⟩ = some (.slice TA X tc)) := fun W hW => by
  have h1 := HK1.out W hW; have h2 := HK2.out W hW
  refine ⟨?_, ?_, ?_, ?_, ?_⟩
  · rw [cell_of_row _ _ _ _ _ _ h1]; rfl
  · rw [cell_of_row _ _ _ _ _ _ h1]; rfl
  · rw [cell_of_row _ _ _ _ _ _ h2]; rfl
  · rw [cell_of_row _ _ _ _ _ _ h2]; rfl
  · rw [cell_of_row _ _ _ _ _ _ h2]; rfl
 have c5 : W2.cell? ⟨D, 5, none⟩ = some (.int .i64 gk) := by have := k0 5 _ rfl; rw [Nat.zero_add] at this; exact this
 have c6 : W2.cell? ⟨D, 6, none⟩ = some (.int .i64 o) := by have := k0 6 _ rfl; rw [Nat.zero_add] at this; exact this
 have HM2 : Hid (∀ W (b : Bool), Below W3.heap.size W3 W → (faultN (titB T) os == -1) = b → Calls Tryz.prog 94 #[.agg #[.string T, .slice A L cap]] W fun e w' => e = .returned (.bool b) ∧ Below W.heap.size W w') := fun W b hW hb => by
  have := emay_any T A os cap w.heap.size W (hro.below (by rw [hD]; exact b3.trans (hW.mono (by omega)))) (by have := hW.size; omega) (by rw [hL]; exact hcap) hcm (by omega)
  rw [hb, hL] at this
  exact this
 have HM3 : Hid (∀ W (b : Bool), mayB gk o X = b → Calls Tryz.prog 95 #[.agg #[.int .i64 gk, .int .i64 o, .slice TA X tc]] W fun e w' => e = .returned (.bool b) ∧ Below W.heap.size W w') := fun W b hb => by
  have := pmay_any gk o TA X tc W (by omega)
  rw [hb] at this
  exact this
 have HZ2 := qh s2; have HZ3 := qh s3; have HB3 := qh b3; have HW2 := qh hW2; have HW3 := qh hW3; have HD := qh hD
 have HR33 : Hid (Below W3.heap.size W3 W3) := bR _ _
 by_cases h1 : MayC n me id dl wi gk o br wk ro
 · have HM1 := qh (fun W => core_may n me id dl wi gk o br wk ro true ⟨fun _ => h1, fun _ => rfl⟩ W)
   by_cases h2 : faultN (titB T) os = -1
   · have h3 : mayB gk o X = false := by
      cases e : mayB gk o X with
      | false => rfl
      | true => exact absurd ⟨h1, h2, e⟩ hno
     have HF2 : Hid ((faultN (titB T) os == -1) = true) := by show _ = _; simp [h2]
     have HF3 := qh h3
     clear hno h1 h2 h3 hro hrb hcap hcm htc htm htz hL hX s2 s3 b2 b3 hW2 hW3 k0 k1 k2 hD HK1 HK2
     go_enter Tryz.func38, Tryz.ntmps38
     go_upto_region 1 with fail
     rw [← HW2.out]
     try rw [HD.out]
     go_upto_region 2 with fail
     rw [← HW3.out]
     try rw [HZ2.out]
     go_wp2_with (first
    | (refine wpList_load_cz rfl (.tmp 3) rfl D (by rfl) (cfZ n me id dl wi gk o br wk ro) rfl (HK0.out _ HR33.out) ?_)
    | (go_at_call 13; (with_reducible refine (HM1.out _).mono ?_); rintro e w4 ⟨rfl, b4⟩; have HB4 := qh b4; have hc4 := HC0.out _ b4; obtain ⟨q0, q1, q2, q3, q4⟩ := hc4; clear b4)
    | (go_at_call 94; (with_reducible refine (HM2.out _ _ HB4.out HF2.out).mono ?_); rintro e w5 ⟨rfl, b5⟩; have HB5 := qh (HB4.out.trans (b5.mono HB4.out.size)); clear b5 q0 q1 q2 q3 q4; have hc5 := HC0.out _ HB5.out; obtain ⟨q0, q1, q2, q3, q4⟩ := hc5)
    | (go_at_call 95; (with_reducible refine (HM3.out _ _ HF3.out).mono ?_); rintro e w6 ⟨rfl, b6⟩; have HB6 := qh (HB5.out.trans (b6.mono HB5.out.size)); clear b6 q0 q1 q2 q3 q4))
     go_ret2
     exact ⟨rfl, by rw [HD.out]; exact HB3.out.trans (HB6.out.mono (by have := HZ3.out; omega))⟩
   · have HF2 : Hid ((faultN (titB T) os == -1) = false) := by show _ = _; simp [h2]
     clear hno h1 h2 hro hrb hcap hcm htc htm htz hL hX s2 s3 b2 b3 hW2 hW3 k0 k1 k2 hD HK1 HK2
     go_enter Tryz.func38, Tryz.ntmps38
     go_upto_region 1 with fail
     rw [← HW2.out]
     try rw [HD.out]
     go_upto_region 2 with fail
     rw [← HW3.out]
     try rw [HZ2.out]
     go_wp2_with (first
    | (refine wpList_load_cz rfl (.tmp 3) rfl D (by rfl) (cfZ n me id dl wi gk o br wk ro) rfl (HK0.out _ HR33.out) ?_)
    | (go_at_call 13; (with_reducible refine (HM1.out _).mono ?_); rintro e w4 ⟨rfl, b4⟩; have HB4 := qh b4; have hc4 := HC0.out _ b4; obtain ⟨q0, q1, q2, q3, q4⟩ := hc4; clear b4)
    | (go_at_call 94; (with_reducible refine (HM2.out _ _ HB4.out HF2.out).mono ?_); rintro e w5 ⟨rfl, b5⟩; have HB5 := qh (HB4.out.trans (b5.mono HB4.out.size)); clear b5 q0 q1 q2 q3 q4; have hc5 := HC0.out _ HB5.out; obtain ⟨q0, q1, q2, q3, q4⟩ := hc5))
     go_ret2
     exact ⟨rfl, by rw [HD.out]; exact HB3.out.trans (HB5.out.mono (by have := HZ3.out; omega))⟩
 · have HM1 := qh (fun W => core_may n me id dl wi gk o br wk ro false ⟨fun e => (by cases e), fun e => absurd e h1⟩ W)
   clear hno h1 hro hrb hcap hcm htc htm htz hL hX s2 s3 b2 b3 hW2 hW3 k0 k1 k2 hD HK1 HK2
   go_enter Tryz.func38, Tryz.ntmps38
   go_upto_region 1 with fail
   rw [← HW2.out]
   try rw [HD.out]
   go_upto_region 2 with fail
   rw [← HW3.out]
   try rw [HZ2.out]
   go_wp2_with (first
    | (refine wpList_load_cz rfl (.tmp 3) rfl D (by rfl) (cfZ n me id dl wi gk o br wk ro) rfl (HK0.out _ HR33.out) ?_)
    | (go_at_call 13; (with_reducible refine (HM1.out _).mono ?_); rintro e w4 ⟨rfl, b4⟩; have HB4 := qh b4; have hc4 := HC0.out _ b4; obtain ⟨q0, q1, q2, q3, q4⟩ := hc4; clear b4))
   go_ret2
   exact ⟨rfl, by rw [HD.out]; exact HB3.out.trans (HB4.out.mono (by have := HZ3.out; omega))⟩
theorem ops_less {w : World} {base b' : Nat} {v : Value} {os : List O4} (h : OO w base v os) (hb : b' ≤ base) : OO w b' v os := by
 refine ⟨h.1, ?_⟩
 rcases h.2 with h0 | ⟨g, cap, cur, hv, hg, h2⟩
 · exact .inl h0
 · exact .inr ⟨g, cap, cur, hv, by omega, h2⟩
theorem at_new2 {w0 w : World} {O : Nat → Prop} (h0 : Below w0.heap.size w0 w) (ho : ∀ k, O k → w0.heap.size ≤ k ∧ k < w.heap.size) (C : Cf) (hm : C.may) :
 Calls Tryz.prog 12 #[C.v] w fun e w' => ∃ c q, e = .returned (.tuple #[pB c, .int .i64 0]) ∧ At w0 w' C c q (newP C) O ∧ Below w.heap.size w w' :=
 (core_new w0 w h0 C hm).mono fun e w' ⟨K, he, h1, h2, h3, h4, h5⟩ => ⟨K.c, K.q, he, ⟨K, h1, rfl, rfl, h2, h3, fun k hk => ⟨(ho k hk).1, Nat.lt_of_lt_of_le (ho k hk).2 h4.size, fun e => by have := h5 k e; have := (ho k hk).2; omega⟩⟩, h4⟩
abbrev plO (c : Nat) (T : ByteArray) (ov : Value) (z o : Int) (tv : Value) : Obj := .cells #[pB c, .string T, ov, .int .i64 z, .int .i64 o, tv, .int .i32 0, .int .i32 0, .int .i32 0, .int .i32 0, .int .i32 0, .int .i32 0, .int .i32 0, .int .i32 0, .int .i32 0, .int .i32 0, .int .i32 0, .int .i32 0, .int .i32 0, .int .i32 0, .int .i32 0, .int .i32 0, .int .i32 0, .int .i32 0, .int .i32 0, .int .i32 0, .int .i32 0, .int .i32 0, .int .i32 0, .int .i32 0, .int .i32 0, .int .i32 0, .int .i32 0, .int .i32 0, .int .i32 0, .int .i32 0, .int .i32 0, .int .i32 0, .int .i64 0] 154 (0, 0)
theorem plO_row (w : World) (c : Nat) (T : ByteArray) (ov : Value) (z o : Int) (tv : Value) : PlR (w.alloc (plO c T ov z o tv)) w.heap.size 154 39 c T ov z o tv (zG 32) 0 := by
 refine ⟨World.rowIs_alloc w _ _ _ (fun i hi => ?_), zG_length 32⟩
 have hi2 : i < 39 := hi
 match i, hi2 with
 | 0, _ => rfl
 | 1, _ => rfl
 | 2, _ => rfl
 | 3, _ => rfl
 | 4, _ => rfl
 | 5, _ => rfl
 | 6, _ => rfl
 | 7, _ => rfl
 | 8, _ => rfl
 | 9, _ => rfl
 | 10, _ => rfl
 | 11, _ => rfl
 | 12, _ => rfl
 | 13, _ => rfl
 | 14, _ => rfl
 | 15, _ => rfl
 | 16, _ => rfl
 | 17, _ => rfl
 | 18, _ => rfl
 | 19, _ => rfl
 | 20, _ => rfl
 | 21, _ => rfl
 | 22, _ => rfl
 | 23, _ => rfl
 | 24, _ => rfl
 | 25, _ => rfl
 | 26, _ => rfl
 | 27, _ => rfl
 | 28, _ => rfl
 | 29, _ => rfl
 | 30, _ => rfl
 | 31, _ => rfl
 | 32, _ => rfl
 | 33, _ => rfl
 | 34, _ => rfl
 | 35, _ => rfl
 | 36, _ => rfl
 | 37, _ => rfl
 | 38, _ => rfl
 | k + 39, h => omega
theorem fault_len {tb : Bool} {os : List O4} (h : faultN tb os = -1) : 1 ≤ os.length ∧ os.length ≤ 64 := by
 obtain ⟨-, h1, h2, -⟩ := (fitsB_iff tb os).1 (may_all h).1
 exact ⟨h1, h2⟩
set_option maxHeartbeats 8000000 in
theorem pnew_yes (w0 : World) (O : Nat → Prop) (hTW : TabW w0) (C : Cf) (hmy : C.may) (T : ByteArray) (A : Option Addr) (os : List O4) (L cap : Nat) (TA : Option Addr) (tb : List UInt8) (X tc : Nat) (w : World) (hL : os.length = L) (hX : tb.length = X) (hro : RO w w.heap.size A os) (hcap : L ≤ cap) (hcm : cap ≤ maxLen) (htz : T.size ≤ 1000000) (hrb : RB w w.heap.size TA tb) (htc : X ≤ tc) (htm : tc ≤ maxLen) (h0 : Below w0.heap.size w0 w) (ho : ∀ k, O k → w0.heap.size ≤ k ∧ k < w.heap.size) (hf : faultN (titB T) os = -1) (hmb : mayB C.g C.o X = true) (s : Pl) (g : List Int) (hpl : playsP C T os (newP C) (zG 32) = (s, g)) :
 Calls Tryz.prog 38 #[C.v, .agg #[.string T, .slice A L cap], .slice TA X tc] w fun e w' => ∃ P : Pc, e = .returned (.tuple #[pB P.x, .int .i64 0]) ∧ P.C = C ∧ P.T = T ∧ P.os = os ∧ P.tb = tb ∧ PFit P ∧ PX w0 w' P s g (frontP (newP C).L) O ∧ Same O w w' := by
 obtain ⟨D, hD⟩ : ∃ D, w.heap.size = D := ⟨_, rfl⟩
 obtain ⟨W2, hW2⟩ : ∃ W2, W2 = (w.alloc (cfO C.n C.me C.id C.dl C.wi C.g C.o C.br C.wk C.ro)).alloc (.cells #[.string T, .slice A L cap] 61) := ⟨_, rfl⟩
 have s2 : W2.heap.size = D + 2 := by rw [hW2, World.size_alloc, World.size_alloc, hD]
 have b2 : Below D w W2 := by rw [hW2, ← hD]; exact ((bR _ _).alloc (nl _) _).alloc (by simp) _
 obtain ⟨W3, hW3⟩ : ∃ W3, W3 = W2.alloc (.cells #[.int .i64 C.g, .int .i64 C.o, .slice TA X tc] 146) := ⟨_, rfl⟩
 have s3 : W3.heap.size = D + 3 := by rw [hW3, World.size_alloc, s2]
 have b3 : Below D w W3 := by rw [hW3]; exact b2.alloc (by omega) _
 have k0 : W2.rangeAt D 0 (cfZ C.n C.me C.id C.dl C.wi C.g C.o C.br C.wk C.ro) := by
  have h9 : W2.heap[D]? = some (cfO C.n C.me C.id C.dl C.wi C.g C.o C.br C.wk C.ro) := by
   rw [hW2, ← hD]; exact (Below.heap_alloc _ _ _ (by simp)).trans (heap_alloc_new w _)
  exact cz_range h9
 have k1 : W2.heap[D + 1]? = some (.cells #[.string T, .slice A L cap] 61 (0, 0)) := by
  have h9 := heap_alloc_new (w.alloc (cfO C.n C.me C.id C.dl C.wi C.g C.o C.br C.wk C.ro)) (.cells #[.string T, .slice A L cap] 61 (0, 0))
  rw [World.size_alloc, hD] at h9
  rw [hW2]; exact h9
 have k2 : W3.heap[D + 2]? = some (.cells #[.int .i64 C.g, .int .i64 C.o, .slice TA X tc] 146 (0, 0)) := by
  have h9 := heap_alloc_new W2 (.cells #[.int .i64 C.g, .int .i64 C.o, .slice TA X tc] 146 (0, 0))
  rw [s2] at h9
  rw [hW3]; exact h9
 have HK0 : Hid (∀ W, Below W3.heap.size W3 W → W.rangeAt D 0 (cfZ C.n C.me C.id C.dl C.wi C.g C.o C.br C.wk C.ro)) := fun W hW => cz_below (cz_below k0 (by rw [hW3]; exact (bR _ _).alloc (nl _) _) (by omega)) hW (by omega)
 have HK1 : Hid (∀ W, Below W3.heap.size W3 W → W.heap[D + 1]? = some (.cells #[.string T, .slice A L cap] 61 (0, 0))) := fun W hW => (hW.block _ (by omega)).trans (by rw [hW3]; exact (Below.heap_alloc _ _ _ (by omega)).trans k1)
 have HK2 : Hid (∀ W, Below W3.heap.size W3 W → W.heap[D + 2]? = some (.cells #[.int .i64 C.g, .int .i64 C.o, .slice TA X tc] 146 (0, 0))) := fun W hW => (hW.block _ (by omega)).trans k2
 have HC0 : Hid (∀ W, Below W3.heap.size W3 W → W.cell? ⟨D + 1, 0, none⟩ = some (.string T) ∧ W.cell? ⟨D + 1, 1, none⟩ = some (.slice A L cap) ∧ W.cell? ⟨D + 2, 0, none⟩ = some (.int .i64 C.g) ∧ W.cell? ⟨D + 2, 1, none⟩ = some (.int .i64 C.o) ∧ W.cell? ⟨D + 2, 2, none⟩ = some (.slice TA X tc)) := fun W hW => by
  have h1 := HK1.out W hW; have h2 := HK2.out W hW
  refine ⟨?_, ?_, ?_, ?_, ?_⟩
  · rw [cell_of_row _ _ _ _ _ _ h1]; rfl
  · rw [cell_of_row _ _ _ _ _ _ h1]; rfl
  · rw [cell_of_row _ _ _ _ _ _ h2]; rfl
  · rw [cell_of_row _ _ _ _ _ _ h2]; rfl
  · rw [cell_of_row _ _ _ _ _ _ h2]; rfl
 have c5 : W2.cell? ⟨D, 5, none⟩ = some (.int .i64 C.g) := by have := k0 5 _ rfl; rw [Nat.zero_add] at this; exact this
 have c6 : W2.cell? ⟨D, 6, none⟩ = some (.int .i64 C.o) := by have := k0 6 _ rfl; rw [Nat.zero_add] at this; exact this
 have HM2 : Hid (∀ W (b : Bool), Below W3.heap.size W3 W → (faultN (titB T) os == -1) = b → Calls Tryz.prog 94 #[.agg #[.string T, .slice A L cap]] W fun e w' => e = .returned (.bool b) ∧ Below W.heap.size W w') := fun W b hW hb => by
  have := emay_any T A os cap w.heap.size W (hro.below (by rw [hD]; exact b3.trans (hW.mono (by omega)))) (by have := hW.size; omega) (by rw [hL]; exact hcap) hcm (by omega)
  rw [hb, hL] at this
  exact this
 have HM3 : Hid (∀ W (b : Bool), mayB C.g C.o X = b → Calls Tryz.prog 95 #[.agg #[.int .i64 C.g, .int .i64 C.o, .slice TA X tc]] W fun e w' => e = .returned (.bool b) ∧ Below W.heap.size W w') := fun W b hb => by
  have := pmay_any C.g C.o TA X tc W (by omega)
  rw [hb] at this
  exact this
 have HZ2 := qh s2; have HZ3 := qh s3; have HB3 := qh b3; have HW2 := qh hW2; have HW3 := qh hW3; have HD := qh hD
 have HR33 : Hid (Below W3.heap.size W3 W3) := bR _ _
 have HM1 := qh (fun W => core_may C.n C.me C.id C.dl C.wi C.g C.o C.br C.wk C.ro true ⟨fun _ => hmy, fun _ => rfl⟩ W)
 have HF2 : Hid ((faultN (titB T) os == -1) = true) := by show _ = _; simp [hf]
 have HF3 := qh hmb
 obtain ⟨hl1, hl2⟩ := fault_len hf
 have hX9 : X ≤ 1000 := by
  unfold mayB at hmb
  have := of_decide_eq_true hmb
  omega
 have hos0 : Below w0.heap.size w0 W3 := h0.trans (by rw [← hD] at b3; exact b3.mono h0.size)
 have hw0 : w0.heap.size ≤ D := by rw [← hD]; exact h0.size
 obtain ⟨O1, hO1⟩ : ∃ O1 : Nat → Prop, O1 = fun k => O k ∨ (D ≤ k ∧ k < D + 3) := ⟨_, rfl⟩
 have HNW : Hid (∀ W, Below W3.heap.size W3 W → Calls Tryz.prog 12 #[C.v] W fun e w' => ∃ c q, e = .returned (.tuple #[pB c, .int .i64 0]) ∧ At w0 w' C c q (newP C) O1 ∧ Below W.heap.size W w') := fun W hW => at_new2 (hos0.trans (hW.mono hos0.size)) (fun k hk => by
  rw [hO1] at hk
  have := hW.size
  rcases hk with hk | hk
  · have := ho k hk; omega
  · omega) C hmy
 have HCL : Hid (∀ W, Below W3.heap.size W3 W → Calls Tryz.prog 96 #[.slice A L cap] W fun e w' => ∃ v, e = .returned v ∧ OO w' W.heap.size v os ∧ Below W.heap.size W w') := fun W hW => by
  have := clone_any A os cap w.heap.size W (hro.below (by rw [hD]; exact b3.trans (hW.mono (by omega)))) (by have := hW.size; omega) (by rw [hL]; exact hcap) hl1 hl2
  rw [hL] at this
  exact this
 have HCT : Hid (∀ W, Below D w W → Calls Tryz.prog 97 #[.slice TA X tc] W fun e w' => ∃ v, e = .returned v ∧ OB w' W.heap.size v tb ∧ Below W.heap.size W w') := fun W hW => clone_tab W TA tb X tc w.heap.size (hrb.below (by rw [hD]; exact hW)) hX (by rw [hD]; have := hW.size; omega) hX9
 have HO1 := qh hO1; have HH0 := qh h0; have HHO := qh ho; have HPL := qh hpl; have HTW := qh hTW; have HFT := qh (may_fit hmy); have HHW := qh hw0; have HHS := qh hl2; have HTZ := qh htz; have HXL := qh hX; have HX9 := qh hX9; have HCM := qh hmy; have HLL := qh hL
 unfold Cf.v cfV at HNW
 unfold Cf.v cfV
 clear hmy hf hmb hl1 hl2 hX9 hos0 hO1 h0 ho hpl hTW hro hrb hcap hcm htc htm htz hL hX s2 s3 b2 b3 hW2 hW3 k0 k1 k2 hD hw0
 go_enter Tryz.func38, Tryz.ntmps38
 go_upto_region 1 with fail
 rw [← HW2.out]
 try rw [HD.out]
 go_upto_region 2 with fail
 rw [← HW3.out]
 try rw [HZ2.out]
 go_upto_region 8 with (first
  | (first | (have h99 := HB6.out; clear h99; refine wpList_load_cz rfl (.tmp 3) rfl D (by rfl) (cfZ C.n C.me C.id C.dl C.wi C.g C.o C.br C.wk C.ro) rfl (HK0.out _ HB6.out) ?_) | (refine wpList_load_cz rfl (.tmp 3) rfl D (by rfl) (cfZ C.n C.me C.id C.dl C.wi C.g C.o C.br C.wk C.ro) rfl (HK0.out _ HR33.out) ?_))
  | (go_at_call 13; (with_reducible refine (HM1.out _).mono ?_); rintro e w4 ⟨rfl, b4⟩; have HB4 := qh b4; have hc4 := HC0.out _ b4; obtain ⟨q0, q1, q2, q3, q4⟩ := hc4; clear b4)
  | (go_at_call 94; (with_reducible refine (HM2.out _ _ HB4.out HF2.out).mono ?_); rintro e w5 ⟨rfl, b5⟩; have HB5 := qh (HB4.out.trans (b5.mono HB4.out.size)); clear b5 q0 q1 q2 q3 q4; have hc5 := HC0.out _ HB5.out; obtain ⟨q0, q1, q2, q3, q4⟩ := hc5)
  | (go_at_call 95; (with_reducible refine (HM3.out _ _ HF3.out).mono ?_); rintro e w6 ⟨rfl, b6⟩; have HB6 := qh (HB5.out.trans (b6.mono HB5.out.size)); clear b6 q0 q1 q2 q3 q4)
  | (go_at_call 12; (with_reducible refine (HNW.out _ HB6.out).mono ?_); rintro e w7 ⟨c, q, rfl, a7, b7⟩; have HA7 := qh a7; have HB7 := qh (HB6.out.trans (b7.mono HB6.out.size)); have hc7 := HC0.out _ HB7.out; obtain ⟨q0, q1, q2, q3, q4⟩ := hc7; clear a7 b7)
  | (go_at_call 96; (with_reducible refine (HCL.out _ HB7.out).mono ?_); rintro e w8 ⟨v8, rfl, o8, b8⟩; obtain ⟨A8, c8, rfl⟩ := o8.form_n L HLL.out; have HO8 := qh o8; have HBB8 := qh b8; have HB8 := qh (HB7.out.trans (b8.mono HB7.out.size)); clear o8 b8 q0 q1 q2 q3 q4; obtain ⟨q0, q1, q2, q3, q4⟩ := HC0.out _ HB8.out; have hfz : w8.frozen? ⟨D + 1, 1, none⟩ = false := by { have h1 := HK1.out _ HB8.out; simp [World.frozen?, h1] }))
 obtain ⟨w9, hw9⟩ : ∃ W, W = w8.setCell ⟨D + 1, 1, none⟩ (.slice A8 L c8) := ⟨_, rfl⟩
 rw [← hw9]
 have z9 : w9.heap.size = w8.heap.size := by rw [hw9]; simp [World.setCell]
 have n9 : ∀ k, k ≠ D + 1 → w9.heap[k]? = w8.heap[k]? := fun k hk => by rw [hw9]; exact heap_setCell_other _ _ _ _ hk
 have g9 : w8.grownBy w9 (some (D + 1)) := by rw [hw9]; exact bu_grown _ _ _ _
 have hD8 : D + 3 ≤ w8.heap.size := by have := HB8.out.size; have := HZ3.out; omega
 have hD7 : D + 3 ≤ w7.heap.size := by have := HB7.out.size; have := HZ3.out; omega
 have bw8 : Below D w w8 := HB3.out.trans (HB8.out.mono (by have := HZ3.out; omega))
 have bw9 : Below D w w9 := bw8.grown g9 (by rw [← HD.out]; exact (by rw [HD.out]; omega)) (fun k e => by have := Option.some.inj e; omega)
 have r1 := HK1.out _ HB8.out
 have r91 : w9.heap[D + 1]? = some (.cells #[.string T, .slice A8 L c8] 61 (0, 0)) := by
  rw [hw9]
  simp only [World.setCell]
  rw [Array.getElem?_modify, if_pos rfl, r1]
  rfl
 have r92 := (n9 (D + 2) (by omega)).trans (HK2.out _ HB8.out)
 have HC9 : Hid (∀ W, Below w9.heap.size w9 W → W.heap[D + 1]? = some (.cells #[.string T, .slice A8 L c8] 61 (0, 0)) ∧ W.heap[D + 2]? = some (.cells #[.int .i64 C.g, .int .i64 C.o, .slice TA X tc] 146 (0, 0))) := fun W hW => ⟨(hW.block _ (by omega)).trans r91, (hW.block _ (by omega)).trans r92⟩
 have HZ9 := qh z9; have HN9 := qh n9; have HG9 := qh g9; have HD8 := qh hD8; have HD7 := qh hD7; have HBW9 := qh bw9; have HBW8 := qh bw8
 clear hw9 z9 n9 g9 hD8 hD7 bw8 bw9 r1 r91 r92 q0 q1 q2 q3 q4 hfz
 go_upto_region 9 with (first
  | (go_at_call 97; (with_reducible refine (HCT.out _ HBW9.out).mono ?_); rintro e w10 ⟨v10, rfl, o10, b10⟩; obtain ⟨A10, c10, rfl, -, -, -⟩ := o10.form_n X HXL.out; have HO10 := qh o10; have HB10 := qh b10; clear o10 b10; obtain ⟨t1, t2⟩ := HC9.out _ HB10.out; have q4 : w10.cell? ⟨D + 2, 2, none⟩ = some (.slice TA X tc) := by { rw [cell_of_row _ _ _ _ _ _ t2]; rfl }; have hfz : w10.frozen? ⟨D + 2, 2, none⟩ = false := by { simp [World.frozen?, t2] }; clear t1 t2))
 obtain ⟨w11, hw11⟩ : ∃ W, W = w10.setCell ⟨D + 2, 2, none⟩ (.slice A10 X c10) := ⟨_, rfl⟩
 rw [← hw11]
 have z11 : w11.heap.size = w10.heap.size := by rw [hw11]; simp [World.setCell]
 have n11 : ∀ k, k ≠ D + 2 → w11.heap[k]? = w10.heap[k]? := fun k hk => by rw [hw11]; exact heap_setCell_other _ _ _ _ hk
 have g11 : w10.grownBy w11 (some (D + 2)) := by rw [hw11]; exact bu_grown _ _ _ _
 obtain ⟨t1, t2⟩ := HC9.out _ HB10.out
 have r112 : w11.heap[D + 2]? = some (.cells #[.int .i64 C.g, .int .i64 C.o, .slice A10 X c10] 146 (0, 0)) := by
  rw [hw11]
  simp only [World.setCell]
  rw [Array.getElem?_modify, if_pos rfl, t2]
  rfl
 have r111 := (n11 (D + 1) (by omega)).trans t1
 have q0 : w11.cell? ⟨D + 1, 0, none⟩ = some (.string T) := by rw [cell_of_row _ _ _ _ _ _ r111]; rfl
 have q1 : w11.cell? ⟨D + 1, 1, none⟩ = some (.slice A8 L c8) := by rw [cell_of_row _ _ _ _ _ _ r111]; rfl
 have q2 : w11.cell? ⟨D + 2, 0, none⟩ = some (.int .i64 C.g) := by rw [cell_of_row _ _ _ _ _ _ r112]; rfl
 have q3 : w11.cell? ⟨D + 2, 1, none⟩ = some (.int .i64 C.o) := by rw [cell_of_row _ _ _ _ _ _ r112]; rfl
 have q5 : w11.cell? ⟨D + 2, 2, none⟩ = some (.slice A10 X c10) := by rw [cell_of_row _ _ _ _ _ _ r112]; rfl
 have HZ11 := qh z11; have HN11 := qh n11; have HG11 := qh g11
 clear hw11 z11 n11 g11 t1 t2 r111 r112 q4 hfz
 go_upto_region 10 with fail
 generalize hV : World.alloc w11 _ = V
 have hV2 : V = w11.alloc (plO c T (.slice A8 L c8) C.g C.o (.slice A10 X c10)) := hV.symm
 have bV : Below w11.heap.size w11 V := by rw [hV2]; exact (bR _ _).alloc (nl _) _
 have sV : V.heap.size = w11.heap.size + 1 := by rw [hV2]; simp
 have rV := plO_row w11 c T (.slice A8 L c8) C.g C.o (.slice A10 X c10)
 rw [← hV2] at rV
 have z78 : w7.heap.size ≤ w8.heap.size := HBB8.out.size
 have z910 : w9.heap.size ≤ w10.heap.size := HB10.out.size
 have z9 := HZ9.out; have z11 := HZ11.out; have d7 := HD7.out; have d8 := HD8.out
 have o1 : ∀ k, O1 k ↔ O k ∨ (D ≤ k ∧ k < D + 3) := fun k => by rw [HO1.out]
 have e1 : ∀ k, k < w8.heap.size → k ≠ D + 1 → k ≠ D + 2 → V.heap[k]? = w8.heap[k]? := fun k h1 h2 h3 => (bV.block k (by omega)).trans ((HN11.out k h3).trans ((HB10.out.block k (by omega)).trans (HN9.out k h2)))
 have e2 : ∀ k, k < w10.heap.size → k ≠ D + 2 → V.heap[k]? = w10.heap[k]? := fun k h1 h3 => (bV.block k (by omega)).trans (HN11.out k h3)
 have ovk : ∀ k, (Value.slice A8 L c8).ownBlock = some k → w7.heap.size ≤ k ∧ k < w8.heap.size := fun k hk => ⟨HO8.out.ge k hk, HO8.out.lo k hk⟩
 have tvk : ∀ k, (Value.slice A10 X c10).ownBlock = some k → w9.heap.size ≤ k ∧ k < w10.heap.size := fun k hk => HO10.out.lt k hk
 have hOD : ∀ k, O k → w0.heap.size ≤ k ∧ k < D := fun k hk => by have := HHO.out k hk; rw [HD.out] at this; exact this
 have aV := (((((HA7.out.grab HBB8.out).wrote (k0 := D + 1) (.inl ((o1 _).2 (.inr ⟨by omega, by omega⟩))) HG9.out).grab HB10.out).wrote (k0 := D + 2) (.inl (.inl ((o1 _).2 (.inr ⟨by omega, by omega⟩)))) HG11.out).grab bV)
 have hPX : PX w0 V (⟨w11.heap.size, c, q, C, T, os, .slice A8 L c8, tb, .slice A10 X c10⟩ : Pc) (newP C) (zG 32) 0 O :=
  ⟨aV.less (fun k hk => by
    rcases hk with (hk | hk | hk) | hk
    · have hk : k = w11.heap.size := hk
      exact .inr ⟨by omega, by omega⟩
    · exact .inl (.inl (.inr (ovk k hk)))
    · exact .inl (.inr (tvk k hk))
    · exact .inl (.inl (.inl ((o1 k).2 (.inl hk))))),
    rV, ops_less (ownsRow_same HO8.out (fun k hk => by have := ovk k hk; exact e1 k (by omega) (by omega) (by omega))) (by have := HHW.out; omega),
    (OB.same HO10.out (fun k hk => by have := tvk k hk; exact e2 k (by omega) (by omega))).less (by have := HHW.out; omega),
    ⟨fun e => by have := ovk _ e; show False; have h9 : w11.heap.size < w8.heap.size := this.2; omega, fun e => by have := tvk _ e; have h9 : w11.heap.size < w10.heap.size := this.2; omega⟩,
    fun k hk hp => by
     have h1 := hOD k hk
     rcases hp with hp | hp | hp
     · have hp : k = w11.heap.size := hp
       omega
     · have := ovk k hp; omega
     · have := tvk k hp; omega,
    gam.zero⟩
 have hS : Same O w V := fun k hk => by
  have h1 := hOD k hk
  exact (e1 k (by omega) (by omega) (by omega)).trans (HBW8.out.block k h1.2)
 have hPF : PFit (⟨w11.heap.size, c, q, C, T, os, .slice A8 L c8, tb, .slice A10 X c10⟩ : Pc) := ⟨HFT.out, HTZ.out, by show os.length ≤ 1000; have := HHS.out; omega, by show tb.length ≤ 1000; rw [HXL.out]; exact HX9.out⟩
 have HMK : Hid (Calls Tryz.prog 98 #[pB w11.heap.size] V fun e w' => e = .returned (.tuple #[]) ∧ PX w0 w' (⟨w11.heap.size, c, q, C, T, os, .slice A8 L c8, tb, .slice A10 X c10⟩ : Pc) s g (frontP (newP C).L) O ∧ Same O V w') := pmark_any hPF HTW.out hPX rfl (Nat.zero_le _) (m := 0) (Ok.new C (by have := HCM.out; unfold Cf.may MayC at this; omega)) (by omega) HPL.out
 have HS := qh hS; have HPF := qh hPF
 clear hV hV2 bV sV rV z78 z910 z9 z11 d7 d8 o1 e1 e2 ovk tvk hOD aV hPX hS hPF q0 q1 q2 q3 q5
 go_wp2_with (first
  | (go_at_call 98; (with_reducible refine HMK.out.mono ?_); rintro e w12 ⟨rfl, hx, hs⟩; have HX12 := qh hx; have HS12 := qh (HS.out.then_ hs); clear hx hs))
 go_ret2
 exact ⟨(⟨w11.heap.size, c, q, C, T, os, .slice A8 L c8, tb, .slice A10 X c10⟩ : Pc), rfl, rfl, rfl, rfl, rfl, HPF.out, HX12.out, HS12.out⟩
end Go.Proofs.YtpnobpligchpiaaGreatDoor
