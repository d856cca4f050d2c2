/- texts of YpEa -/
import Derived.Outline
import Derived.Test.YtpnobpligchpiaaGreatDoorYpK
import Derived.Test.YtpnobpligchpiaaGreatDoorYpOa
namespace Go.Proofs.YtpnobpligchpiaaGreatDoor
set_option maxRecDepth 100000
set_option linter.unusedVariables false
def kdA (k : Nat) : Int := if k = 0 then 0 else if k = 9 then 3 else 2
def kdB (k : Nat) : Int := if k = 0 ∨ k = 9 ∨ k = 15 then 0 else if k = 1 then 1 else if k = 10 then 3 else 2
def kdC (k : Nat) : Int := if 3 ≤ k ∧ k ≤ 8 then 2 else 0
def kd (k j : Nat) : Int := match j with
 | 0 => kdA k
 | 1 => kdB k
 | _ => kdC k
def hasB (kd n m : Int) : Bool := if kd = 1 then true else if kd = 2 then decide (0 ≤ n) && decide (n < 32) else if kd = 3 then decide (0 ≤ n) && decide (n ≤ m) else decide (n = 0)
def argO (o : O4) (j : Nat) : Int := match j with
 | 0 => o.a
 | 1 => o.b
 | _ => o.c
def codeB (k : Int) : Bool := decide (0 ≤ k) && decide (k ≤ 15)
def eMayB (o : O4) (m : Int) : Bool := codeB o.k && hasB (kd o.k.toNat 0) o.a m && hasB (kd o.k.toNat 1) o.b m && hasB (kd o.k.toNat 2) o.c m
theorem mayB_code (o : O4) (m : Int) (h : codeB o.k = false) : eMayB o m = false := by unfold eMayB; rw [h]; rfl
theorem mayB_bad (o : O4) (m : Int) (j : Nat) (hj : j < 3) (h : hasB (kd o.k.toNat j) (argO o j) m = false) : eMayB o m = false := by
 obtain rfl | rfl | rfl : j = 0 ∨ j = 1 ∨ j = 2 := by omega
 all_goals
  unfold eMayB
  simp only [argO] at h
  rw [h]
  simp
theorem mayB_all (o : O4) (m : Int) (hk : codeB o.k = true) (h : ∀ j, j < 3 → hasB (kd o.k.toNat j) (argO o j) m = true) : eMayB o m = true := by
 unfold eMayB
 rw [hk, show hasB (kd o.k.toNat 0) o.a m = true from h 0 (by omega), show hasB (kd o.k.toNat 1) o.b m = true from h 1 (by omega), show hasB (kd o.k.toNat 2) o.c m = true from h 2 (by omega)]
 rfl
def firstN (p : O4 → Bool) (os : List O4) : Int := match os.findIdx? (fun o => !p o) with
 | some i => (i : Int)
 | none => -1
theorem firstN_hit (p : O4 → Bool) (os : List O4) (k : Nat) (hk : k < os.length) (h1 : p os[k] = false) (h2 : ∀ j (h : j < os.length), j < k → p os[j] = true) : firstN p os = k := by
 have e : os.findIdx? (fun o => !p o) = some k := by
  rw [List.findIdx?_eq_some_iff_getElem]
  exact ⟨hk, by simp [h1], fun j hj => by simp [h2 j (by omega) hj]⟩
 unfold firstN; rw [e]
theorem firstN_miss (p : O4 → Bool) (os : List O4) (h : ∀ j (h : j < os.length), p os[j] = true) : firstN p os = -1 := by
 have e : os.findIdx? (fun o => !p o) = none := by
  rw [List.findIdx?_eq_none_iff]
  intro o ho
  obtain ⟨j, hj, rfl⟩ := List.getElem_of_mem ho
  simp [h j hj]
 unfold firstN; rw [e]
theorem firstN_eq (p : O4 → Bool) (os : List O4) : (∃ k : Nat, ∃ h : k < os.length, firstN p os = k ∧ p os[k] = false ∧ ∀ j (h : j < os.length), j < k → p os[j] = true) ∨ (firstN p os = -1 ∧ ∀ j (h : j < os.length), p os[j] = true) := by
 cases e : os.findIdx? (fun o => !p o) with
 | none =>
   refine .inr ⟨by unfold firstN; rw [e], fun j hj => ?_⟩
   rw [List.findIdx?_eq_none_iff] at e
   simpa using e os[j] (List.getElem_mem _)
 | some k =>
   obtain ⟨h1, h2, h3⟩ := List.findIdx?_eq_some_iff_getElem.1 e
   exact .inl ⟨k, h1, by unfold firstN; rw [e], by simpa using h2, fun j hj hjk => by simpa using h3 j hjk⟩
def faultN (tb : Bool) (os : List O4) : Int := if fitsB tb os then firstN (fun o => eMayB o os.length) os else -2
open Go.RowKit
theorem has_any (kd n m : Int) (w : World) :
 Calls Tryz.prog 182 #[.int .i64 kd, .int .i64 n, .int .i64 m] w fun e w' => e = .returned (.bool (hasB kd n m)) ∧ w = w' := by
 unfold hasB
 by_cases h1 : kd = 1
 · subst h1
   rw [if_pos rfl]
   go_enter Tryz.func182, Tryz.ntmps182
   go_wp2
   go_ret
   exact ⟨rfl, rfl⟩
 by_cases h2 : kd = 2
 · subst h2
   rw [if_neg (by decide), if_pos rfl]
   go_enter Tryz.func182, Tryz.ntmps182
   go_wp2
   all_goals (go_ret; refine ⟨?_, rfl⟩; show Ending.returned (Value.bool _) = _; congr 2; simp; try omega)
 by_cases h3 : kd = 3
 · subst h3
   rw [if_neg (by decide), if_neg (by decide), if_pos rfl]
   go_enter Tryz.func182, Tryz.ntmps182
   go_wp2
   all_goals (go_ret; refine ⟨?_, rfl⟩; show Ending.returned (Value.bool _) = _; congr 2; simp; try omega)
 rw [if_neg h1, if_neg h2, if_neg h3]
 go_enter Tryz.func182, Tryz.ntmps182
 go_wp2
 all_goals (go_ret; exact ⟨rfl, rfl⟩)
def takesV (k : Nat) : Value := .tuple #[.agg #[.int .i64 (kdA k), .int .i64 (kdB k), .int .i64 (kdC k)], .bool true]
set_option maxHeartbeats 4000000 in
theorem takes_ok (k : Nat) (hk : k < 16) (w : World) :
 Calls Tryz.prog 181 #[.int .i64 k] w fun e w' => e = .returned (takesV k) ∧ Below w.heap.size w w' := by
 obtain rfl | rfl | rfl | rfl | rfl | rfl | rfl | rfl | rfl | rfl | rfl | rfl | rfl | rfl | rfl | rfl : k = 0 ∨ k = 1 ∨ k = 2 ∨ k = 3 ∨ k = 4 ∨ k = 5 ∨ k = 6 ∨ k = 7 ∨ k = 8 ∨ k = 9 ∨ k = 10 ∨ k = 11 ∨ k = 12 ∨ k = 13 ∨ k = 14 ∨ k = 15 := by omega
 · go_enter Tryz.func181, Tryz.ntmps181
   go_wp2
   refine bodyPost_ret (v := takesV 0) (by simp [results, Tryz.results181, go_sem, takesV, kdA, kdB, kdC]) rfl ⟨rfl, ?_⟩
   exact (bR _ _).alloc (nl _) _
 · go_enter Tryz.func181, Tryz.ntmps181
   go_wp2
   refine bodyPost_ret (v := takesV 1) (by simp [results, Tryz.results181, go_sem, takesV, kdA, kdB, kdC]) rfl ⟨rfl, ?_⟩
   exact (bR _ _).alloc (nl _) _
 · go_enter Tryz.func181, Tryz.ntmps181
   go_wp2
   refine bodyPost_ret (v := takesV 2) (by simp [results, Tryz.results181, go_sem, takesV, kdA, kdB, kdC]) rfl ⟨rfl, ?_⟩
   exact (bR _ _).alloc (nl _) _
 · go_enter Tryz.func181, Tryz.ntmps181
   go_wp2
   refine bodyPost_ret (v := takesV 3) (by simp [results, Tryz.results181, go_sem, takesV, kdA, kdB, kdC]) rfl ⟨rfl, ?_⟩
   exact (bR _ _).alloc (nl _) _
 · go_enter Tryz.func181, Tryz.ntmps181
   go_wp2
   refine bodyPost_ret (v := takesV 4) (by simp [results, Tryz.results181, go_sem, takesV, kdA, kdB, kdC]) rfl ⟨rfl, ?_⟩
   exact (bR _ _).alloc (nl _) _
 · go_enter Tryz.func181, Tryz.ntmps181
   go_wp2
   refine bodyPost_ret (v := takesV 5) (by simp [results, Tryz.results181, go_sem, takesV, kdA, kdB, kdC]) rfl ⟨rfl, ?_⟩
   exact (bR _ _).alloc (nl _) _
 · go_enter Tryz.func181, Tryz.ntmps181
   go_wp2
   refine bodyPost_ret (v := takesV 6) (by simp [results, Tryz.results181, go_sem, takesV, kdA, kdB, kdC]) rfl ⟨rfl, ?_⟩
   exact (bR _ _).alloc (nl _) _
 · go_enter Tryz.func181, Tryz.ntmps181
   go_wp2
   refine bodyPost_ret (v := takesV 7) (by simp [results, Tryz.results181, go_sem, takesV, kdA, kdB, kdC]) rfl ⟨rfl, ?_⟩
   exact (bR _ _).alloc (nl _) _
 · go_enter Tryz.func181, Tryz.ntmps181
   go_wp2
   refine bodyPost_ret (v := takesV 8) (by simp [results, Tryz.results181, go_sem, takesV, kdA, kdB, kdC]) rfl ⟨rfl, ?_⟩
   exact (bR _ _).alloc (nl _) _
 · go_enter Tryz.func181, Tryz.ntmps181
   go_wp2
   refine bodyPost_ret (v := takesV 9) (by simp [results, Tryz.results181, go_sem, takesV, kdA, kdB, kdC]) rfl ⟨rfl, ?_⟩
   exact (bR _ _).alloc (nl _) _
 · go_enter Tryz.func181, Tryz.ntmps181
   go_wp2
   refine bodyPost_ret (v := takesV 10) (by simp [results, Tryz.results181, go_sem, takesV, kdA, kdB, kdC]) rfl ⟨rfl, ?_⟩
   exact (bR _ _).alloc (nl _) _
 · go_enter Tryz.func181, Tryz.ntmps181
   go_wp2
   refine bodyPost_ret (v := takesV 11) (by simp [results, Tryz.results181, go_sem, takesV, kdA, kdB, kdC]) rfl ⟨rfl, ?_⟩
   exact (bR _ _).alloc (nl _) _
 · go_enter Tryz.func181, Tryz.ntmps181
   go_wp2
   refine bodyPost_ret (v := takesV 12) (by simp [results, Tryz.results181, go_sem, takesV, kdA, kdB, kdC]) rfl ⟨rfl, ?_⟩
   exact (bR _ _).alloc (nl _) _
 · go_enter Tryz.func181, Tryz.ntmps181
   go_wp2
   refine bodyPost_ret (v := takesV 13) (by simp [results, Tryz.results181, go_sem, takesV, kdA, kdB, kdC]) rfl ⟨rfl, ?_⟩
   exact (bR _ _).alloc (nl _) _
 · go_enter Tryz.func181, Tryz.ntmps181
   go_wp2
   refine bodyPost_ret (v := takesV 14) (by simp [results, Tryz.results181, go_sem, takesV, kdA, kdB, kdC]) rfl ⟨rfl, ?_⟩
   exact (bR _ _).alloc (nl _) _
 · go_enter Tryz.func181, Tryz.ntmps181
   go_wp2
   refine bodyPost_ret (v := takesV 15) (by simp [results, Tryz.results181, go_sem, takesV, kdA, kdB, kdC]) rfl ⟨rfl, ?_⟩
   exact (bR _ _).alloc (nl _) _
theorem takes_no (k : Int) (h : codeB k = false) (w : World) :
 Calls Tryz.prog 181 #[.int .i64 k] w fun e w' => e = .returned (.tuple #[.agg #[.int .i64 0, .int .i64 0, .int .i64 0], .bool false]) ∧ Below w.heap.size w w' := by
 have h2 : k < 0 ∨ 15 < k := by
  unfold codeB at h
  by_cases h3 : k < 0
  · exact .inl h3
  · refine .inr ?_
    rw [decide_eq_true (show 0 ≤ k by omega), Bool.true_and, decide_eq_false_iff_not] at h
    omega
 clear h
 rcases h2 with h | h
 all_goals
  go_enter Tryz.func181, Tryz.ntmps181
  go_wp2
  refine bodyPost_ret (v := .tuple #[.agg #[.int .i64 0, .int .i64 0, .int .i64 0], .bool false]) (by simp [results, Tryz.results181, go_sem]) rfl ⟨rfl, ?_⟩
  exact (bR _ _).alloc (nl _) _
theorem op_cells {w w1 : World} {o : O4} {B : Nat} (hb : Below B (w.alloc (.cells #[.int .i64 o.k, .int .i64 o.a, .int .i64 o.b, .int .i64 o.c] 151)) w1) (hB : w.heap.size < B) :
 w1.cell? ⟨w.heap.size, 0, none⟩ = some (.int .i64 o.k) ∧ w1.cell? ⟨w.heap.size, 1, none⟩ = some (.int .i64 o.a) ∧ w1.cell? ⟨w.heap.size, 2, none⟩ = some (.int .i64 o.b) ∧ w1.cell? ⟨w.heap.size, 3, none⟩ = some (.int .i64 o.c) := by
 have r : (w.alloc (.cells #[.int .i64 o.k, .int .i64 o.a, .int .i64 o.b, .int .i64 o.c] 151)).rowIs w.heap.size 151 4 (opF o) := World.rowIs_alloc w _ _ _ (fun i hi => by
  have hi : i < 4 := hi
  obtain rfl | rfl | rfl | rfl : i = 0 ∨ i = 1 ∨ i = 2 ∨ i = 3 := by omega
  all_goals rfl)
 have e : ∀ i, i < 4 → w1.cell? ⟨w.heap.size, i, none⟩ = some (opF o i) := fun i hi => (hb.cell (p := ⟨w.heap.size, i, none⟩) hB).trans (r.cell hi)
 exact ⟨e 0 (by omega), e 1 (by omega), e 2 (by omega), e 3 (by omega)⟩
theorem index_args (o : O4) (j : Nat) (hj : j < 3) (w : World) : (Instr.index 245 (.agg #[.int .i64 o.a, .int .i64 o.b, .int .i64 o.c]) (.int .i64 (j : Int))).run Tryz.prog w = .ok (.int .i64 (argO o j)) w := by
 obtain rfl | rfl | rfl : j = 0 ∨ j = 1 ∨ j = 2 := by omega
 all_goals kernel_rfl
theorem kd_row (w : World) (k : Nat) : (w.alloc (.cells #[.int .i64 (kdA k), .int .i64 (kdB k), .int .i64 (kdC k)] 242)).rowIs w.heap.size 242 3 (fun i => .int .i64 (kd k i)) := World.rowIs_alloc w _ _ _ (fun i hi => by
 have hi : i < 3 := hi
 obtain rfl | rfl | rfl : i = 0 ∨ i = 1 ∨ i = 2 := by omega
 all_goals rfl)
set_option maxHeartbeats 2000000 in
theorem cmayOp_any (o : O4) (m : Int) (w : World) :
 Calls Tryz.prog 161 #[opV o, .int .i64 m] w fun e w' => e = .returned (.bool (eMayB o m)) ∧ Below w.heap.size w w' := by
 unfold opV
 have b0 : Below w.heap.size w (w.alloc (.cells #[.int .i64 o.k, .int .i64 o.a, .int .i64 o.b, .int .i64 o.c] 151)) := (bR _ _).alloc (nl _) _
 cases hcb : codeB o.k with
 | false =>
   have HF := qh (mayB_code o m hcb)
   have HT := qh (fun W => takes_no o.k hcb W)
   clear hcb
   go_enter Tryz.func161, Tryz.ntmps161
   go_wp2_with (go_at_call 181; refine (HT.out _).mono ?_; rintro e w1 ⟨rfl, hb1⟩)
   go_ret
   exact ⟨by rw [HF.out]; rfl, (b0.trans (hb1.mono (by simp))).alloc (by have := hb1.size; simp at this; omega) _⟩
 | true =>
   obtain ⟨k, hk, hk16⟩ : ∃ k : Nat, o.k = k ∧ k < 16 := by
    unfold codeB at hcb
    simp at hcb
    exact ⟨o.k.toNat, by omega, by omega⟩
   have hkn : o.k.toNat = k := by omega
   have HB : Hid (∀ j, j < 3 → hasB (kd k j) (argO o j) m = false → eMayB o m = false) := fun j hj h => mayB_bad o m j hj (by rw [hkn]; exact h)
   have HA : Hid ((∀ j, j < 3 → hasB (kd k j) (argO o j) m = true) → eMayB o m = true) := fun h => mayB_all o m hcb (by rw [hkn]; exact h)
   have HT : Hid (∀ W, Calls Tryz.prog 181 #[.int .i64 o.k] W fun e w' => e = .returned (takesV k) ∧ Below W.heap.size W w') := fun W => by rw [hk]; exact takes_ok k hk16 W
   clear hcb hkn hk
   go_enter Tryz.func161, Tryz.ntmps161
   go_wp2_with (go_at_call 181; refine (HT.out _).mono ?_; rintro e w1 ⟨rfl, hb1⟩; obtain ⟨hc0, hc1, hc2, hc3⟩ := op_cells (hb1.alloc hb1.size (.cells #[.int .i64 (kdA k), .int .i64 (kdB k), .int .i64 (kdC k)] 242)) (by simp); unfold takesV)
   have HR := qh (kd_row w1 k)
   have hb2 : Below w.heap.size w (w1.alloc (.cells #[.int .i64 (kdA k), .int .i64 (kdB k), .int .i64 (kdC k)] 242)) := (b0.trans (hb1.mono (by simp))).alloc (by have := hb1.size; simp at this; omega) _
   generalize w1.alloc (.cells #[.int .i64 (kdA k), .int .i64 (kdB k), .int .i64 (kdC k)] 242) = w2 at *
   clear hb1 b0 hc0 hc1 hc2 hc3 HT
   go_loop [24] (fun i => ∃ j : Nat, i = .int .i64 j ∧ j ≤ 3 ∧ Hid (∀ q, q < j → hasB (kd k q) (argO o q) m = true)) (fun i => 3 - (intOf i).toNat)
   case atStart => exact ⟨0, rfl, by omega, fun q hq => by omega⟩
   case round =>
    obtain ⟨j, rfl, hj, hall⟩ := hrel
    by_cases hlt : j < 3
    · have hx := index_args o j hlt w2
      have hjc : (j : Int) < 3 := by omega
      have hcell := HR.out.cell (i := j) hlt
      cases hh : hasB (kd k j) (argO o j) m with
      | false =>
        have HF := qh (HB.out j hlt hh)
        have HH : Hid (∀ W, Calls Tryz.prog 182 #[.int .i64 (kd k j), .int .i64 (argO o j), .int .i64 m] W fun e w' => e = .returned (.bool false) ∧ W = w') := fun W => by rw [← hh]; exact has_any _ _ _ W
        clear hh
        go_wp2_with (go_at_call 182; refine (HH.out _).mono ?_; rintro e w3 ⟨rfl, rfl⟩)
        go_ret
        exact ⟨by rw [HF.out]; rfl, hb2⟩
      | true =>
        have HA2 : Hid (∀ q, q < j + 1 → hasB (kd k q) (argO o q) m = true) := fun q hq => by
         by_cases e : q < j
         · exact hall.out q e
         · obtain rfl : q = j := by omega
           exact hh
        have HH : Hid (∀ W, Calls Tryz.prog 182 #[.int .i64 (kd k j), .int .i64 (argO o j), .int .i64 m] W fun e w' => e = .returned (.bool true) ∧ W = w') := fun W => by rw [← hh]; exact has_any _ _ _ W
        clear hh
        go_wp2_with (go_at_call 182; refine (HH.out _).mono ?_; rintro e w3 ⟨rfl, rfl⟩)
        go_round
        case rel => exact ⟨j + 1, by go_num, by omega, HA2⟩
        case measure => simp [intOf]; omega
    · obtain rfl : j = 3 := by omega
      have HF := qh (HA.out hall.out)
      go_wp2
      go_ret
      exact ⟨by rw [HF.out]; rfl, hb2⟩
set_option maxHeartbeats 1000000 in
theorem fclo_any (o : O4) (pb n c : Nat) (A : Option Addr) (w : World) (hcell : w.cell? ⟨pb, 1, none⟩ = some (.slice A n c)) :
 Calls Tryz.prog 160 #[opV o, .pointer (some ⟨pb, 0, none⟩)] w fun e w' => e = .returned (.bool (!eMayB o n)) ∧ Below w.heap.size w w' := by
 have hlt : pb < w.heap.size := cell_lt hcell
 have HM := qh (fun W => cmayOp_any o n W)
 unfold opV at HM ⊢
 have b0 : Below w.heap.size w (w.alloc (.cells #[.int .i64 o.k, .int .i64 o.a, .int .i64 o.b, .int .i64 o.c] 151)) := (bR _ _).alloc (nl _) _
 have hc1 := (b0.cell (p := ⟨pb, 1, none⟩) hlt).trans hcell
 go_enter Tryz.func160, Tryz.ntmps160
 go_wp2_with (go_at_call 161; refine (HM.out _).mono ?_; rintro e w1 ⟨rfl, hb1⟩)
 go_ret
 exact ⟨rfl, b0.trans (hb1.mono (by simp))⟩
set_option maxHeartbeats 2000000 in
theorem indexfunc_any (A : Option Addr) (os : List O4) (cap B : Nat) (pb n c : Nat) (A2 : Option Addr) (w : World) (hr : RO w B A os) (hB : B ≤ w.heap.size) (hl : os.length ≤ 1000000) (hcell : w.cell? ⟨pb, 1, none⟩ = some (.slice A2 n c)) :
 Calls Tryz.prog 159 #[.slice A os.length cap, .func (.func 160) #[] #[.pointer (some ⟨pb, 0, none⟩)]] w fun e w' => e = .returned (.int .i64 (firstN (fun o => eMayB o n) os)) ∧ Below w.heap.size w w' := by
 have HC := qh hcell; clear hcell
 have HR := qh hr; clear hr
 go_enter Tryz.func159, Tryz.ntmps159
 go_wp2_with fail
 go_loopw [5, 8] (fun s i wr => ∃ k : Nat, i = .int .i64 k ∧ k ≤ os.length ∧ Below w.heap.size w wr ∧ Hid (∀ j (h : j < os.length), j < k → eMayB os[j] n = true)) (fun _ i _ => os.length - (intOf i).toNat)
 case atStart => exact ⟨0, rfl, by omega, bR _ _, fun j h hj => by omega⟩
 case round =>
  obtain ⟨k, rfl, hk, hb, hall⟩ := hrel
  by_cases hlt : k < os.length
  · obtain ⟨b, off, rfl, hbB, hcell⟩ := (HR.out.below (hb.mono hB)) (by omega)
    obtain ⟨q1, q2, q3, q4⟩ := hcell k hlt
    clear hcell
    have hkc : (k : Int) < (os.length : Int) := by omega
    obtain ⟨o, ho⟩ : ∃ o, os[k] = o := ⟨_, rfl⟩
    rw [ho] at q1 q2 q3 q4
    have hcl := (hb.cell (p := ⟨pb, 1, none⟩) (cell_lt HC.out)).trans HC.out
    have HF := qh (fclo_any o pb n c A2 wr hcl)
    unfold opV at HF
    clear hcl
    cases hm : eMayB o n with
    | false =>
      have HQ := qh (firstN_hit (fun o => eMayB o n) os k hlt (by rw [ho]; exact hm) hall.out)
      rw [hm] at HF
      clear hm ho
      go_wp2_with (go_at_call 160; refine HF.out.mono ?_; rintro e w2 ⟨rfl, hb2⟩)
      go_ret
      exact ⟨by rw [HQ.out]; rfl, hb.trans (hb2.mono hb.size)⟩
    | true =>
      have HA : Hid (∀ j (h : j < os.length), j < k + 1 → eMayB os[j] n = true) := fun j h hj => by
       by_cases e : j < k
       · exact hall.out j h e
       · obtain rfl : j = k := by omega
         rw [ho]; exact hm
      rw [hm] at HF
      clear hm ho
      go_wp2_with (go_at_call 160; refine HF.out.mono ?_; rintro e w2 ⟨rfl, hb2⟩)
      have hb3 := hb.trans (hb2.mono hb.size)
      go_roundw
      case rel => exact ⟨k + 1, by go_num, by omega, hb3, HA⟩
      case measure => simp [intOf]; omega
  · obtain rfl : k = os.length := by omega
    have HQ := qh (firstN_miss (fun o => eMayB o n) os (fun j h => hall.out j h h))
    go_wp2
    go_ret
    exact ⟨by rw [HQ.out]; rfl, hb⟩
set_option maxHeartbeats 1000000 in
theorem encode_nil (t : ByteArray) (A : Option Addr) (os : List O4) (cap B : Nat) (w : World) (hr : RO w B A os) (hB : B ≤ w.heap.size) (hc : os.length ≤ cap) (hm : cap ≤ maxLen) (ht : t.size ≤ 549755813888) (hf : fitsB (titB t) os = false) :
 Calls Tryz.prog 158 #[progV t A os.length cap] w fun e w' => e = .returned (.slice none 0 0) ∧ Below w.heap.size w w' := by
 have b0 : Below w.heap.size w (w.alloc (.cells #[.string t, .slice A os.length cap] 61)) := (bR _ _).alloc (nl _) _
 have HF := qh (fits_any t A os cap B (w.alloc (.cells #[.string t, .slice A os.length cap] 61)) (hr.below (b0.mono hB)) (by simp; omega) hc hm (by unfold maxLen; omega))
 rw [hf] at HF
 unfold progV at HF ⊢
 clear hr hf
 go_enter Tryz.func158, Tryz.ntmps158
 go_wp2_with (go_at_call 177; refine HF.out.mono ?_; rintro e w1 ⟨rfl, hb1⟩)
 go_ret
 exact ⟨rfl, b0.trans (hb1.mono (by simp))⟩
theorem encode_some (t : ByteArray) (A : Option Addr) (os : List O4) (cap B : Nat) (w : World) (hr : RO w B A os) (hB : B ≤ w.heap.size) (hc : os.length ≤ cap) (hm : cap ≤ maxLen) (ht : t.size ≤ 549755813888) (hf : fitsB (titB t) os = true) :
 Calls Tryz.prog 158 #[progV t A os.length cap] w fun e w' => ∃ a n c, e = .returned (.slice (some a) n c) ∧ Below w.heap.size w w' := by
 refine (cencode_any t A os cap B w hr hB hc hm ht).mono ?_
 rintro e w' ⟨v, rfl, ho, hb⟩
 have he : encB t os = encP t.data.toList os := by unfold encB; rw [hf]; rfl
 rw [he] at ho
 rcases ho.2 with ⟨_, h0⟩ | ⟨g, cap', cur, rfl, _⟩
 · have hl : 0 < (encP t.data.toList os).length := by
    exact encP_pos t.data.toList os
   omega
 · exact ⟨_, _, _, rfl, hb⟩
set_option maxHeartbeats 1000000 in
theorem fault_any (t : ByteArray) (A : Option Addr) (os : List O4) (cap B : Nat) (w : World) (hr : RO w B A os) (hB : B ≤ w.heap.size) (hc : os.length ≤ cap) (hm : cap ≤ maxLen) (ht : t.size ≤ 549755813888) :
 Calls Tryz.prog 128 #[progV t A os.length cap] w fun e w' => e = .returned (.int .i64 (faultN (titB t) os)) ∧ Below w.heap.size w w' := by
 have b0 : Below w.heap.size w (w.alloc (.cells #[.string t, .slice A os.length cap] 61)) := (bR _ _).alloc (nl _) _
 have hr1 : RO (w.alloc (.cells #[.string t, .slice A os.length cap] 61)) B A os := hr.below (b0.mono hB)
 have hB1 : B ≤ (w.alloc (.cells #[.string t, .slice A os.length cap] 61)).heap.size := by simp; omega
 have HR := qh hr1
 cases hf : fitsB (titB t) os with
 | false =>
   have hn : ∀ W : World, (binOp .eql 33 (.slice none 0 0) (.slice none 0 0)).run Tryz.prog W = .ok (.bool true) W := fun W => Lib.run_eql_slice_nil W _ _ _ _ _ _ _ Tryz.underlying33
   have HE := qh (encode_nil t A os cap B _ hr1 hB1 hc hm ht hf)
   have HQ := qh (show faultN (titB t) os = -2 by unfold faultN; rw [hf]; rfl)
   unfold progV at HE ⊢
   clear hr hr1 hf
   go_enter Tryz.func128, Tryz.ntmps128
   go_wp2_with (go_at_call 158; refine HE.out.mono ?_; rintro e w1 ⟨rfl, hb1⟩)
   go_ret
   exact ⟨by rw [HQ.out]; rfl, b0.trans (hb1.mono (by simp))⟩
 | true =>
   have hmf : ∀ (fn : Fn) (first cap : Array Value) (w : World), (Instr.makeFunc fn first cap).run Tryz.prog w = .ok (.func fn first cap) w := fun _ _ _ _ => rfl
   have hn : ∀ (a : Addr) (n c : Nat) (W : World), (binOp .eql 33 (.slice (some a) n c) (.slice none 0 0)).run Tryz.prog W = .ok (.bool false) W := fun a n c W => Lib.run_eql_slice_nil W _ _ _ _ _ _ _ Tryz.underlying33
   have HE := qh (encode_some t A os cap B _ hr1 hB1 hc hm ht hf)
   have hos := ((fitsB_iff _ _).1 hf).2.2.1
   have HQ := qh (show faultN (titB t) os = firstN (fun o => eMayB o os.length) os by unfold faultN; rw [hf]; rfl)
   unfold progV at HE ⊢
   clear hr hr1 hf
   go_enter Tryz.func128, Tryz.ntmps128
   go_wp2_with (go_at_call 158; refine HE.out.mono ?_; rintro e w1 ⟨a, n, c, rfl, hb1⟩; obtain ⟨hc0, hc1, _, _⟩ := two_cells hb1 (by simp))
   refine (indexfunc_any A os cap B w.heap.size os.length cap A _ (HR.out.below (hb1.mono (by simp; omega))) (by have := hb1.size; simp at this; omega) (by omega) hc1).mono ?_
   rintro e w2 ⟨rfl, hb2⟩
   go_wp2
   go_ret
   exact ⟨by rw [HQ.out]; rfl, (b0.trans (hb1.mono (by simp))).trans (hb2.mono (by have := hb1.size; simp at this; omega))⟩
set_option maxHeartbeats 1000000 in
theorem emay_any (t : ByteArray) (A : Option Addr) (os : List O4) (cap B : Nat) (w : World) (hr : RO w B A os) (hB : B ≤ w.heap.size) (hc : os.length ≤ cap) (hm : cap ≤ maxLen) (ht : t.size ≤ 549755813888) :
 Calls Tryz.prog 94 #[progV t A os.length cap] w fun e w' => e = .returned (.bool (faultN (titB t) os == -1)) ∧ Below w.heap.size w w' := by
 have b0 : Below w.heap.size w (w.alloc (.cells #[.string t, .slice A os.length cap] 61)) := (bR _ _).alloc (nl _) _
 have HF := qh (fault_any t A os cap B (w.alloc (.cells #[.string t, .slice A os.length cap] 61)) (hr.below (b0.mono hB)) (by simp; omega) hc hm ht)
 unfold progV at HF ⊢
 clear hr
 generalize faultN (titB t) os = z at *
 go_enter Tryz.func94, Tryz.ntmps94
 go_wp2_with (go_at_call 128; refine HF.out.mono ?_; rintro e w1 ⟨rfl, hb1⟩)
 go_ret
 exact ⟨rfl, b0.trans (hb1.mono (by simp))⟩
end Go.Proofs.YtpnobpligchpiaaGreatDoor
