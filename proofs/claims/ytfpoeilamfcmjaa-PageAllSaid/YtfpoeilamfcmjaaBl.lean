/- WALK of the law PageAll. -/
import Derived.Test.YtfpoeilamfcmjaaBk
import Derived.Deep.CutBlock
import Derived.Deep.CutRange
namespace Go.Proofs.Ytfpoeilamfcmjaa
set_option maxRecDepth 100000
open Go.RowKit
set_option linter.unusedVariables false
set_option linter.unusedSimpArgs false

/-- is the page in use? -/
def inUse (l : List Sh) (p : Int) : Bool := decide ((pg l p).r ≠ 0)
theorem inUse_t {l : List Sh} {p : Int} (h : (pg l p).r ≠ 0) : inUse l p = true := by unfold inUse; simpa using h
theorem inUse_f {l : List Sh} {p : Int} (h : (pg l p).r = 0) : inUse l p = false := by unfold inUse; simpa using h
theorem ret_v {a b : Bool} (h : a = b) : Value.bool b = Value.bool a := by rw [h]
theorem AllS.gro {w wr w' : World} {P A L N m : Nat} {l : List Sh} (h : AllS w wr P A L N m l) {b : Nat} (g : wr.grownBy w' (some b)) (hA : b ≠ A) (hP : b ≠ P) (hL : b ≠ L) (hb : w.heap.size ≤ b) : AllS w w' P A L N m l :=
  ⟨h.rm.grown g (fun e => hP (Option.some.inj e).symm) (fun e => hA (Option.some.inj e).symm), h.sr.grown g (fun e => hL (Option.some.inj e).symm), h.len, h.bd, h.be.grown g h.be.size (fun k e => by have := Option.some.inj e; omega), h.hA, h.hL, h.nA, h.nP⟩
theorem AllS.lc {w wr : World} {P A L N m : Nat} {l : List Sh} (h : AllS w wr P A L N m l) {c : Nat} (hc : c < N) : c + 1 < (zS :: l).length := by
  simp only [List.length_cons]; rw [h.len]; omega
theorem AllS.refd {w wr w2 : World} {P A L N m : Nat} {l : List Sh} (h : AllS w wr P A L N m l) {c : Nat} (hc : c < N) (x : Int) (U : Upd wr w2 P A (l.set c ⟨x, (shAt l c).on⟩)) (h0 : 0 ≤ x) (h1 : x ≤ (m + 1 : Nat)) :
    AllS w (w2.setCell ⟨L, (c + 1) * 9, none⟩ (.int .i64 x)) P A L N (m + 1) (l.set c ⟨x, (shAt l c).on⟩) := by
  obtain ⟨R2, G2, B2⟩ := h.upd U
  exact h.both hc R2 B2 (G2.setRef (c + 1) (h.lc hc) x) (grown_st w2 _ _) h0 h1
theorem AllS.numd {w wr w2 : World} {P A L N m : Nat} {l : List Sh} (h : AllS w wr P A L N m l) {c : Nat} (hc : c < N) (j : Nat) (h8 : j < 8) (v : Int) (U : Upd wr w2 P A (l.set c ⟨(shAt l c).r, shPut (shAt l c).on j v⟩)) :
    AllS w (w2.setCell ⟨L, (c + 1) * 9 + 1 + j, none⟩ (.int .i32 v)) P A L N (m + 1) (l.set c ⟨(shAt l c).r, shPut (shAt l c).on j v⟩) := by
  obtain ⟨R2, G2, B2⟩ := h.upd U
  have hb := h.bd c
  exact h.both hc R2 B2 (G2.setNum (c + 1) (h.lc hc) j h8 v) (grown_st w2 _ _) hb.1 (by show (shAt l c).r ≤ _; omega)
theorem AllS.drew {w wr : World} {P A L N m : Nat} {l : List Sh} (h : AllS w wr P A L N m l) : AllS w wr.drew P A L N m l := ⟨h.rm.drew, h.sr, h.len, h.bd, h.be.drew, h.hA, h.hL, h.nA, h.nP⟩
theorem Upd.keep {w w' : World} {P A : Nat} {l : List Sh} (U : Upd w w' P A l) {b o : Nat} {v : Value} (h : w.cell? ⟨b, o, none⟩ = some v) (hne : b ≠ A) : w'.cell? ⟨b, o, none⟩ = some v :=
  (World.cell?_of_block (w := w) (a := ⟨b, o, none⟩) (U.gr.block b (cell_lt h) (fun e => hne (Option.some.inj e)))).trans h
theorem Upd.blk {w w' : World} {P A : Nat} {l : List Sh} (U : Upd w w' P A l) {b : Nat} {o : Obj} (h : w.heap[b]? = some o) (hlt : b < w.heap.size) (hne : b ≠ A) : w'.heap[b]? = some o :=
  (U.gr.block b hlt (fun e => hne (Option.some.inj e))).trans h
theorem RM.gr1 {w w' : World} {P A b : Nat} {l : List Sh} (h : RM w P A l) (g : w.grownBy w' (some b)) (hP : b ≠ P) (hA : b ≠ A) : RM w' P A l :=
  h.grown g (fun e => hP (Option.some.inj e).symm) (fun e => hA (Option.some.inj e).symm)
theorem SR.gr1 {w w' : World} {L b : Nat} {t : TypeId} {l : List Sh} (h : SR w L t l) (g : w.grownBy w' (some b)) (hL : b ≠ L) : SR w' L t l :=
  h.grown g (fun e => hL (Option.some.inj e).symm)
theorem below_gr1 {w w1 w2 : World} {b : Nat} (h : Below w.heap.size w w1) (g : w1.grownBy w2 (some b)) (hb : w.heap.size ≤ b) : Below w.heap.size w w2 :=
  h.grown g h.size (fun k e => by have := Option.some.inj e; omega)
theorem onA_sz2 (f g : Nat → Int) : (onA f).size = (onA g).size := rfl
theorem infoArrOn (f : Nat → Int) : (Try.prog.info? 29).map (·.size) = some (onA f).size := infoArr
set_option maxHeartbeats 40000000 in
theorem all_law (n : Int) (A0 : Option Addr) (qs : List Q4) (cap : Nat) (w : World) (n0 : -9223372036854775808 ≤ n) (n1 : n ≤ 9223372036854775807) (hr : RQ w w.heap.size A0 qs) (hc : qs.length ≤ cap) (hm : cap ≤ maxLen) (hq : ∀ o ∈ qs, inQ o) :
    Calls Try.prog 3 #[.int .i64 n, .slice A0 qs.length cap] w fun e w' => e = .returned (.bool true) ∧ Below w.heap.size w w' := by
  have HBg := Lib.hid begun10_any
  have HRQ := Lib.hid hr
  have HIN := Lib.hid hq
  have hmx := hm
  unfold maxLen at hmx
  clear hr hq
  go_enter Try.func3, Try.ntmps3
  go_upto_if 23 with (go_at_call 8; refine (HBg.out _).mono ?_; rintro e w0 ⟨rfl, B0⟩; have B := Lib.hid B0; clear B0)
  go_cut [0] from 22 to 23 (fun s0 wx => ∃ z : Int, s0 = .int .i64 z ∧ z ≤ 12 ∧ -9223372036854775808 ≤ z ∧ wx = w0)
  case first =>
    by_cases h : n > 12
    · go_wp2
      go_meet
      exact ⟨12, rfl, by omega, by omega, rfl⟩
    · go_wp2
      go_meet
      exact ⟨n, rfl, by omega, by omega, rfl⟩
  case rest =>
    obtain ⟨z, rfl, hz1, hz0, rfl⟩ := hcut
    obtain ⟨N, hN⟩ : ∃ N : Nat, (z < 0 ∧ N = 0) ∨ (0 ≤ z ∧ z ≤ 200 ∧ z = N) ∨ (200 < z ∧ N = 200) := ⟨z.toNat, by omega⟩
    have HN := Lib.hid (new_any z N hN wc)
    have hN12 : N ≤ 12 := by omega
    have HNN : Hid (z ≤ 0 ∧ N = 0 ∨ 0 < z ∧ z = N) := by unfold Hid; omega
    clear hN
    go_upto_region 7 with (go_at_call 9; with_reducible refine HN.out.mono ?_; rintro e w1 ⟨P, A, rfl, hA0, hP0, R0, B0⟩; have hA : w.heap.size ≤ A := Nat.le_trans B.out.size hA0; have R := Lib.hid R0; replace B := Lib.hid (B.out.trans (B0.mono B.out.size)); clear R0 B0 hA0 hP0)
    have HS0 : Hid (AllS w (w1.alloc (madeSh 31 (N + 1))) P A w1.heap.size N 1 (List.replicate N zS)) :=
      ⟨R.out.alloc _, made_sh w1 (N + 1) _, by simp, fun j => by
        have : shAt (List.replicate N zS) j = zS := by
          unfold shAt; rw [List.getElem?_replicate]; split <;> rfl
        rw [this]; exact ⟨Int.le_refl 0, by show (0 : Int) ≤ 1; omega⟩, B.out.alloc B.out.size _, hA, B.out.size, by have := R.out.row.lt; omega, by have := R.out.lt; omega⟩
    go_cut [7] from 26 to 29 (fun s7 wx => s7 = .slice (some ⟨w1.heap.size, 0, none⟩) (N + 1) (N + 1) ∧ wx = w1.alloc (madeSh 31 (N + 1)))
    case first =>
      rcases HNN.out with ⟨h, h2⟩ | ⟨h, h2⟩
      · subst h2
        have hm1 : (Instr.makeSlice 26 (.int .i64 1) (.int .i64 1)).run Try.prog w1 = .ok (.slice (some ⟨w1.heap.size, 0, none⟩) 1 1) (w1.alloc (madeSh 31 1)) := make_law 1 (by omega) w1
        go_wp2
        go_meet
        exact ⟨rfl, rfl⟩
      · subst h2
        have hm1 : (Instr.makeSlice 26 (.int .i64 ((N : Int) + 1)) (.int .i64 ((N : Int) + 1))).run Try.prog w1 = .ok (.slice (some ⟨w1.heap.size, 0, none⟩) (N + 1) (N + 1)) (w1.alloc (madeSh 31 (N + 1))) := make_law (N + 1) (by omega) w1
        go_wp2
        go_meet
        exact ⟨rfl, rfl⟩
    case rest =>
      obtain ⟨rfl, rfl⟩ := hcut
      obtain ⟨L, hL⟩ : ∃ L, L = w1.heap.size := ⟨_, rfl⟩
      rw [← hL] at HS0
      rw [← hL]
      obtain ⟨W, hW⟩ : ∃ W, W = w1.alloc (madeSh 31 (N + 1)) := ⟨_, rfl⟩
      rw [← hW] at HS0
      rw [← hW]
      clear hL hW HN R B HNN hA
      go_wp2_with fail
      go_loopw [8] (fun i wr => ∃ (k : Nat) (l : List Sh), i = .int .i64 k ∧ k ≤ qs.length ∧ k ≤ 60 ∧ Hid (AllS w wr P A L N (1 + k) l)) (fun i _ => 60 - (intOf i).toNat)
      case atStart => exact ⟨0, _, rfl, by omega, by omega, HS0⟩
      case round =>
        obtain ⟨k, l, rfl, hk, hk60, S⟩ := hrel
        clear HS0
        have hll : Hid (l.length = N) := S.out.len
        by_cases hlt : k < 60 ∧ k < qs.length
        · obtain ⟨h60, hlt⟩ := hlt
          have h60c : (k : Int) < 60 := by omega
          have hkc : (k : Int) < (qs.length : Int) := by omega
          obtain ⟨b, off, rfl, hbB, hcell⟩ := (HRQ.out.below S.out.be) (by omega)
          obtain ⟨q0, q1, q2, q3⟩ := hcell k hlt
          clear hcell
          obtain ⟨⟨z1, z2⟩, ⟨p1, p2⟩, ⟨i1, i2⟩, ⟨v1, v2⟩⟩ := HIN.out qs[k] (List.getElem_mem _)
          obtain ⟨q, hqe⟩ : ∃ q, qs[k] = q := ⟨_, rfl⟩
          rw [hqe] at q0 q1 q2 q3 z1 z2 p1 p2 i1 i2 v1 v2
          clear hqe
          obtain ⟨zk, p, i, v⟩ := q
          simp only at q0 q1 q2 q3 z1 z2 p1 p2 i1 i2 v1 v2
          obtain ⟨W1, hW1⟩ : ∃ W1, W1 = wr.alloc (.cells #[.int .i64 zk, .int .i64 p, .int .i64 i, .int .i32 v] 28) := ⟨_, rfl⟩
          have HO : Hid (W1.heap[wr.heap.size]? = some (.cells #[.int .i64 zk, .int .i64 p, .int .i64 i, .int .i32 v] 28 (0, 0))) := by rw [hW1]; exact heap_alloc_last wr _
          have S1 : Hid (AllS w W1 P A L N (1 + k) l) := by rw [hW1]; exact S.out.alloc _
          have hOL : wr.heap.size ≠ L := by have := S.out.sr.lt; omega
          have hOA : wr.heap.size ≠ A := by have := S.out.rm.row.lt; omega
          have hOW : wr.heap.size < W1.heap.size := by rw [hW1]; simp
          clear S
          go_upto_region 12 with fail
          rw [← hW1]
          clear hW1 q0 q1 q2 q3
          have o0 : W1.cell? ⟨wr.heap.size, 0, none⟩ = some (.int .i64 zk) := (cell_of_row _ _ _ _ _ _ HO.out).trans rfl
          have o1 : W1.cell? ⟨wr.heap.size, 1, none⟩ = some (.int .i64 p) := (cell_of_row _ _ _ _ _ _ HO.out).trans rfl
          have o2 : W1.cell? ⟨wr.heap.size, 2, none⟩ = some (.int .i64 i) := (cell_of_row _ _ _ _ _ _ HO.out).trans rfl
          have o3 : W1.cell? ⟨wr.heap.size, 3, none⟩ = some (.int .i32 v) := (cell_of_row _ _ _ _ _ _ HO.out).trans rfl
          go_cut [10] from 44 to 62 (fun s10 wx => s10 = .bool (inUse l p) ∧ wx = W1)
          case first =>
            as_aux_lemma =>
              by_cases g1 : p < 1
              · have HR : Hid (inUse l p = false) := inUse_f (by rw [pg_out l p (.inl g1)]; rfl)
                have g1' : ¬ p ≥ 1 := by omega
                go_wp2
                go_meet
                exact ⟨ret_v HR.out, rfl⟩
              · have g1' : p ≥ 1 := by omega
                by_cases g2 : p < (N : Int) + 1
                · obtain ⟨c, hpc⟩ : ∃ c : Nat, p = c + 1 := ⟨p.toNat - 1, by omega⟩
                  have hcN : c < N := by omega
                  have hc1 := S1.out.sr.ref (c + 1) (by simp only [List.length_cons]; rw [hll.out]; omega)
                  rw [shAt_cons] at hc1
                  have HPG := Lib.hid (pg_at l p c hpc)
                  have zp : p.toNat = c + 1 := by omega
                  have hr0 := (S1.out.bd c).1
                  have HPC := Lib.hid hpc
                  clear hpc
                  generalize hx : shAt l c = x at *
                  by_cases g3 : x.r > 0
                  · have HR : Hid (inUse l p = true) := inUse_t (by rw [HPG.out]; omega)
                    generalize x.r = r at *
                    go_wp2
                    go_meet
                    exact ⟨ret_v HR.out, rfl⟩
                  · have HR : Hid (inUse l p = false) := inUse_f (by rw [HPG.out]; omega)
                    generalize x.r = r at *
                    go_wp2
                    go_meet
                    exact ⟨ret_v HR.out, rfl⟩
                · have HR : Hid (inUse l p = false) := inUse_f (by rw [pg_out l p (.inr (by rw [hll.out]; omega))]; rfl)
                  go_wp2
                  go_meet
                  exact ⟨ret_v HR.out, rfl⟩
          case rest =>
            obtain ⟨rfl, rfl⟩ := hcut
            obtain ⟨W1, rfl⟩ : ∃ W1, W1 = wc := ⟨_, rfl⟩
            go_wp2_with fail
            go_loop [11, 12] (fun fv cv => ∃ (f c : Nat), fv = .int .i64 f ∧ cv = .int .i64 c ∧ c ≤ N ∧ f ≤ N ∧ Hid (FreeTo l N c f)) (fun _ cv => (intOf cv).toNat)
            case atStart => exact ⟨0, N, rfl, by first | rfl | go_num, by omega, by omega, FreeTo.start l N⟩
            case round =>
              obtain ⟨f, c', rfl, rfl, hcN, hfN, HF⟩ := hrel
              by_cases hc0 : c' = 0
              · subst hc0
                have HF0 := HF
                clear hcN
                go_upto_block 4 with fail
                go_cut [10, 11, 12, 13, 14, 15, 16, 17, 18] from 79 to 217 (fun s10 s11 s12 s13 s14 s15 s16 s17 s18 wx => ∃ l', Hid (AllS w wx P A L N (1 + k + 1) l'))
                case first =>
                  by_cases e0 : zk = 0
                  · subst e0
                    by_cases ef : f = 0
                    · as_aux_lemma =>
                      subst ef
                      obtain ⟨W2, hW2⟩ : ∃ W2, W2 = W1.alloc (.cells #[.int .i32 0, .int .i32 0, .int .i32 0, .int .i32 0, .int .i32 0, .int .i32 0, .int .i32 0, .int .i32 0] 29) := ⟨_, rfl⟩
                      have S2 : Hid (AllS w W2 P A L N (1 + k) l) := by rw [hW2]; exact S1.out.alloc _
                      have HV : Hid (W2.heap[W1.heap.size]? = some (.cells (onA zN) 29 (0, 0))) := by rw [hW2]; exact heap_alloc_last W1 _
                      have hVW : W1.heap.size < W2.heap.size := by rw [hW2]; simp
                      have hVA : W1.heap.size ≠ A := by have := S1.out.rm.row.lt; omega
                      have hVP : W1.heap.size ≠ P := by have := S1.out.rm.lt; omega
                      have hVL : W1.heap.size ≠ L := by have := S1.out.sr.lt; omega
                      have hVb : w.heap.size ≤ W1.heap.size := S1.out.be.size
                      have HT := Lib.hid (take_miss W2 P A l S2.out.rm (fun j hj => HF.out.none hll.out j hj))
                      clear HF HF0
                      go_upto_region 30 with fail
                      rw [← hW2]
                      have HO2 : Hid (W2.heap[wr.heap.size]? = W1.heap[wr.heap.size]?) := by rw [hW2]; exact Lib.alloc_old W1 _ _ hOW
                      clear hW2
                      have a0 : W2.cell? ⟨wr.heap.size, 0, none⟩ = _ := (World.cell?_of_block (w := W1) (a := ⟨wr.heap.size, 0, none⟩) HO2.out).trans o0
                      have a1 : W2.cell? ⟨wr.heap.size, 1, none⟩ = _ := (World.cell?_of_block (w := W1) (a := ⟨wr.heap.size, 1, none⟩) HO2.out).trans o1
                      clear o0 o1 o2 o3 HO2
                      go_wp2_with (go_at_call 10; with_reducible refine HT.out.mono ?_; rintro e w2 ⟨rfl, hb2⟩)
                      go_meet
                      exact ⟨l, Lib.hid ((S2.out.belows hb2).more (by omega))⟩
                    · as_aux_lemma =>
                      obtain ⟨d, hfd, hdN, hd0, hdb⟩ := HF.out.some ef
                      subst hfd
                      obtain ⟨dz, hdz⟩ : ∃ dz : Int, dz = ((d + 1 : Nat) : Int) := ⟨_, rfl⟩
                      have d0 : dz > 0 := by omega
                      have d1 : 0 ≤ dz := by omega
                      have d2 : dz < (N : Int) + 1 := by omega
                      have d3 : dz.toNat = d + 1 := by omega
                      rw [← hdz]
                      have hLd := S1.out.lc hdN
                      obtain ⟨W2, hW2⟩ : ∃ W2, W2 = W1.alloc (.cells #[.int .i32 0, .int .i32 0, .int .i32 0, .int .i32 0, .int .i32 0, .int .i32 0, .int .i32 0, .int .i32 0] 29) := ⟨_, rfl⟩
                      have S2 : Hid (AllS w W2 P A L N (1 + k) l) := by rw [hW2]; exact S1.out.alloc _
                      have HV : Hid (W2.heap[W1.heap.size]? = some (.cells (onA zN) 29 (0, 0))) := by rw [hW2]; exact heap_alloc_last W1 _
                      have hVW : W1.heap.size < W2.heap.size := by rw [hW2]; simp
                      have hVA : W1.heap.size ≠ A := by have := S1.out.rm.row.lt; omega
                      have hVP : W1.heap.size ≠ P := by have := S1.out.rm.lt; omega
                      have hVL : W1.heap.size ≠ L := by have := S1.out.sr.lt; omega
                      have hVb : w.heap.size ≤ W1.heap.size := S1.out.be.size
                      have HT := Lib.hid (take_hit W2 P A l S2.out.rm d (by rw [hll.out]; exact hdN) hd0 hdb dz (by omega) _ rfl)
                      have HDZ := Lib.hid hdz
                      clear hdz hd0 hdb HF HF0
                      go_upto_region 30 with fail
                      rw [← hW2]
                      have HO2 : Hid (W2.heap[wr.heap.size]? = W1.heap[wr.heap.size]?) := by rw [hW2]; exact Lib.alloc_old W1 _ _ hOW
                      clear hW2
                      have a0 : W2.cell? ⟨wr.heap.size, 0, none⟩ = _ := (World.cell?_of_block (w := W1) (a := ⟨wr.heap.size, 0, none⟩) HO2.out).trans o0
                      have a1 : W2.cell? ⟨wr.heap.size, 1, none⟩ = _ := (World.cell?_of_block (w := W1) (a := ⟨wr.heap.size, 1, none⟩) HO2.out).trans o1
                      clear o0 o1 o2 o3 HO2
                      go_wp2_with (first
                        | (go_at_call 10; with_reducible refine HT.out.mono ?_; rintro e w2 ⟨rfl, U⟩; obtain ⟨R2, G2, B2⟩ := S2.out.upd U; replace R2 := Lib.hid R2; replace G2 := Lib.hid G2; replace B2 := Lib.hid B2; replace HV := Lib.hid (U.blk HV.out hVW hVA); clear U)
                        | (with_reducible refine wpList_load_blk rfl 29 (.tmp 16) rfl W1.heap.size (by with_unfolding_all rfl) 29 zN HV.out Try.underlying29 infoArr ?_)
                        | (with_reducible refine wpList_build_law rfl (.tmp 173) rfl zN (by with_unfolding_all rfl) ?_)
                        | (with_reducible refine wpList_store_sh rfl 31 (.tmp 175) (.tmp 174) rfl L (d + 1) (by with_unfolding_all rfl) 31 (zS :: l) G2.out hLd ⟨1, zN⟩ (by with_unfolding_all rfl) infoLaw ?_; intro w5 G5 z5 g5; have Q := Lib.hid (S1.out.both hdN R2.out B2.out G5 g5 (by show (0 : Int) ≤ 1; omega) (by show (1 : Int) ≤ _; omega)); clear G5 z5 g5))
                      go_meet
                      exact ⟨_, Q⟩
                  · by_cases e4 : zk = 4
                    · subst e4
                      by_cases hin : (pg l p).r = 0
                      · rw [inUse_f hin]
                        by_cases ef : f = 0
                        · as_aux_lemma =>
                          subst ef
                          clear HF HF0
                          obtain ⟨W2, hW2⟩ : ∃ W2, W2 = W1.alloc (.cells #[.int .i32 0, .int .i32 0, .int .i32 0, .int .i32 0, .int .i32 0, .int .i32 0, .int .i32 0, .int .i32 0] 29) := ⟨_, rfl⟩
                          have S2 : Hid (AllS w W2 P A L N (1 + k) l) := by rw [hW2]; exact S1.out.alloc _
                          have HV : Hid (W2.heap[W1.heap.size]? = some (.cells (onA zN) 29 (0, 0))) := by rw [hW2]; exact heap_alloc_last W1 _
                          have hVW : W1.heap.size < W2.heap.size := by rw [hW2]; simp
                          have hVA : W1.heap.size ≠ A := by have := S1.out.rm.row.lt; omega
                          have hVP : W1.heap.size ≠ P := by have := S1.out.rm.lt; omega
                          have hVL : W1.heap.size ≠ L := by have := S1.out.sr.lt; omega
                          have hVb : w.heap.size ≤ W1.heap.size := S1.out.be.size
                          have HT := Lib.hid (copy_out W2 P A l S2.out.rm p hin)
                          clear hin
                          go_upto_region 30 with fail
                          rw [← hW2]
                          have HO2 : Hid (W2.heap[wr.heap.size]? = W1.heap[wr.heap.size]?) := by rw [hW2]; exact Lib.alloc_old W1 _ _ hOW
                          clear hW2
                          have a0 : W2.cell? ⟨wr.heap.size, 0, none⟩ = _ := (World.cell?_of_block (w := W1) (a := ⟨wr.heap.size, 0, none⟩) HO2.out).trans o0
                          have a1 : W2.cell? ⟨wr.heap.size, 1, none⟩ = _ := (World.cell?_of_block (w := W1) (a := ⟨wr.heap.size, 1, none⟩) HO2.out).trans o1
                          clear o0 o1 o2 o3 HO2
                          go_wp2_with (go_at_call 11; with_reducible refine HT.out.mono ?_; rintro e w2 ⟨rfl, hb2⟩)
                          go_meet
                          exact ⟨l, Lib.hid ((S2.out.belows hb2).more (by omega))⟩
                        · as_aux_lemma =>
                          have d0 : (f : Int) > 0 := by omega
                          clear HF HF0
                          obtain ⟨W2, hW2⟩ : ∃ W2, W2 = W1.alloc (.cells #[.int .i32 0, .int .i32 0, .int .i32 0, .int .i32 0, .int .i32 0, .int .i32 0, .int .i32 0, .int .i32 0] 29) := ⟨_, rfl⟩
                          have S2 : Hid (AllS w W2 P A L N (1 + k) l) := by rw [hW2]; exact S1.out.alloc _
                          have HV : Hid (W2.heap[W1.heap.size]? = some (.cells (onA zN) 29 (0, 0))) := by rw [hW2]; exact heap_alloc_last W1 _
                          have hVW : W1.heap.size < W2.heap.size := by rw [hW2]; simp
                          have hVA : W1.heap.size ≠ A := by have := S1.out.rm.row.lt; omega
                          have hVP : W1.heap.size ≠ P := by have := S1.out.rm.lt; omega
                          have hVL : W1.heap.size ≠ L := by have := S1.out.sr.lt; omega
                          have hVb : w.heap.size ≤ W1.heap.size := S1.out.be.size
                          have HT := Lib.hid (copy_out W2 P A l S2.out.rm p hin)
                          clear hin
                          go_upto_region 30 with fail
                          rw [← hW2]
                          have HO2 : Hid (W2.heap[wr.heap.size]? = W1.heap[wr.heap.size]?) := by rw [hW2]; exact Lib.alloc_old W1 _ _ hOW
                          clear hW2
                          have a0 : W2.cell? ⟨wr.heap.size, 0, none⟩ = _ := (World.cell?_of_block (w := W1) (a := ⟨wr.heap.size, 0, none⟩) HO2.out).trans o0
                          have a1 : W2.cell? ⟨wr.heap.size, 1, none⟩ = _ := (World.cell?_of_block (w := W1) (a := ⟨wr.heap.size, 1, none⟩) HO2.out).trans o1
                          clear o0 o1 o2 o3 HO2
                          go_wp2_with (go_at_call 11; with_reducible refine HT.out.mono ?_; rintro e w2 ⟨rfl, hb2⟩)
                          go_meet
                          exact ⟨l, Lib.hid ((S2.out.belows hb2).more (by omega))⟩
                      · rw [inUse_t hin]
                        by_cases ef : f = 0
                        · as_aux_lemma =>
                          subst ef
                          obtain ⟨c, hpc, hcl⟩ := pg_in hin
                          have hcN : c < N := by rw [← hll.out]; exact hcl
                          have hr0 : (shAt l c).r ≠ 0 := by rw [← pg_at l p c hpc]; exact hin
                          have hLc := S1.out.lc hcN
                          have hc1 := S1.out.sr.ref (c + 1) hLc
                          rw [shAt_cons] at hc1
                          have zp : p.toNat = c + 1 := by omega
                          have zp0 : 0 ≤ p := by omega
                          have zp2 : p < (N : Int) + 1 := by omega
                          have hbd := S1.out.bd c
                          obtain ⟨W2, hW2⟩ : ∃ W2, W2 = W1.alloc (.cells #[.int .i32 0, .int .i32 0, .int .i32 0, .int .i32 0, .int .i32 0, .int .i32 0, .int .i32 0, .int .i32 0] 29) := ⟨_, rfl⟩
                          have S2 : Hid (AllS w W2 P A L N (1 + k) l) := by rw [hW2]; exact S1.out.alloc _
                          have HV : Hid (W2.heap[W1.heap.size]? = some (.cells (onA zN) 29 (0, 0))) := by rw [hW2]; exact heap_alloc_last W1 _
                          have hVW : W1.heap.size < W2.heap.size := by rw [hW2]; simp
                          have hVA : W1.heap.size ≠ A := by have := S1.out.rm.row.lt; omega
                          have hVP : W1.heap.size ≠ P := by have := S1.out.rm.lt; omega
                          have hVL : W1.heap.size ≠ L := by have := S1.out.sr.lt; omega
                          have hVb : w.heap.size ≤ W1.heap.size := S1.out.be.size
                          have HT := Lib.hid (copy_miss W2 P A l S2.out.rm p (fun j hj => HF.out.none hll.out j hj))
                          have HPC := Lib.hid hpc
                          clear hpc hin hr0 hbd hc1 HF HF0
                          go_upto_region 30 with fail
                          rw [← hW2]
                          have HO2 : Hid (W2.heap[wr.heap.size]? = W1.heap[wr.heap.size]?) := by rw [hW2]; exact Lib.alloc_old W1 _ _ hOW
                          clear hW2
                          have a0 : W2.cell? ⟨wr.heap.size, 0, none⟩ = _ := (World.cell?_of_block (w := W1) (a := ⟨wr.heap.size, 0, none⟩) HO2.out).trans o0
                          have a1 : W2.cell? ⟨wr.heap.size, 1, none⟩ = _ := (World.cell?_of_block (w := W1) (a := ⟨wr.heap.size, 1, none⟩) HO2.out).trans o1
                          clear o0 o1 o2 o3 HO2
                          go_wp2_with (first
                            | (go_at_call 11; with_reducible refine HT.out.mono ?_; rintro e w2 ⟨rfl, hb2⟩; have S3 := Lib.hid (S2.out.belows hb2); have G2 := Lib.hid S3.out.sr; have HV0 := Lib.hid ((hb2.block W1.heap.size hVW).trans HV.out); have b1 : w2.cell? ⟨wr.heap.size, 1, none⟩ = _ := (hb2.cell (p := ⟨wr.heap.size, 1, none⟩) (by show wr.heap.size < _; omega)).trans a1; clear HV hb2 a0 a1)
                            | (with_reducible refine wpList_load_on rfl 29 (.tmp 149) rfl L (c + 1) (by with_unfolding_all rfl) 31 (zS :: l) G2.out hLc Try.underlying29 infoArr ?_)
                            | (with_reducible refine wpList_store_blk rfl 29 (.tmp 16) (.tmp 150) rfl W1.heap.size (by with_unfolding_all rfl) 29 (onA zN) (onA (shAt l c).on) HV0.out (by with_unfolding_all rfl) (onA_sz2 _ _) (infoArrOn _) (onA_one _) ?_; intro w4 H4 z4 g4; have HV := Lib.hid H4; have Q := Lib.hid ((S3.out.gro g4 hVA hVP hVL hVb).more (show 1 + k ≤ 1 + k + 1 by omega)); clear H4 z4 g4))
                          go_meet
                          exact ⟨l, Q⟩
                        · as_aux_lemma =>
                          obtain ⟨d, hfd, hdN, hd0, hdb⟩ := HF.out.some ef
                          subst hfd
                          obtain ⟨dz, hdz⟩ : ∃ dz : Int, dz = ((d + 1 : Nat) : Int) := ⟨_, rfl⟩
                          have d0 : dz > 0 := by omega
                          have d1 : 0 ≤ dz := by omega
                          have d2 : dz < (N : Int) + 1 := by omega
                          have d3 : dz.toNat = d + 1 := by omega
                          rw [← hdz]
                          have hLd := S1.out.lc hdN
                          obtain ⟨c, hpc, hcl⟩ := pg_in hin
                          have hcN : c < N := by rw [← hll.out]; exact hcl
                          have hr0 : (shAt l c).r ≠ 0 := by rw [← pg_at l p c hpc]; exact hin
                          have hLc := S1.out.lc hcN
                          have hc1 := S1.out.sr.ref (c + 1) hLc
                          rw [shAt_cons] at hc1
                          have zp : p.toNat = c + 1 := by omega
                          have zp0 : 0 ≤ p := by omega
                          have zp2 : p < (N : Int) + 1 := by omega
                          have hbd := S1.out.bd c
                          obtain ⟨W2, hW2⟩ : ∃ W2, W2 = W1.alloc (.cells #[.int .i32 0, .int .i32 0, .int .i32 0, .int .i32 0, .int .i32 0, .int .i32 0, .int .i32 0, .int .i32 0] 29) := ⟨_, rfl⟩
                          have S2 : Hid (AllS w W2 P A L N (1 + k) l) := by rw [hW2]; exact S1.out.alloc _
                          have HV : Hid (W2.heap[W1.heap.size]? = some (.cells (onA zN) 29 (0, 0))) := by rw [hW2]; exact heap_alloc_last W1 _
                          have hVW : W1.heap.size < W2.heap.size := by rw [hW2]; simp
                          have hVA : W1.heap.size ≠ A := by have := S1.out.rm.row.lt; omega
                          have hVP : W1.heap.size ≠ P := by have := S1.out.rm.lt; omega
                          have hVL : W1.heap.size ≠ L := by have := S1.out.sr.lt; omega
                          have hVb : w.heap.size ≤ W1.heap.size := S1.out.be.size
                          have HT := Lib.hid (copy_hit W2 P A l S2.out.rm p c hpc hcl hr0 d (by rw [hll.out]; exact hdN) hd0 hdb dz (by omega) _ rfl)
                          have HDZ := Lib.hid hdz
                          have HPC := Lib.hid hpc
                          clear hpc hin hr0 hbd hc1 hdz hd0 hdb HF HF0
                          go_upto_region 30 with fail
                          rw [← hW2]
                          have HO2 : Hid (W2.heap[wr.heap.size]? = W1.heap[wr.heap.size]?) := by rw [hW2]; exact Lib.alloc_old W1 _ _ hOW
                          clear hW2
                          have a0 : W2.cell? ⟨wr.heap.size, 0, none⟩ = _ := (World.cell?_of_block (w := W1) (a := ⟨wr.heap.size, 0, none⟩) HO2.out).trans o0
                          have a1 : W2.cell? ⟨wr.heap.size, 1, none⟩ = _ := (World.cell?_of_block (w := W1) (a := ⟨wr.heap.size, 1, none⟩) HO2.out).trans o1
                          clear o0 o1 o2 o3 HO2
                          go_wp2_with (first
                            | (go_at_call 11; with_reducible refine HT.out.mono ?_; rintro e w2 ⟨rfl, U⟩; obtain ⟨R2, G2, B2⟩ := S2.out.upd U; replace R2 := Lib.hid R2; replace G2 := Lib.hid G2; replace B2 := Lib.hid B2; have HV0 := Lib.hid (U.blk HV.out hVW hVA); have b1 : w2.cell? ⟨wr.heap.size, 1, none⟩ = _ := U.keep a1 hOA; clear U HV a0 a1)
                            | (with_reducible refine wpList_load_on rfl 29 (.tmp 149) rfl L (c + 1) (by with_unfolding_all rfl) 31 (zS :: l) G2.out hLc Try.underlying29 infoArr ?_)
                            | (with_reducible refine wpList_store_blk rfl 29 (.tmp 16) (.tmp 150) rfl W1.heap.size (by with_unfolding_all rfl) 29 (onA zN) (onA (shAt l c).on) HV0.out (by with_unfolding_all rfl) (onA_sz2 _ _) (infoArrOn _) (onA_one _) ?_; intro w4 H4 z4 g4; have HV := Lib.hid H4; replace R2 := Lib.hid (R2.out.gr1 g4 hVP hVA); replace G2 := Lib.hid (SR.gr1 G2.out g4 hVL); replace B2 := Lib.hid (below_gr1 B2.out g4 hVb); clear H4 z4 g4)
                            | (with_reducible refine wpList_load_blk rfl 29 (.tmp 16) rfl W1.heap.size (by with_unfolding_all rfl) 29 (shAt l c).on HV.out Try.underlying29 infoArr ?_)
                            | (with_reducible refine wpList_build_law rfl (.tmp 173) rfl (shAt l c).on (by with_unfolding_all rfl) ?_)
                            | (with_reducible refine wpList_store_sh rfl 31 (.tmp 175) (.tmp 174) rfl L (d + 1) (by with_unfolding_all rfl) 31 (zS :: l) G2.out hLd ⟨1, (shAt l c).on⟩ (by with_unfolding_all rfl) infoLaw ?_; intro w5 G5 z5 g5; have Q := Lib.hid (S1.out.both hdN R2.out B2.out G5 g5 (by show (0 : Int) ≤ 1; omega) (by show (1 : Int) ≤ _; omega)); clear G5 z5 g5))
                          go_meet
                          exact ⟨_, Q⟩
                    · by_cases e1 : zk = 1
                      · subst e1
                        by_cases hin : (pg l p).r = 0
                        · rw [inUse_f hin]
                          as_aux_lemma =>
                          clear HF HF0
                          have HT := Lib.hid (hold_out W1 P A l S1.out.rm p hin)
                          clear hin
                          go_wp2_with (go_at_call 12; with_reducible refine HT.out.mono ?_; rintro e w2 ⟨rfl, rfl⟩)
                          go_meet
                          exact ⟨l, Lib.hid (S1.out.more (by omega))⟩
                        · rw [inUse_t hin]
                          as_aux_lemma =>
                          clear HF HF0
                          obtain ⟨c, hpc, hcl⟩ := pg_in hin
                          have hcN : c < N := by rw [← hll.out]; exact hcl
                          have hr0 : (shAt l c).r ≠ 0 := by rw [← pg_at l p c hpc]; exact hin
                          have hLc := S1.out.lc hcN
                          have hc1 := S1.out.sr.ref (c + 1) hLc
                          rw [shAt_cons] at hc1
                          have zp : p.toNat = c + 1 := by omega
                          have zp0 : 0 ≤ p := by omega
                          have zp2 : p < (N : Int) + 1 := by omega
                          have hbd := S1.out.bd c
                          have HT := Lib.hid (hold_in W1 P A l S1.out.rm p c hpc hcl hr0 hbd.1 (by omega) _ rfl)
                          have HQ : Hid (∀ w2, Upd W1 w2 P A (l.set c ⟨(shAt l c).r + 1, (shAt l c).on⟩) → AllS w (w2.setCell ⟨L, (c + 1) * 9, none⟩ (.int .i64 ((shAt l c).r + 1))) P A L N (1 + k + 1) (l.set c ⟨(shAt l c).r + 1, (shAt l c).on⟩)) := fun w2 U => S1.out.refd hcN _ U (by omega) (by omega)
                          have HS : Hid (∀ w2 l2, Upd W1 w2 P A l2 → w2.cell? ⟨L, (c + 1) * 9, none⟩ = some (.int .i64 (shAt l c).r) ∧ w2.frozen? ⟨L, (c + 1) * 9, none⟩ = false) := fun w2 l2 U => ⟨(S1.out.upd U).2.1.ref (c + 1) hLc, (S1.out.upd U).2.1.frozen _⟩
                          have HPC := Lib.hid hpc
                          obtain ⟨x, hx⟩ : ∃ x, (shAt l c).r = x := ⟨_, rfl⟩
                          rw [hx] at hr0 hc1 hbd HQ HS HT
                          have hb0 := hbd.1
                          have hb1 : x ≤ 61 := by have := hbd.2; omega
                          clear hpc hin hbd hx hc1
                          go_wp2_with (go_at_call 12; with_reducible refine HT.out.mono ?_; rintro e w2 ⟨rfl, U⟩; obtain ⟨hs1, hs2⟩ := HS.out _ _ U; have b0 := U.keep o0 hOA; have b1 := U.keep o1 hOA; have Q := Lib.hid (HQ.out _ U); clear U o0 o1 o2 o3)
                          go_meet
                          exact ⟨_, Q⟩
                      · by_cases e2 : zk = 2
                        · subst e2
                          by_cases hin : (pg l p).r = 0
                          · rw [inUse_f hin]
                            as_aux_lemma =>
                            clear HF HF0
                            have HT := Lib.hid (drop_out W1 P A l S1.out.rm p hin)
                            clear hin
                            go_wp2_with (go_at_call 13; with_reducible refine HT.out.mono ?_; rintro e w2 ⟨rfl, rfl⟩)
                            go_meet
                            exact ⟨l, Lib.hid (S1.out.more (by omega))⟩
                          · rw [inUse_t hin]
                            as_aux_lemma =>
                            clear HF HF0
                            obtain ⟨c, hpc, hcl⟩ := pg_in hin
                            have hcN : c < N := by rw [← hll.out]; exact hcl
                            have hr0 : (shAt l c).r ≠ 0 := by rw [← pg_at l p c hpc]; exact hin
                            have hLc := S1.out.lc hcN
                            have hc1 := S1.out.sr.ref (c + 1) hLc
                            rw [shAt_cons] at hc1
                            have zp : p.toNat = c + 1 := by omega
                            have zp0 : 0 ≤ p := by omega
                            have zp2 : p < (N : Int) + 1 := by omega
                            have hbd := S1.out.bd c
                            have HT := Lib.hid (drop_in W1 P A l S1.out.rm p c hpc hcl hr0 hbd.1 (by omega) _ rfl)
                            have HQ : Hid (∀ w2, Upd W1 w2 P A (l.set c ⟨(shAt l c).r - 1, (shAt l c).on⟩) → AllS w (w2.setCell ⟨L, (c + 1) * 9, none⟩ (.int .i64 ((shAt l c).r - 1))) P A L N (1 + k + 1) (l.set c ⟨(shAt l c).r - 1, (shAt l c).on⟩)) := fun w2 U => S1.out.refd hcN _ U (by omega) (by omega)
                            have HS : Hid (∀ w2 l2, Upd W1 w2 P A l2 → w2.cell? ⟨L, (c + 1) * 9, none⟩ = some (.int .i64 (shAt l c).r) ∧ w2.frozen? ⟨L, (c + 1) * 9, none⟩ = false) := fun w2 l2 U => ⟨(S1.out.upd U).2.1.ref (c + 1) hLc, (S1.out.upd U).2.1.frozen _⟩
                            have HPC := Lib.hid hpc
                            obtain ⟨x, hx⟩ : ∃ x, (shAt l c).r = x := ⟨_, rfl⟩
                            rw [hx] at hr0 hc1 hbd HQ HS HT
                            have hb0 := hbd.1
                            have hb1 : x ≤ 61 := by have := hbd.2; omega
                            clear hpc hin hbd hx hc1
                            go_wp2_with (go_at_call 13; with_reducible refine HT.out.mono ?_; rintro e w2 ⟨rfl, U⟩; obtain ⟨hs1, hs2⟩ := HS.out _ _ U; have b0 := U.keep o0 hOA; have b1 := U.keep o1 hOA; have Q := Lib.hid (HQ.out _ U); clear U o0 o1 o2 o3)
                            go_meet
                            exact ⟨_, Q⟩
                        · by_cases hin : (pg l p).r = 0
                          · rw [inUse_f hin]
                            as_aux_lemma =>
                            clear HF HF0
                            have HT := Lib.hid (set_out W1 P A l S1.out.rm p i v (.inl hin))
                            clear hin
                            go_wp2_with (go_at_call 14; with_reducible refine HT.out.mono ?_; rintro e w2 ⟨rfl, rfl⟩)
                            go_meet
                            exact ⟨l, Lib.hid (S1.out.more (by omega))⟩
                          · rw [inUse_t hin]
                            by_cases h1 : (shAt l (p.toNat - 1)).r = 1
                            · by_cases g0 : i < 0
                              · as_aux_lemma =>
                                have g0' : ¬ i ≥ 0 := by omega
                                clear HF HF0
                                obtain ⟨c, hpc, hcl⟩ := pg_in hin
                                have hcN : c < N := by rw [← hll.out]; exact hcl
                                have hr0 : (shAt l c).r ≠ 0 := by rw [← pg_at l p c hpc]; exact hin
                                have hLc := S1.out.lc hcN
                                have hc1 := S1.out.sr.ref (c + 1) hLc
                                rw [shAt_cons] at hc1
                                have zp : p.toNat = c + 1 := by omega
                                have zp0 : 0 ≤ p := by omega
                                have zp2 : p < (N : Int) + 1 := by omega
                                have hbd := S1.out.bd c
                                rw [show p.toNat - 1 = c by omega] at h1
                                have HT := Lib.hid (set_out W1 P A l S1.out.rm p i v (.inr (.inr (by unfold nuB; simp; omega))))
                                rw [h1] at hc1
                                have HPC := Lib.hid hpc
                                clear hpc hin hbd h1 hr0
                                go_wp2_with (go_at_call 14; with_reducible refine HT.out.mono ?_; rintro e w2 ⟨rfl, rfl⟩)
                                go_meet
                                exact ⟨l, Lib.hid (S1.out.more (by omega))⟩
                              · by_cases g1 : i < 8
                                · as_aux_lemma =>
                                  have g0' : i ≥ 0 := by omega
                                  clear HF HF0
                                  obtain ⟨c, hpc, hcl⟩ := pg_in hin
                                  have hcN : c < N := by rw [← hll.out]; exact hcl
                                  have hr0 : (shAt l c).r ≠ 0 := by rw [← pg_at l p c hpc]; exact hin
                                  have hLc := S1.out.lc hcN
                                  have hc1 := S1.out.sr.ref (c + 1) hLc
                                  rw [shAt_cons] at hc1
                                  have zp : p.toNat = c + 1 := by omega
                                  have zp0 : 0 ≤ p := by omega
                                  have zp2 : p < (N : Int) + 1 := by omega
                                  have hbd := S1.out.bd c
                                  rw [show p.toNat - 1 = c by omega] at h1
                                  obtain ⟨j, hj⟩ : ∃ j : Nat, i = j := ⟨i.toNat, by omega⟩
                                  have h8 : j < 8 := by omega
                                  have zi : i.toNat = j := by omega
                                  have HT := Lib.hid (set_in W1 P A l S1.out.rm p i v c j hpc hcl h1 hj h8 _ rfl)
                                  have HQ : Hid (∀ w2, Upd W1 w2 P A (l.set c ⟨(shAt l c).r, shPut (shAt l c).on j v⟩) → AllS w (w2.setCell ⟨L, (c + 1) * 9 + 1 + j, none⟩ (.int .i32 v)) P A L N (1 + k + 1) (l.set c ⟨(shAt l c).r, shPut (shAt l c).on j v⟩)) := fun w2 U => S1.out.numd hcN j h8 v U
                                  have HS : Hid (∀ w2 l2, Upd W1 w2 P A l2 → w2.cell? ⟨L, (c + 1) * 9 + 1 + j, none⟩ = some (.int .i32 ((shAt l c).on j)) ∧ w2.frozen? ⟨L, (c + 1) * 9 + 1 + j, none⟩ = false) := fun w2 l2 U => ⟨(S1.out.upd U).2.1.num (c + 1) hLc j h8, (S1.out.upd U).2.1.frozen _⟩
                                  generalize (shAt l c).on j = y at HS
                                  rw [h1] at hc1
                                  have HPC := Lib.hid hpc
                                  have HJ := Lib.hid hj
                                  clear hpc hin hbd h1 hr0 hj
                                  go_upto_region 24 with (go_at_call 14; with_reducible refine HT.out.mono ?_; rintro e w2 ⟨rfl, U⟩; obtain ⟨hs1, hs2⟩ := HS.out _ _ U; have b1 := U.keep o1 hOA; have b2 := U.keep o2 hOA; have b3 := U.keep o3 hOA; have Q := Lib.hid (HQ.out _ U); clear U o0 o1 o2 o3)
                                  go_region
                                  go_wp2
                                  go_meet
                                  exact ⟨_, Lib.hid Q.out.drew⟩
                                · as_aux_lemma =>
                                  have g0' : i ≥ 0 := by omega
                                  clear HF HF0
                                  obtain ⟨c, hpc, hcl⟩ := pg_in hin
                                  have hcN : c < N := by rw [← hll.out]; exact hcl
                                  have hr0 : (shAt l c).r ≠ 0 := by rw [← pg_at l p c hpc]; exact hin
                                  have hLc := S1.out.lc hcN
                                  have hc1 := S1.out.sr.ref (c + 1) hLc
                                  rw [shAt_cons] at hc1
                                  have zp : p.toNat = c + 1 := by omega
                                  have zp0 : 0 ≤ p := by omega
                                  have zp2 : p < (N : Int) + 1 := by omega
                                  have hbd := S1.out.bd c
                                  rw [show p.toNat - 1 = c by omega] at h1
                                  have HT := Lib.hid (set_out W1 P A l S1.out.rm p i v (.inr (.inr (by unfold nuB; simp; omega))))
                                  rw [h1] at hc1
                                  have HPC := Lib.hid hpc
                                  clear hpc hin hbd h1 hr0
                                  go_wp2_with (go_at_call 14; with_reducible refine HT.out.mono ?_; rintro e w2 ⟨rfl, rfl⟩)
                                  go_meet
                                  exact ⟨l, Lib.hid (S1.out.more (by omega))⟩
                            · as_aux_lemma =>
                              clear HF HF0
                              obtain ⟨c, hpc, hcl⟩ := pg_in hin
                              have hcN : c < N := by rw [← hll.out]; exact hcl
                              have hr0 : (shAt l c).r ≠ 0 := by rw [← pg_at l p c hpc]; exact hin
                              have hLc := S1.out.lc hcN
                              have hc1 := S1.out.sr.ref (c + 1) hLc
                              rw [shAt_cons] at hc1
                              have zp : p.toNat = c + 1 := by omega
                              have zp0 : 0 ≤ p := by omega
                              have zp2 : p < (N : Int) + 1 := by omega
                              have hbd := S1.out.bd c
                              rw [show p.toNat - 1 = c by omega] at h1
                              have HT := Lib.hid (set_out W1 P A l S1.out.rm p i v (.inr (.inl (by rw [pg_at l p c hpc]; have := hbd.1; omega))))
                              obtain ⟨x, hx⟩ : ∃ x, (shAt l c).r = x := ⟨_, rfl⟩
                              rw [hx] at hr0 hc1 hbd h1
                              have hb0 := hbd.1
                              have HPC := Lib.hid hpc
                              clear hpc hin hbd hx
                              go_wp2_with (go_at_call 14; with_reducible refine HT.out.mono ?_; rintro e w2 ⟨rfl, rfl⟩)
                              go_meet
                              exact ⟨l, Lib.hid (S1.out.more (by omega))⟩
                case rest =>
                  obtain ⟨l', S2⟩ := hcut
                  clear S1 HO o0 o1 o2 o3 HF HF0
                  have HSm := Lib.hid (same_any wc P A L l' S2.out.rm S2.out.sr S2.out.hpos (N + 1) (by rw [S2.out.len]))
                  go_wp2_with (go_at_call 15; with_reducible refine HSm.out.mono ?_; rintro e w2 ⟨rfl, hb2⟩)
                  have S3 := Lib.hid (S2.out.belows hb2)
                  go_roundw
                  case rel => exact ⟨k + 1, l', by go_num, by omega, by omega, S3⟩
                  case measure => simp [intOf]; omega
              · as_aux_lemma =>
                obtain ⟨c, rfl⟩ : ∃ c, c' = c + 1 := ⟨c' - 1, by omega⟩
                have hc1 := S1.out.sr.ref (c + 1) (by simp only [List.length_cons]; rw [hll.out]; omega)
                obtain ⟨cz, hcz⟩ : ∃ cz : Int, cz = ((c + 1 : Nat) : Int) := ⟨_, rfl⟩
                have c1 : cz ≥ 1 := by omega
                have c2 : cz < (N : Int) + 1 := by omega
                have c3 : cz.toNat = c + 1 := by omega
                rw [← hcz]
                have HCZ := Lib.hid hcz
                clear hcz
                by_cases hr0 : (shAt (zS :: l) (c + 1)).r = 0
                · have HF2 := Lib.hid (HF.out.hit (by omega) hr0)
                  rw [hr0] at hc1
                  clear hr0
                  go_wp2
                  go_round
                  case rel => exact ⟨c + 1, c, by rw [HCZ.out], by have := HCZ.out; congr 1; omega, by omega, by omega, HF2⟩
                  case measure => simp [intOf]; omega
                · have HF2 := Lib.hid (HF.out.miss hr0)
                  generalize (shAt (zS :: l) (c + 1)).r = r at *
                  go_wp2
                  go_round
                  case rel => exact ⟨f, c, rfl, by have := HCZ.out; congr 1; omega, by omega, by omega, HF2⟩
                  case measure => simp [intOf]; omega
        · as_aux_lemma =>
          have HSm := Lib.hid (same_any wr P A L l S.out.rm S.out.sr S.out.hpos (N + 1) (by rw [hll.out]))
          by_cases h60 : k < 60
          · have h60c : (k : Int) < 60 := by omega
            have hkc : ¬ (k : Int) < (qs.length : Int) := by omega
            go_wp2_with (go_at_call 15; with_reducible refine HSm.out.mono ?_; rintro e w2 ⟨rfl, hb2⟩)
            go_ret
            exact ⟨rfl, S.out.be.trans (hb2.mono S.out.be.size)⟩
          · have h60c : ¬ (k : Int) < 60 := by omega
            by_cases hkq : k < qs.length
            · have hkc : (k : Int) < (qs.length : Int) := by omega
              go_wp2_with (go_at_call 15; with_reducible refine HSm.out.mono ?_; rintro e w2 ⟨rfl, hb2⟩)
              go_ret
              exact ⟨rfl, S.out.be.trans (hb2.mono S.out.be.size)⟩
            · have hkc : ¬ (k : Int) < (qs.length : Int) := by omega
              go_wp2_with (go_at_call 15; with_reducible refine HSm.out.mono ?_; rintro e w2 ⟨rfl, hb2⟩)
              go_ret
              exact ⟨rfl, S.out.be.trans (hb2.mono S.out.be.size)⟩
end Go.Proofs.Ytfpoeilamfcmjaa
