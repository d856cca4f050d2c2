/- THE WALKS of take, takeOp. -/
import Derived.Test.YtjjhdbcekkmjfaaOb
import Derived.LoopN
namespace Go.Proofs.Ytjjhdbcekkmjfaa
open Go.RowKit
set_option linter.unusedVariables false

theorem numN_ok {l : List UInt8} {u k : Nat} (h : getN l = .ok u k) : numN l = some (zag u, l.drop k) := by unfold numN; rw [h]
set_option maxHeartbeats 1000000 in
theorem take_none (A : Option Addr) (l : List UInt8) (cap B : Nat) (w : World) (hr : RB w B A l) (hc : l.length ≤ cap) (hm : cap ≤ maxLen) (h : numN l = none) :
    Calls Try.prog 34 #[.slice A l.length cap] w fun e w' => e = .returned (.tuple #[.int .i64 0, .slice none 0 0, .bool false]) ∧ Below w.heap.size w w' := by
  have hg : (∃ t : Value, ∃ n : Int, gotV (getN l) = .tuple #[.int .i64 0, .int .i64 0, .int .i64 n] ∧ (n = 1 ∨ n = 2)) := by
    unfold numN at h
    cases hg : getN l with
    | more => exact ⟨undef, 2, rfl, .inr rfl⟩
    | form => exact ⟨undef, 1, rfl, .inl rfl⟩
    | ok u k => rw [hg] at h; cases h
  obtain ⟨_, n, hn, ht⟩ := hg
  have HG := Lib.hid (get_any A l cap B w hr hc hm)
  rw [hn] at HG
  clear hn h hr
  rcases ht with rfl | rfl
  all_goals
    go_enter Try.func34, Try.ntmps34
    go_wp2_with fail
    refine HG.out.mono ?_
    rintro e w' ⟨rfl, rfl⟩
    go_wp2
    go_ret3
    exact ⟨rfl, Below.refl _ _⟩
set_option maxHeartbeats 1000000 in
theorem take_some (A : Option Addr) (l : List UInt8) (cap B : Nat) (w : World) (hr : RB w B A l) (hc : l.length ≤ cap) (hm : cap ≤ maxLen) (n : Int) (r : List UInt8) (h : numN l = some (n, r)) :
    Calls Try.prog 34 #[.slice A l.length cap] w fun e w' => ∃ A2 cap2, e = .returned (.tuple #[.int .i64 n, .slice A2 r.length cap2, .bool true]) ∧ RB w' B A2 r ∧ r.length ≤ cap2 ∧ cap2 ≤ maxLen ∧ Below w.heap.size w w' := by
  have hg : ∃ u k, getN l = .ok u k := by
    unfold numN at h
    cases hg : getN l with
    | more => rw [hg] at h; cases h
    | form => rw [hg] at h; cases h
    | ok u k => exact ⟨u, k, rfl⟩
  obtain ⟨u, k, hg⟩ := hg
  rw [numN_ok hg] at h
  simp only [Option.some.injEq, Prod.mk.injEq] at h
  obtain ⟨rfl, rfl⟩ := h
  have HG := Lib.hid (get_any A l cap B w hr hc hm)
  rw [hg] at HG
  obtain ⟨g1, g2, g3, g4, g5⟩ := getN_got l u k hg
  clear g3
  have hz := zag_in u g1
  have hk10 : k ≤ 10 := by rw [g2]; exact putN_len _ hz
  obtain ⟨b, off, rfl, hb, _⟩ := hr (by omega)
  have r1 := hr.cut k cap (by omega) hc
  have hl : (l.drop k).length = l.length - k := by rw [List.length_drop]
  clear g1 g2 hg hz hr
  have k0 : (0 : Int) ≤ (k : Int) := by omega
  have k1 : (k : Int) ≤ (l.length : Int) := by omega
  have k2 : (l.length : Int) ≤ (cap : Int) := by omega
  have k3 : (k : Int) ≤ (cap : Int) := by omega
  have HL := Lib.hid hl; clear hl
  by_cases hcap : cap = k
  · rw [if_pos hcap] at r1
    subst hcap
    have HR := Lib.hid r1; clear r1
    go_enter Try.func34, Try.ntmps34
    go_wp2_with fail
    refine HG.out.mono ?_
    rintro e w' ⟨rfl, rfl⟩
    rw [gotV]
    go_wp2
    go_quiet (fail)
    go_wp2
    go_ret3
    have h0 : l.length - cap = 0 := by omega
    rw [HL.out, h0]
    exact ⟨_, 0, rfl, HR.out.below (below_drewN (Below.refl _ _) _), Nat.le_refl _, by omega, below_drewN (Below.refl _ _) _⟩
  · rw [if_neg hcap] at r1
    simp only [Option.map_some, Addr.add_lit] at r1
    have HR := Lib.hid r1; clear r1
    go_enter Try.func34, Try.ntmps34
    go_wp2_with fail
    refine HG.out.mono ?_
    rintro e w' ⟨rfl, rfl⟩
    rw [gotV]
    go_wp2
    go_quiet (fail)
    go_wp2
    go_ret3
    rw [HL.out]
    exact ⟨_, cap - k, rfl, HR.out.below (below_drewN (Below.refl _ _) _), by omega, by omega, below_drewN (Below.refl _ _) _⟩

/-- an operation of which k numbers x were read -/
def opR (k : Nat) (x : Nat → Int) (l : List UInt8) : Option (O4 × List UInt8) := match k with
  | 0 => opN l
  | 1 => opK1 (x 0) l
  | 2 => opK2 (x 0) (x 1) l
  | 3 => opK3 (x 0) (x 1) (x 2) l
  | _ => some (⟨x 0, x 1, x 2, x 3⟩, l)
def upd (x : Nat → Int) (k : Nat) (n : Int) (j : Nat) : Int := if j = k then n else x j
theorem opR_some {k : Nat} (x : Nat → Int) {l r : List UInt8} {n : Int} (hk : k < 4) (h : numN l = some (n, r)) : opR k x l = opR (k + 1) (upd x k n) r := by
  obtain rfl | rfl | rfl | rfl : k = 0 ∨ k = 1 ∨ k = 2 ∨ k = 3 := by omega
  all_goals simp [opR, opN, opK1, opK2, opK3, h, upd]
theorem opR_none {k : Nat} (x : Nat → Int) {l : List UInt8} (hk : k < 4) (h : numN l = none) : opR k x l = none := by
  obtain rfl | rfl | rfl | rfl : k = 0 ∨ k = 1 ∨ k = 2 ∨ k = 3 := by omega
  all_goals simp [opR, opN, opK1, opK2, opK3, h]
theorem opR_all (x : Nat → Int) (l : List UInt8) : opR 4 x l = some (⟨x 0, x 1, x 2, x 3⟩, l) := rfl
def intF (x : Nat → Int) (i : Nat) : Value := .int .i64 (x i)
def zeroO : O4 := ⟨0, 0, 0, 0⟩
/-- takeOp's answer -/
def TakenOp (l : List UInt8) (B : Nat) (w : World) (e : Ending) (w' : World) : Prop := match opN l with
  | none => e = .returned (.tuple #[opV zeroO, .slice none 0 0, .bool false]) ∧ Below w.heap.size w w'
  | some (o, r) => ∃ A2 cap2, e = .returned (.tuple #[opV o, .slice A2 r.length cap2, .bool true]) ∧ RB w' B A2 r ∧ r.length ≤ cap2 ∧ cap2 ≤ maxLen ∧ Below w.heap.size w w'
theorem rowIs_below {w w' : World} {B b n : Nat} {t : TypeId} {f : Nat → Value} (h : w.rowIs b t n f) (hb : Below B w w') (hB : b < B) : w'.rowIs b t n f := h.of_block (hb.block b hB)
theorem zeros4 (w : World) (t : TypeId) : (w.alloc (.cells #[.int .i64 0, .int .i64 0, .int .i64 0, .int .i64 0] t)).rowIs w.heap.size t 4 (intF fun _ => 0) :=
  World.rowIs_alloc w _ t _ (fun i hi => by
    have hi : i < 4 := hi
    obtain rfl | rfl | rfl | rfl : i = 0 ∨ i = 1 ∨ i = 2 ∨ i = 3 := by omega
    all_goals rfl)
set_option maxHeartbeats 2000000 in
theorem takeOp_any (A : Option Addr) (l : List UInt8) (cap B : Nat) (w : World) (hr : RB w B A l) (hB : B ≤ w.heap.size) (hc : l.length ≤ cap) (hm : cap ≤ maxLen) :
    Calls Try.prog 35 #[.slice A l.length cap] w (TakenOp l B w) := by
  have HR := Lib.hid hr; clear hr
  have b0 : Below w.heap.size w ((w.alloc (.cells #[.int .i64 0, .int .i64 0, .int .i64 0, .int .i64 0] 37)).alloc (.cells #[.int .i64 0, .int .i64 0, .int .i64 0, .int .i64 0] 44)) := ((Below.refl _ _).alloc (Nat.le_refl _) _).alloc (by simp) _
  have z1 := (zeros4 w 37).alloc (.cells #[.int .i64 0, .int .i64 0, .int .i64 0, .int .i64 0] 44)
  have z2 := zeros4 (w.alloc (.cells #[.int .i64 0, .int .i64 0, .int .i64 0, .int .i64 0] 37)) 44
  rw [World.size_alloc] at z2
  have Z1 := Lib.hid z1; have Z2 := Lib.hid z2; clear z1 z2
  have HR0 := Lib.hid (HR.out.below (b0.mono hB)); clear HR
  go_enter Try.func35, Try.ntmps35
  go_wp2_with fail
  go_loopw [0, 10] (fun s i wr => ∃ (k : Nat) (x : Nat → Int) (A1 : Option Addr) (l1 : List UInt8) (cap1 : Nat), i = .int .i64 k ∧ k ≤ 4 ∧ s = .slice A1 l1.length cap1 ∧ l1.length ≤ cap1 ∧ cap1 ≤ maxLen ∧ Hid (RB wr B A1 l1) ∧
      Hid (wr.rowIs w.heap.size 37 4 (intF fun _ => 0)) ∧ Hid (wr.rowIs (w.heap.size + 1) 44 4 (intF x)) ∧ Below w.heap.size w wr ∧ Hid (opN l = opR k x l1)) (fun _ i _ => 4 - (intOf i).toNat)
  case atStart => exact ⟨0, fun _ => 0, A, l, cap, rfl, by omega, rfl, hc, hm, HR0, Z1, Z2, b0, rfl⟩
  case round =>
    obtain ⟨k, x, A1, l1, cap1, rfl, hk, rfl, hc1, hm1, hr, r1, r2, hb, hp⟩ := hrel
    clear b0 HR0 Z1 Z2
    have hsz2 : w.heap.size + 1 < wr.heap.size := r2.out.lt
    by_cases hlt : k < 4
    · cases hn : numN l1 with
      | none =>
        have HP := Lib.hid (show opN l = none by rw [hp.out]; exact opR_none x hlt hn)
        have HT := Lib.hid (take_none A1 l1 cap1 B wr hr.out hc1 hm1 hn)
        clear hn
        go_wp2_with fail
        refine HT.out.mono ?_
        rintro e w1 ⟨rfl, hb1⟩
        have c1 := rowIs_below r1.out hb1 (by omega)
        have c10 := c1.cell (show 0 < 4 by omega); have c11 := c1.cell (show 1 < 4 by omega); have c12 := c1.cell (show 2 < 4 by omega); have c13 := c1.cell (show 3 < 4 by omega)
        have f0 := c1.frozen 0; have f1 := c1.frozen 1; have f2 := c1.frozen 2; have f3 := c1.frozen 3
        have hb2 := hb.trans (hb1.mono hb.size)
        clear c1
        unfold intF at c10 c11 c12 c13
        go_wp2
        refine bodyPost_ret (v := .tuple #[.agg #[.int .i64 0, .int .i64 0, .int .i64 0, .int .i64 0], .slice none 0 0, .bool false]) (by simp [results, Try.results35, go_sem, c10, c11, c12, c13]) rfl ?_
        unfold TakenOp
        rw [HP.out]
        refine ⟨rfl, ?_⟩
        first | exact hb2 | (repeat (refine Below.setCell ?_ (by simp) _)); exact hb2
      | some q =>
        obtain ⟨n, r⟩ := q
        have HP := Lib.hid (show opN l = opR (k + 1) (upd x k n) r by rw [hp.out]; exact opR_some x hlt hn)
        have HT := Lib.hid (take_some A1 l1 cap1 B wr hr.out hc1 hm1 n r hn)
        clear hn
        go_wp2_with fail
        refine HT.out.mono ?_
        rintro e w1 ⟨A2, cap2, rfl, h1, h2, h3, hb1⟩
        have c1 := rowIs_below r1.out hb1 (by omega)
        have c2 := rowIs_below r2.out hb1 (by omega)
        have cc := c2.cell (show k < 4 by omega); have ff := c2.frozen k
        have hb2 := hb.trans (hb1.mono hb.size)
        have H1 := Lib.hid h1; have C1 := Lib.hid c1; have C2 := Lib.hid c2
        clear h1 c1 c2
        go_wp2
        go_roundw
        case rel =>
          refine ⟨k + 1, upd x k n, A2, r, cap2, by go_num, by omega, rfl, h2, h3, ?_, C1.out.setOther (by simp) _, (C2.out.set k _).congr (fun i _ => ?_), hb2.setCell (by simp) _, HP⟩
          · exact H1.out.below ((Below.refl _ _).setCell (by simp; omega) _)
          · unfold intF upd
            by_cases e : i = k
            · simp [e]
            · simp [e]
        case measure => simp [intOf]; omega
    · obtain rfl : k = 4 := by omega
      have c1 := r1.out
      have c2 := r2.out
      have HP := Lib.hid (show opN l = some (⟨x 0, x 1, x 2, x 3⟩, l1) by rw [hp.out]; rfl)
      have c10 := c1.cell (show 0 < 4 by omega); have c11 := c1.cell (show 1 < 4 by omega); have c12 := c1.cell (show 2 < 4 by omega); have c13 := c1.cell (show 3 < 4 by omega)
      have c20 := c2.cell (show 0 < 4 by omega); have c21 := c2.cell (show 1 < 4 by omega); have c22 := c2.cell (show 2 < 4 by omega); have c23 := c2.cell (show 3 < 4 by omega)
      unfold intF at c10 c11 c12 c13 c20 c21 c22 c23
      have f0 := c1.frozen 0; have f1 := c1.frozen 1; have f2 := c1.frozen 2; have f3 := c1.frozen 3
      clear c1 c2
      go_wp2_with fail
      refine (join_any ⟨x 0, x 1, x 2, x 3⟩ _).mono ?_
      rintro e w1 ⟨rfl, hb1⟩
      unfold opV
      have d1 := rowIs_below r1.out hb1 (by omega)
      have d10 := d1.cell (show 0 < 4 by omega); have d11 := d1.cell (show 1 < 4 by omega); have d12 := d1.cell (show 2 < 4 by omega); have d13 := d1.cell (show 3 < 4 by omega)
      have g0 := d1.frozen 0; have g1 := d1.frozen 1; have g2 := d1.frozen 2; have g3 := d1.frozen 3
      unfold intF at d10 d11 d12 d13
      have hb2 := hb.trans (hb1.mono hb.size)
      have H1 := Lib.hid (hr.out.below (hb1.mono (by omega)))
      clear d1 c10 c11 c12 c13 c20 c21 c22 c23 f0 f1 f2 f3
      go_wp2
      refine bodyPost_ret (v := .tuple #[.agg #[.int .i64 (x 0), .int .i64 (x 1), .int .i64 (x 2), .int .i64 (x 3)], .slice A1 l1.length cap1, .bool true]) (by simp [results, Try.results35, go_sem, d10, d11, d12, d13]) rfl ?_
      unfold TakenOp
      rw [HP.out]
      have bz : Below w.heap.size w1 ((((w1.setCell ⟨w.heap.size, 0, none⟩ (.int .i64 (x 0))).setCell ⟨w.heap.size, 1, none⟩ (.int .i64 (x 1))).setCell ⟨w.heap.size, 2, none⟩ (.int .i64 (x 2))).setCell ⟨w.heap.size, 3, none⟩ (.int .i64 (x 3))) :=
        ((((Below.refl _ _).setCell (by simp) _).setCell (by simp) _).setCell (by simp) _).setCell (by simp) _
      exact ⟨A1, cap1, rfl, H1.out.below (bz.mono hB), hc1, hm1, hb2.trans bz⟩
end Go.Proofs.Ytjjhdbcekkmjfaa
