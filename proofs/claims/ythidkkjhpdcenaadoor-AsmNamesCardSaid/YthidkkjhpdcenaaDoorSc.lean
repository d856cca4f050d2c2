/- WALKS over package asm: parseNumbers. -/
import Derived.Test.YthidkkjhpdcenaaDoorSb
import Derived.Test.YthidkkjhpdcenaaDoorOe
namespace Go.Proofs.YthidkkjhpdcenaaDoor
set_option maxRecDepth 100000
open Go.RowKit
set_option linter.unusedVariables false

/-- A slice value at A reads as the strings l, below block B. -/
def RS (w : World) (B : Nat) (A : Option Addr) (l : List (List UInt8)) : Prop :=
  0 < l.length → ∃ b off, A = some ⟨b, off, none⟩ ∧ b < B ∧ ∀ j (h : j < l.length), w.cell? ⟨b, off + j, none⟩ = some (.string (str l[j]))
theorem RS.below {w w' : World} {B : Nat} {A : Option Addr} {l : List (List UInt8)} (h : RS w B A l) (hb : Below B w w') : RS w' B A l := fun h0 => by
  obtain ⟨b, off, e, hlt, hc⟩ := h h0
  exact ⟨b, off, e, hlt, fun j hj => (hb.cell (p := ⟨b, off + j, none⟩) hlt).trans (hc j hj)⟩
theorem RS.more {w : World} {B B' : Nat} {A : Option Addr} {l : List (List UInt8)} (h : RS w B A l) (hB : B ≤ B') : RS w B' A l := fun h0 => by
  obtain ⟨b, off, e, hlt, hc⟩ := h h0
  exact ⟨b, off, e, by omega, hc⟩
theorem RS.own {w : World} {base : Nat} {A : Option Addr} {n cap : Nat} {l : List (List UInt8)} (h : w.ownsRow base 9 1 (.slice A n cap) n (wcell l)) (hn : l.length = n) : RS w w.heap.size A l := fun h0 => by
  obtain ⟨g, cap', hv, hg1, hg2⟩ := h.form (by omega)
  injection hv with hA _ hcp
  subst hA hcp
  refine ⟨g, 0, rfl, hg2, fun j hj => ?_⟩
  have e := h.cellAt j (by rw [← hn]; omega)
  rw [wcell_at hj] at e
  rw [Nat.zero_add]
  exact e

theorem numsL_append : ∀ (a b : List (List UInt8)), numsL (a ++ b) = (numsL a).bind fun x => (numsL b).map (x ++ ·)
  | [], b => by
    show numsL b = (numsL b).map _
    cases numsL b <;> rfl
  | w :: a, b => by
    rw [List.cons_append, numsL, numsL]
    cases numT (str w) with
    | none => rfl
    | some n =>
      simp only
      rw [numsL_append a b]
      cases numsL a with
      | none => rfl
      | some x =>
        simp only [Option.bind_some]
        cases numsL b <;> rfl
theorem numsL_stop {l : List (List UInt8)} {k : Nat} (h : k < l.length) (hn : numT (str l[k]) = none) : numsL l = none := by
  have e : l = l.take k ++ (l[k] :: l.drop (k + 1)) := by rw [← List.drop_eq_getElem_cons h, List.take_append_drop]
  have e2 : numsL (l[k] :: l.drop (k + 1)) = none := by rw [numsL, hn]
  rw [e, numsL_append, e2]
  cases numsL (l.take k) <;> rfl
theorem numsL_step {l : List (List UInt8)} {k : Nat} {ms : List Int} {n : Int} (h : k < l.length) (hm : numsL (l.take k) = some ms) (hn : numT (str l[k]) = some n) : numsL (l.take (k + 1)) = some (ms ++ [n]) := by
  rw [List.take_succ_eq_append_getElem h, numsL_append, hm]
  simp only [Option.bind_some]
  rw [numsL, hn]
  rfl
/-- x holds the numbers ms, and noughts behind them -/
def holdsN (x : Nat → Int) (ms : List Int) : Prop := ∀ i, x i = ms.getD i 0
theorem holdsN.step {x : Nat → Int} {ms : List Int} (h : holdsN x ms) (n : Int) (k : Nat) (hk : ms.length = k) : holdsN (upd x k n) (ms ++ [n]) := by
  intro i
  subst hk
  unfold upd
  by_cases e : i = ms.length
  · rw [if_pos e, e, List.getD, List.getElem?_append_right (Nat.le_refl _)]; simp
  · rw [if_neg e, h i, List.getD, List.getD]
    by_cases e2 : i < ms.length
    · rw [List.getElem?_append_left e2]
    · rw [List.getElem?_eq_none (by omega), List.getElem?_eq_none (by simp; omega)]

/-- what parseNumbers answers -/
def NumsOut (l : List (List UInt8)) (many : Nat) (w : World) (e : Ending) (w' : World) : Prop :=
  ∃ (x : Nat → Int) (b : Bool), e = .returned (.tuple #[.agg #[.int .i64 (x 0), .int .i64 (x 1), .int .i64 (x 2)], .bool b]) ∧ Below w.heap.size w w' ∧
    (b = true → l.length = many ∧ ∃ ms, numsL l = some ms ∧ holdsN x ms) ∧ (b = false → ¬ l.length = many ∨ numsL l = none)
theorem zeros3 (w : World) (t : TypeId) : (w.alloc (.cells #[.int .i64 0, .int .i64 0, .int .i64 0] t)).rowIs w.heap.size t 3 (intF fun _ => 0) :=
  World.rowIs_alloc w _ t _ (fun i hi => by
    have hi : i < 3 := hi
    obtain rfl | rfl | rfl : i = 0 ∨ i = 1 ∨ i = 2 := by omega
    all_goals rfl)

set_option maxHeartbeats 4000000 in
theorem parsenumbers_any (A : Option Addr) (l : List (List UInt8)) (cap B many : Nat) (w : World) (hr : RS w B A l) (hB : B ≤ w.heap.size) (hc : l.length ≤ cap) (hm : cap ≤ maxLen) (h3 : many ≤ 3) (hz : ∀ j (h : j < l.length), (str l[j]).size ≤ maxLen) :
    Calls Tryd.prog 45 #[.slice A l.length cap, .int .i64 (many : Int)] w (NumsOut l many w) := by
  have HR := Lib.hid hr; clear hr
  have HZ := Lib.hid hz; clear hz
  unfold maxLen at hm
  have b0 : Below w.heap.size w ((w.alloc (.cells #[.int .i64 0, .int .i64 0, .int .i64 0] 62)).alloc (.cells #[.int .i64 0, .int .i64 0, .int .i64 0] 62)) := ((Below.refl _ _).alloc (Nat.le_refl _) _).alloc (by simp) _
  have z1 := (zeros3 w 62).alloc (.cells #[.int .i64 0, .int .i64 0, .int .i64 0] 62)
  have z2 := zeros3 (w.alloc (.cells #[.int .i64 0, .int .i64 0, .int .i64 0] 62)) 62
  rw [World.size_alloc] at z2
  have Z1 := Lib.hid z1; have Z2 := Lib.hid z2; clear z1 z2
  have HR0 := Lib.hid (HR.out.below (b0.mono hB)); clear HR
  by_cases hlen : l.length = many
  · have hq : ((l.length : Int) != (many : Int)) = false := by simp [hlen]
    have hl3 : l.length ≤ 3 := by omega
    have HL := Lib.hid hlen; clear hlen
    go_enter Tryd.func45, Tryd.ntmps45
    go_wp2_with fail
    go_loopw [18] (fun i wr => ∃ (k : Nat) (x : Nat → Int) (ms : List Int), i = .int .i64 k ∧ k ≤ l.length ∧ Hid (RS wr B A l) ∧
        Hid (wr.rowIs w.heap.size 62 3 (intF fun _ => 0)) ∧ Hid (wr.rowIs (w.heap.size + 1) 62 3 (intF x)) ∧ Below w.heap.size w wr ∧ Hid (numsL (l.take k) = some ms) ∧ Hid (holdsN x ms)) (fun i _ => l.length - (intOf i).toNat)
    case atStart => exact ⟨0, fun _ => 0, [], rfl, by omega, HR0, Z1, Z2, b0, rfl, fun i => by simp⟩
    case round =>
      obtain ⟨k, x, ms, rfl, hk, hr, r1, r2, hb, hp, hx⟩ := hrel
      clear b0 HR0 Z1 Z2
      have hsz2 : w.heap.size + 1 < wr.heap.size := r2.out.lt
      have HK := Lib.hid (show ms.length = k by rw [numsL_len hp.out, List.length_take]; omega)
      by_cases hlt : k < l.length
      · obtain ⟨b, off, rfl, hbB, hcell⟩ := hr.out (by omega)
        have q1 := hcell k hlt
        clear hcell
        have hkc : (k : Int) < (l.length : Int) := by omega
        have hk3 : (k : Int) < 3 := by omega
        have HN := Lib.hid (fun W => number_any (str l[k]) W (HZ.out k hlt))
        obtain ⟨s, hs⟩ : ∃ s, str l[k] = s := ⟨_, rfl⟩
        cases hn : numT (str l[k]) with
        | none =>
          have HF := Lib.hid (numsL_stop hlt hn)
          rw [hn] at HN
          rw [hs] at HN q1
          clear hn hs
          go_wp2_with fail
          refine (HN.out _).mono ?_
          rintro e w1 ⟨rfl, hb1⟩
          rw [numVal]
          have c1 := rowIs_below r1.out hb1 (by omega)
          have c2 := rowIs_below r2.out hb1 (by omega)
          have c20 := c2.cell (show 0 < 3 by omega); have c21 := c2.cell (show 1 < 3 by omega); have c22 := c2.cell (show 2 < 3 by omega)
          have c10 := c1.cell (show 0 < 3 by omega); have c11 := c1.cell (show 1 < 3 by omega); have c12 := c1.cell (show 2 < 3 by omega)
          have f0 := c1.frozen 0; have f1 := c1.frozen 1; have f2 := c1.frozen 2
          have hb2 := hb.trans (hb1.mono hb.size)
          clear c1 c2 r1 r2
          unfold intF at c10 c11 c12 c20 c21 c22
          go_wp2
          refine bodyPost_ret (v := .tuple #[.agg #[.int .i64 (x 0), .int .i64 (x 1), .int .i64 (x 2)], .bool false]) (by simp [results, Tryd.results45, go_sem, c10, c11, c12]) rfl ?_
          refine ⟨x, false, rfl, ?_, (fun h => by cases h), fun _ => .inr HF.out⟩
          first | exact hb2 | ((repeat (refine Below.setCell ?_ (by simp) _)); exact hb2)
        | some n =>
          have HP := Lib.hid (numsL_step hlt hp.out hn)
          have HX := Lib.hid (hx.out.step n k HK.out)
          rw [hn] at HN
          rw [hs] at HN q1
          clear hn hs
          go_wp2_with fail
          refine (HN.out _).mono ?_
          rintro e w1 ⟨rfl, hb1⟩
          rw [numVal]
          have c1 := rowIs_below r1.out hb1 (by omega)
          have c2 := rowIs_below r2.out hb1 (by omega)
          have cc := c2.cell (show k < 3 by omega); have ff := c2.frozen k
          have hb2 := hb.trans (hb1.mono hb.size)
          have H1 := Lib.hid (hr.out.below (hb1.mono (by omega))); have C1 := Lib.hid c1; have C2 := Lib.hid c2
          clear c1 c2 r1 r2 hr
          go_wp2
          go_roundw
          case rel =>
            refine ⟨k + 1, upd x k n, ms ++ [n], by go_num, by omega, H1.out.below ((Below.refl _ _).setCell (by simp; omega) _), C1.out.setOther (by simp) _, (C2.out.set k _).congr (fun i _ => ?_), hb2.setCell (by simp) _, HP, HX⟩
            unfold intF upd
            by_cases e : i = k
            · simp [e]
            · simp [e]
          case measure => simp [intOf]; omega
      · obtain rfl : k = l.length := by omega
        have c1 := r1.out
        have c2 := r2.out
        have c20 := c2.cell (show 0 < 3 by omega); have c21 := c2.cell (show 1 < 3 by omega); have c22 := c2.cell (show 2 < 3 by omega)
        have c10 := c1.cell (show 0 < 3 by omega); have c11 := c1.cell (show 1 < 3 by omega); have c12 := c1.cell (show 2 < 3 by omega)
        have f0 := c1.frozen 0; have f1 := c1.frozen 1; have f2 := c1.frozen 2
        unfold intF at c10 c11 c12 c20 c21 c22
        clear c1 c2
        have HF := Lib.hid (show numsL l = some ms by have := hp.out; rwa [List.take_length] at this)
        go_wp2
        refine bodyPost_ret (v := .tuple #[.agg #[.int .i64 (x 0), .int .i64 (x 1), .int .i64 (x 2)], .bool true]) (by simp [results, Tryd.results45, go_sem, c10, c11, c12]) rfl ?_
        refine ⟨x, true, rfl, ?_, fun _ => ⟨HL.out, ms, HF.out, hx.out⟩, (fun h => by cases h)⟩
        first | exact hb | ((repeat (refine Below.setCell ?_ (by simp) _)); exact hb)
  · have hq : ((l.length : Int) != (many : Int)) = true := by simp; omega
    have HL := Lib.hid hlen; clear hlen
    have c1 := Z1.out
    have c2 := Z2.out
    have c20 := c2.cell (show 0 < 3 by omega); have c21 := c2.cell (show 1 < 3 by omega); have c22 := c2.cell (show 2 < 3 by omega)
    have c10 := c1.cell (show 0 < 3 by omega); have c11 := c1.cell (show 1 < 3 by omega); have c12 := c1.cell (show 2 < 3 by omega)
    have f0 := c1.frozen 0; have f1 := c1.frozen 1; have f2 := c1.frozen 2
    unfold intF at c10 c11 c12 c20 c21 c22
    clear c1 c2
    go_enter Tryd.func45, Tryd.ntmps45
    go_wp2
    refine bodyPost_ret (v := .tuple #[.agg #[.int .i64 0, .int .i64 0, .int .i64 0], .bool false]) (by simp [results, Tryd.results45, go_sem, c10, c11, c12]) rfl ?_
    refine ⟨fun _ => 0, false, rfl, ?_, (fun h => by cases h), fun _ => .inl HL.out⟩
    first | exact b0 | ((repeat (refine Below.setCell ?_ (by simp) _)); exact b0)
end Go.Proofs.YthidkkjhpdcenaaDoor
