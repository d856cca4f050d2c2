/- THE ITERATOR: runs.read and its closure, for every body of a loop over it. -/
import Derived.Test.YtclgcfofgiejgaaDoorNd
import Derived.Test.YtclgcfofgiejgaaDoorKd
import Derived.Test.YtclgcfofgiejgaaDoorJa
import Derived.RangeFuncNested
import Derived.RangeFuncBound
import Derived.RangeFuncCalls
import Derived.RangeFuncLeaves
import Derived.Shelf.Abstract
import Derived.Shelf.RegionOpen
import Derived.WalkKit
import Derived.OwnWalkIn
import Derived.TacticsInMore
import Derived.LoopNIn
import Derived.LoopIn
namespace Go.Proofs.YtclgcfofgiejgaaDoor
set_option maxRecDepth 100000
open Go.RowKit Go.Shelf
attribute [local go_sem] Oper.semAt_some
set_option linter.unusedVariables false

/-- what was read, its length T at the most -/
abbrev ItT (T : Int) := { x : It // 0 ≤ x.1 ∧ x.1 ≤ T }
def vals {T : Int} (l : List (ItT T)) : List It := l.map Subtype.val
theorem vals_snoc {T : Int} (l : List (ItT T)) (x : ItT T) : vals (l ++ [x]) = vals l ++ [x.1] := by unfold vals; rw [List.map_append]; rfl
theorem vals_len {T : Int} (l : List (ItT T)) : (vals l).length = l.length := by unfold vals; rw [List.length_map]
def itV (n : Int) (c : UInt8) (ok : Bool) : Array Value := #[.agg #[.int .i64 n, .int .u8 (c.toNat : Int)], .bool ok]
def encI {T : Int} (x : ItT T) : Array Value := itV x.1.1 x.1.2.1 x.1.2.2
/-- what a round keeps: what lay below n₀, and block Bn -/
def KR (n₀ Bn : Nat) (W W' : World) : Prop := Below n₀ W W' ∧ W'.heap[Bn]? = W.heap[Bn]?
theorem KR.refl (n₀ Bn : Nat) (W : World) : KR n₀ Bn W W := ⟨Below.refl _ _, rfl⟩
theorem KR.trans {n₀ Bn : Nat} {A B C : World} (h : KR n₀ Bn A B) (k : KR n₀ Bn B C) : KR n₀ Bn A C := ⟨h.1.trans k.1, k.2.trans h.2⟩
theorem KR.box {n₀ Bn : Nat} {A B : World} (h : KR n₀ Bn A B) {t : TypeId} {v : Value} (hb : Boxed A Bn t v) : Boxed B Bn t v := h.2.trans hb

theorem get_cut (A : Option Addr) (l : List UInt8) (n cap B : Nat) (w : World) (hr : RB w B A l) (hn : l.length = n) (hc : n ≤ cap) (hm : cap ≤ maxLen) :
    Calls Tryd.prog 79 #[.slice A n cap] w fun e w' => e = .returned (gotV (getN l)) ∧ w = w' := by
  subst hn
  exact get_any A l cap B w hr hc hm

theorem w64_in (n : Int) (h : -9223372036854775808 ≤ n ∧ n ≤ 9223372036854775807) : wrap64 n = n := by unfold wrap64; omega
set_option maxHeartbeats 4000000 in
theorem read1_in (n : Nat) (hn : 1 ≤ n) (T : Int) (lo Bn n₀ : Nat) (A : Option Addr) (l : List UInt8) (cap : Nat) (hT : ∀ x ∈ items true l, x.1 ≤ T) (hc : l.length ≤ cap) (hm : cap ≤ maxLen)
    (J Jx : List (ItT T) → World → Prop)
    (hY : ∀ pre x W, J pre W → pre.length < (items true l).length → YieldAt Fence.wide (n - 1) Tryd.prog lo (encI x) W fun e W' =>
      (e = .returned (.bool true) ∧ J (pre ++ [x]) W' ∧ KR n₀ Bn W W') ∨ (e = .returned (.bool false) ∧ Jx (pre ++ [x]) W'))
    (W : World) (hB : Boxed W Bn 29 (.slice A l.length cap)) (hr : RB W n₀ A l) (h0 : J [] W) :
    CallsIn Fence.wide n Tryd.prog 88 #[.func (.yield lo) #[] #[], .pointer (some ⟨Bn, 0, none⟩)] W fun e W' => (∃ v, e = .returned v) ∧
      ((∃ ys, vals ys = items true l ∧ J ys W') ∨ (∃ pre, (∃ rest, vals pre ++ rest = items true l) ∧ Jx pre W')) := by
  have HT := Lib.hid hT; have HY := Lib.hid hY; have HR := Lib.hid hr; have HB := Lib.hid hB
  clear hT hY hr hB
  refine callsIn_of_wp Tryd.func88 rfl trivial ?_ rfl
  simp only [Tryd.ntmps88, List.size_toArray, List.length_cons, List.length_nil, Nat.reduceAdd, Nat.reduceSub, Array.replicate_succ, Array.replicate_zero, List.push_toArray, List.append_toArray, List.nil_append, List.cons_append]
  gi_wp2
  gi_loopw [3] (fun s wr => ∃ (k : Nat) (pre : List (ItT T)), s = .int .i64 k ∧ k ≤ l.length ∧ Hid (vals pre ++ items (decide (k = 0)) (l.drop k) = items true l) ∧ Hid (J pre wr) ∧ Hid (KR n₀ Bn W wr))
    (fun s _ => l.length - (intOf s).toNat)
  case atStart => exact ⟨0, [], rfl, by omega, rfl, h0, KR.refl _ _ _⟩
  case round =>
    obtain ⟨k, pre, rfl, hk, hit, hj, hkr⟩ := hrel
    have hbox := (hkr.out.box HB.out).cell
    by_cases hlt : k < l.length
    · obtain ⟨d, hd⟩ : ∃ d, d = l.drop k := ⟨_, rfl⟩
      have hdl : d.length = l.length - k := by rw [hd, List.length_drop]
      obtain ⟨b, off, rfl, hb, hcell⟩ := HR.out (by omega)
      have hrw : RB wr n₀ (some ⟨b, off + k, none⟩) d := by
        have h1 := (HR.out.cut k cap (by omega) hc).below hkr.out.1
        rw [if_neg (by omega)] at h1
        simp only [Option.map_some, Addr.add_lit] at h1
        rw [hd]; exact h1
      have hcl : ∀ j (h : j < d.length), wr.cell? ⟨b, off + (k + j), none⟩ = some (vb d[j]) := fun j h => by
        obtain ⟨b', off', e, _, hc'⟩ := hrw (by omega)
        have e := Option.some.inj e
        injection e with e1 e2
        subst e1
        have h2 := hc' j h
        rw [← e2] at h2
        rw [← Nat.add_assoc]; exact h2
      have hg : ∀ n, CallsIn Fence.wide n Tryd.prog 79 #[.slice (some ⟨b, off + k, none⟩) (l.length - k) (cap - k)] wr fun e w' => e = .returned (gotV (getN d)) ∧ wr = w' := fun n =>
        callsIn_wide.2 (get_cut _ d _ _ n₀ wr hrw hdl (by omega) (by unfold maxLen at *; omega))
      have HG := Lib.hid hg
      clear hrw hg hcell
      have hcap : ¬ cap = k := by omega
      have HCL := Lib.hid hcl; clear hcl
      have hit' : Hid (vals pre ++ items (decide (k = 0)) d = items true l) := by rw [hd]; exact hit
      clear hit
      have bad : stepR (decide (k = 0)) d = none → ∃ x : ItT T, x.1 = (0, 0, false) ∧ vals (pre ++ [x]) = items true l ∧ pre.length < (items true l).length := fun h => by
        have h1 := hit'.out
        rw [items_bad (by omega) h] at h1
        have h2 := HT.out (0, 0, false) (by rw [← h1]; simp)
        refine ⟨⟨(0, 0, false), by omega, h2⟩, rfl, by rw [vals_snoc]; exact h1, ?_⟩
        rw [← h1, List.length_append, vals_len]; simp
      have BAD := Lib.hid bad; clear bad
      cases hgd : getN d with
      | more =>
        obtain ⟨x, hx, hxs, hxl⟩ := BAD.out (by unfold stepR; rw [hgd])
        obtain ⟨fn, tmps, assign, body, hy, hR⟩ := HY.out pre x wr hj.out hxl
        rw [encI, hx] at hy
        change (Instr.yield lo #[Value.agg #[Value.int .i64 0, Value.int .u8 0], Value.bool false]).run Tryd.prog wr = _ at hy
        have HG2 : Hid (∀ n, CallsIn Fence.wide n Tryd.prog 79 #[.slice (some ⟨b, off + k, none⟩) (l.length - k) (cap - k)] wr fun e w' => e = .returned (.tuple #[.int .i64 0, .int .i64 0, .int .i64 2]) ∧ wr = w') := by rw [hgd] at HG; exact HG
        clear BAD HCL
        gi_wp2_with (refine ⟨trivial, ?_⟩; gi_at_call 79; refine (HG2.out _).mono ?_; rintro e w' ⟨rfl, rfl⟩)
        refine hR.mono ?_
        rintro e W3 (⟨rfl, hJ3, hk3⟩ | ⟨rfl, hJx3⟩)
        · gi_wp2
          refine bodyPost_ret (results_none rfl _ _ _) rfl ?_
          exact ⟨⟨_, rfl⟩, .inl ⟨_, hxs, hJ3⟩⟩
        · gi_wp2
          refine bodyPost_ret (results_none rfl _ _ _) rfl ?_
          exact ⟨⟨_, rfl⟩, .inr ⟨_, ⟨[], by rw [List.append_nil]; exact hxs⟩, hJx3⟩⟩
      | form =>
        obtain ⟨x, hx, hxs, hxl⟩ := BAD.out (by unfold stepR; rw [hgd])
        obtain ⟨fn, tmps, assign, body, hy, hR⟩ := HY.out pre x wr hj.out hxl
        rw [encI, hx] at hy
        change (Instr.yield lo #[Value.agg #[Value.int .i64 0, Value.int .u8 0], Value.bool false]).run Tryd.prog wr = _ at hy
        have HG2 : Hid (∀ n, CallsIn Fence.wide n Tryd.prog 79 #[.slice (some ⟨b, off + k, none⟩) (l.length - k) (cap - k)] wr fun e w' => e = .returned (.tuple #[.int .i64 0, .int .i64 0, .int .i64 1]) ∧ wr = w') := by rw [hgd] at HG; exact HG
        clear BAD HCL
        gi_wp2_with (refine ⟨trivial, ?_⟩; gi_at_call 79; refine (HG2.out _).mono ?_; rintro e w' ⟨rfl, rfl⟩)
        refine hR.mono ?_
        rintro e W3 (⟨rfl, hJ3, hk3⟩ | ⟨rfl, hJx3⟩)
        · gi_wp2
          refine bodyPost_ret (results_none rfl _ _ _) rfl ?_
          exact ⟨⟨_, rfl⟩, .inl ⟨_, hxs, hJ3⟩⟩
        · gi_wp2
          refine bodyPost_ret (results_none rfl _ _ _) rfl ?_
          exact ⟨⟨_, rfl⟩, .inr ⟨_, ⟨[], by rw [List.append_nil]; exact hxs⟩, hJx3⟩⟩
      | ok u kk =>
        obtain ⟨hu, hkp, _, hkl, hkk⟩ := getN_got d u kk hgd
        have hkk0 := Lib.hid hkk
        have hz := zag_in u hu
        obtain ⟨y, hyy⟩ : ∃ y : Int, zag u = y := ⟨_, rfl⟩
        rw [hyy] at hz
        obtain ⟨hz0, hz1⟩ := hz
        have HG3 : Hid (∀ n, CallsIn Fence.wide n Tryd.prog 79 #[.slice (some ⟨b, off + k, none⟩) (l.length - k) (cap - k)] wr fun e w' => e = .returned (gotV (.ok u kk)) ∧ wr = w') := by rw [hgd] at HG; exact HG
        have HG2 : Hid (∀ n, CallsIn Fence.wide n Tryd.prog 79 #[.slice (some ⟨b, off + k, none⟩) (l.length - k) (cap - k)] wr fun e w' => e = .returned (.tuple #[.int .i64 y, .int .i64 (kk : Int), .int .i64 0]) ∧ wr = w') := by rw [← hyy]; exact HG3
        clear HG3 HG
        obtain ⟨ee, hee⟩ : ∃ ee, Hid (ee = k + kk) := ⟨_, rfl⟩
        have hw1 : wrap64 ((k : Int) + (kk : Int)) = (ee : Int) := by have := hee.out; rw [w64_in _ (by unfold maxLen at hm; omega)]; omega
        clear hu hkp hkk
        by_cases hy1 : y < 1
        · have hyl := hyy; clear hw1
          obtain ⟨x, hx, hxs, hxl⟩ := BAD.out (stepR_small _ hgd (by omega))
          obtain ⟨fn, tmps, assign, body, hy, hR⟩ := HY.out pre x wr hj.out hxl
          rw [encI, hx] at hy
          change (Instr.yield lo #[Value.agg #[Value.int .i64 0, Value.int .u8 0], Value.bool false]).run Tryd.prog wr = _ at hy
          clear BAD HCL
          gi_wp2_with (refine ⟨trivial, ?_⟩; gi_at_call 79; refine (HG2.out _).mono ?_; rintro e w' ⟨rfl, rfl⟩)
          refine hR.mono ?_
          rintro e W3 (⟨rfl, hJ3, hk3⟩ | ⟨rfl, hJx3⟩)
          · gi_wp2
            refine bodyPost_ret (results_none rfl _ _ _) rfl ?_
            exact ⟨⟨_, rfl⟩, .inl ⟨_, hxs, hJ3⟩⟩
          · gi_wp2
            refine bodyPost_ret (results_none rfl _ _ _) rfl ?_
            exact ⟨⟨_, rfl⟩, .inr ⟨_, ⟨[], by rw [List.append_nil]; exact hxs⟩, hJx3⟩⟩
        · by_cases hend : d.length ≤ kk
          · have heq : ee = l.length := by have := hee.out; omega
            have heq2 : ((ee : Int) == (l.length : Int)) = true := by simp [heq]
            have HEQ := Lib.hid heq; clear heq
            obtain ⟨x, hx, hxs, hxl⟩ := BAD.out (stepR_stop _ hgd hend)
            obtain ⟨fn, tmps, assign, body, hy, hR⟩ := HY.out pre x wr hj.out hxl
            rw [encI, hx] at hy
            change (Instr.yield lo #[Value.agg #[Value.int .i64 0, Value.int .u8 0], Value.bool false]).run Tryd.prog wr = _ at hy
            clear BAD HCL
            gi_wp2_with (refine ⟨trivial, ?_⟩; gi_at_call 79; refine (HG2.out _).mono ?_; rintro e w' ⟨rfl, rfl⟩)
            refine hR.mono ?_
            rintro e W3 (⟨rfl, hJ3, hk3⟩ | ⟨rfl, hJx3⟩)
            · gi_wp2
              refine bodyPost_ret (results_none rfl _ _ _) rfl ?_
              exact ⟨⟨_, rfl⟩, .inl ⟨_, hxs, hJ3⟩⟩
            · gi_wp2
              refine bodyPost_ret (results_none rfl _ _ _) rfl ?_
              exact ⟨⟨_, rfl⟩, .inr ⟨_, ⟨[], by rw [List.append_nil]; exact hxs⟩, hJx3⟩⟩
          · have hlt2 : ee < l.length := by have := hee.out; omega
            have heq2 : ((ee : Int) == (l.length : Int)) = false := by simp; omega
            have hlt3 : (ee : Int) < (l.length : Int) := by omega
            obtain ⟨c, hcc⟩ : ∃ c, d[kk]'(by omega) = c := ⟨_, rfl⟩
            have hcell := HCL.out kk (by omega)
            rw [hcc, ← hee.out] at hcell
            unfold vb at hcell
            obtain ⟨m, hmm⟩ : ∃ m : Int, Hid ((c.toNat : Int) = m) := ⟨_, rfl⟩
            rw [hmm.out] at hcell
            obtain ⟨k2, hk2⟩ : ∃ k2 : Nat, Hid (k2 = ee + 1) := ⟨_, rfl⟩
            have hw2 : wrap64 ((ee : Int) + 1) = (k2 : Int) := by have := hk2.out; rw [w64_in _ (by unfold maxLen at hm; omega)]; omega
            by_cases hk0 : k = 0
            · have hst : stepR (decide (k = 0)) d = some (y, c, kk) := by rw [← hyy, ← hcc]; exact stepR_good _ hgd (by omega) (by omega) (.inl (by simp [hk0]))
              have hn0 : ¬ (0 : Int) < (k : Int) := by omega
              have HK0 := Lib.hid hk0; clear hk0
              have h1 := hit'.out
              rw [items_ok hst] at h1
              have h2 := HT.out (y, c, true) (by rw [← h1]; simp)
              have hdd : d.drop (kk + 1) = l.drop k2 := by rw [hd, List.drop_drop]; congr 1; have := hk2.out; have := hee.out; omega
              rw [hdd] at h1
              obtain ⟨x, hx⟩ : ∃ x : ItT T, x.1 = (y, c, true) := ⟨⟨(y, c, true), by show (0 : Int) ≤ y; omega, h2⟩, rfl⟩
              obtain ⟨fn, tmps, assign, body, hy, hR⟩ := HY.out pre x wr hj.out (by rw [← h1, List.length_append, vals_len]; simp)
              rw [encI, hx] at hy
              change (Instr.yield lo #[Value.agg #[Value.int .i64 y, Value.int .u8 (c.toNat : Int)], Value.bool true]).run Tryd.prog wr = _ at hy
              rw [hmm.out] at hy
              have hn1 : vals (pre ++ [x]) ++ items false (l.drop k2) = items true l := by rw [vals_snoc, hx, List.append_assoc]; exact h1
              have HN1 := Lib.hid hn1
              clear BAD HCL h1 h2 hst hn1 hdd
              gi_wp2_with (refine ⟨trivial, ?_⟩; gi_at_call 79; refine (HG2.out _).mono ?_; rintro e w' ⟨rfl, rfl⟩)
              refine hR.mono ?_
              rintro e W3 (⟨rfl, hJ3, hk3⟩ | ⟨rfl, hJx3⟩)
              · gi_wp2
                go_roundw
                case rel => exact ⟨k2, _, by rw [hw2], by have := hk2.out; omega, by rw [show decide (k2 = 0) = false by have := hk2.out; simp; omega]; exact HN1, hJ3, hkr.out.trans hk3⟩
                case measure => rw [hw2]; have := hk2.out; have := hee.out; have := hkk0.out; simp only [intOf, Int.toNat_natCast]; omega
              · gi_wp2
                refine bodyPost_ret (results_none rfl _ _ _) rfl ?_
                exact ⟨⟨_, rfl⟩, .inr ⟨_, ⟨_, HN1.out⟩, hJx3⟩⟩
            · have hn0 : (0 : Int) < (k : Int) := by omega
              by_cases hm0 : m = 0
              · have hmz : (m == 0) = true := by simp [hm0]
                have hc0 : c = 0 := by
                  have h1 := hmm.out
                  apply UInt8.toNat.inj
                  show c.toNat = 0
                  omega
                have hbz : stepR (decide (k = 0)) d = none := by rw [show decide (k = 0) = false by simpa using hk0]; exact stepR_zero hgd (by omega) (by rw [hcc]; exact hc0)
                have HM0 := Lib.hid hm0; have HK0 := Lib.hid hk0; clear hm0 hk0 hc0
                obtain ⟨x, hx, hxs, hxl⟩ := BAD.out (hbz)
                obtain ⟨fn, tmps, assign, body, hy, hR⟩ := HY.out pre x wr hj.out hxl
                rw [encI, hx] at hy
                change (Instr.yield lo #[Value.agg #[Value.int .i64 0, Value.int .u8 0], Value.bool false]).run Tryd.prog wr = _ at hy
                clear BAD HCL
                gi_wp2_with (refine ⟨trivial, ?_⟩; gi_at_call 79; refine (HG2.out _).mono ?_; rintro e w' ⟨rfl, rfl⟩)
                refine hR.mono ?_
                rintro e W3 (⟨rfl, hJ3, hk3⟩ | ⟨rfl, hJx3⟩)
                · gi_wp2
                  refine bodyPost_ret (results_none rfl _ _ _) rfl ?_
                  exact ⟨⟨_, rfl⟩, .inl ⟨_, hxs, hJ3⟩⟩
                · gi_wp2
                  refine bodyPost_ret (results_none rfl _ _ _) rfl ?_
                  exact ⟨⟨_, rfl⟩, .inr ⟨_, ⟨[], by rw [List.append_nil]; exact hxs⟩, hJx3⟩⟩
              · have hmz : (m == 0) = false := by simpa using hm0
                have hst : stepR (decide (k = 0)) d = some (y, c, kk) := by
                  rw [← hyy, ← hcc]
                  refine stepR_good _ hgd (by omega) (by omega) (.inr ?_)
                  rw [hcc]
                  intro h
                  have h1 := hmm.out
                  rw [h] at h1
                  exact hm0 h1.symm
                have HM0 := Lib.hid hm0; have HK0 := Lib.hid hk0; clear hm0 hk0
                have h1 := hit'.out
                rw [items_ok hst] at h1
                have h2 := HT.out (y, c, true) (by rw [← h1]; simp)
                have hdd : d.drop (kk + 1) = l.drop k2 := by rw [hd, List.drop_drop]; congr 1; have := hk2.out; have := hee.out; omega
                rw [hdd] at h1
                obtain ⟨x, hx⟩ : ∃ x : ItT T, x.1 = (y, c, true) := ⟨⟨(y, c, true), by show (0 : Int) ≤ y; omega, h2⟩, rfl⟩
                obtain ⟨fn, tmps, assign, body, hy, hR⟩ := HY.out pre x wr hj.out (by rw [← h1, List.length_append, vals_len]; simp)
                rw [encI, hx] at hy
                change (Instr.yield lo #[Value.agg #[Value.int .i64 y, Value.int .u8 (c.toNat : Int)], Value.bool true]).run Tryd.prog wr = _ at hy
                rw [hmm.out] at hy
                have hn1 : vals (pre ++ [x]) ++ items false (l.drop k2) = items true l := by rw [vals_snoc, hx, List.append_assoc]; exact h1
                have HN1 := Lib.hid hn1
                clear BAD HCL h1 h2 hst hn1 hdd
                gi_wp2_with (refine ⟨trivial, ?_⟩; gi_at_call 79; refine (HG2.out _).mono ?_; rintro e w' ⟨rfl, rfl⟩)
                refine hR.mono ?_
                rintro e W3 (⟨rfl, hJ3, hk3⟩ | ⟨rfl, hJx3⟩)
                · gi_wp2
                  go_roundw
                  case rel => exact ⟨k2, _, by rw [hw2], by have := hk2.out; omega, by rw [show decide (k2 = 0) = false by have := hk2.out; simp; omega]; exact HN1, hJ3, hkr.out.trans hk3⟩
                  case measure => rw [hw2]; have := hk2.out; have := hee.out; have := hkk0.out; simp only [intOf, Int.toNat_natCast]; omega
                · gi_wp2
                  refine bodyPost_ret (results_none rfl _ _ _) rfl ?_
                  exact ⟨⟨_, rfl⟩, .inr ⟨_, ⟨_, HN1.out⟩, hJx3⟩⟩
    · obtain rfl : k = l.length := by omega
      have hfin := hit.out
      rw [List.drop_length, items_nil, List.append_nil] at hfin
      gi_wp2
      go_end0
      exact ⟨⟨_, rfl⟩, .inl ⟨_, hfin, hj.out⟩⟩
/-- the closure, for every body that keeps what lay below n₀ and the captured box -/
theorem read_stops (n : Nat) (hn : 1 ≤ n) (T : Int) (Bn n₀ : Nat) (A : Option Addr) (l : List UInt8) (cap : Nat) (hT : ∀ x ∈ items true l, x.1 ≤ T) (hc : l.length ≤ cap) (hm : cap ≤ maxLen) (w : World) (hBn : Bn < w.heap.size) (hn₀ : n₀ ≤ w.heap.size)
    (hB : Boxed w Bn 29 (.slice A l.length cap)) (hr : RB w n₀ A l) :
    SeqStopsK Fence.wide n Tryd.prog 88 #[.pointer (some ⟨Bn, 0, none⟩)] (encI (T := T)) (KR n₀ Bn) (fun ys => vals ys = items true l) (fun pre => ∃ rest, vals pre ++ rest = items true l) (items true l).length w := fun lo J Jx W hW _ _ hY h0 =>
  read1_in n hn T lo Bn n₀ A l cap hT hc hm J Jx hY W ((hW.block Bn hBn).trans hB) (hr.below (hW.mono hn₀)) h0
theorem krB {w : World} {n₀ Bn : Nat} (hn : n₀ ≤ w.heap.size) (hB : Bn < w.heap.size) (W : World) (l : Nat) (o o' : Obj) (hl : w.heap.size ≤ l) (h : W.heap[l]? = some o) (h1 : o.isCells = false) (h2 : o.isWalk = false) : KR n₀ Bn W (W.putObj l o') :=
  ⟨belowK_b hn W l o o' hl h h1 h2, World.putObj_heap_other (by omega)⟩
theorem read_any (A : Option Addr) (n cap : Nat) (w : World) :
    Calls Tryd.prog 86 #[.slice A n cap] w fun e w' => e = .returned (.func (.func 88) #[] #[.pointer (some ⟨w.heap.size, 0, none⟩)]) ∧ w' = w.alloc (.cells #[.slice A n cap] 29) := by
  go_enter Tryd.func86, Tryd.ntmps86
  go_wp2
  go_ret
  exact ⟨rfl, rfl⟩
end Go.Proofs.YtclgcfofgiejgaaDoor
