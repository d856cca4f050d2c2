/- WALK of the law NetFull. -/
import Derived.Test.YtolnafpicfemnaaHh
import Derived.Laws.MakeOwn
namespace Go.Proofs.Ytolnafpicfemnaa
set_option maxRecDepth 100000
open Go.RowKit
set_option linter.unusedVariables false
set_option linter.unusedSimpArgs false

theorem grown_set (w : World) (a : Addr) (v : Value) : w.grownBy (w.setCell a v) (some a.block) :=
  ⟨rfl, rfl, rfl, by simp [World.setCell], fun k hk hne => heap_setCell_other _ _ _ _ (fun e => hne (by rw [e]))⟩
def zB (n : Nat) : List UInt8 := List.replicate n 0
theorem zB_len (n : Nat) : (zB n).length = n := by unfold zB; simp
/-- what make lays for k bytes -/
def madeB (k : Nat) : Obj := .cells (madeCells #[.int .u8 0] k) 5
theorem make_b (k : Nat) (hk : k ≤ 100000) (W : World) : (Instr.makeSlice 27 (.int .i64 (k : Int)) (.int .i64 (k : Int))).run Try.prog W = .ok (.slice (some ⟨W.heap.size, 0, none⟩) k k) (W.alloc (madeB k)) :=
  run_make_row' 27 5 (.int .u8 0) 1 Try.underlying27 byte_info rfl .i64 .i64 k (by omega) (by omega) W
theorem rb_zeros (W : World) (k B : Nat) (hB : W.heap.size < B) : RB (W.alloc (madeB k)) B (some ⟨W.heap.size, 0, none⟩) (zB k) := fun _ =>
  ⟨W.heap.size, 0, rfl, hB, fun j hj => by
    rw [zB_len] at hj
    rw [Nat.zero_add]
    refine (World.rowIs.cell (w := W.alloc (madeB k)) (World.rowIs_made W (.int .u8 0) k 5) hj).trans ?_
    simp [zB, vb]⟩
theorem made_cell (W W' : World) (k : Nat) (hk : 0 < k) (h : W'.heap[W.heap.size]? = (W.alloc (madeB k)).heap[W.heap.size]?) : W'.cell? ⟨W.heap.size, 0, none⟩ = some (.int .u8 0) ∧ W'.frozen? ⟨W.heap.size, 0, none⟩ = false :=
  ⟨(World.cell?_of_block (a := ⟨W.heap.size, 0, none⟩) h).trans (World.rowIs.cell (w := W.alloc (madeB k)) (World.rowIs_made W (.int .u8 0) k 5) hk),
   (World.frozen?_of_block (a := ⟨W.heap.size, 0, none⟩) h).trans (World.rowIs.frozen (w := W.alloc (madeB k)) (World.rowIs_made W (.int .u8 0) k 5) 0)⟩
theorem NM.keep {w w' : World} {b : Nat} {v : Value} {ms : List Ml} {O : Nat → Prop} (h : NM w b v ms) (S : Same O w w') (ho : ∀ k, NB b v ms k → O k) : NM w' b v ms := h.same fun k hk => S k (ho k hk)
theorem NM.far {w w' : World} {b g : Nat} {v : Value} {ms : List Ml} (h : NM w b v ms) (gr : w.grownBy w' (some g)) (hg : ¬ NB b v ms g) : NM w' b v ms := h.same fun k hk => gr.block k (h.lt hk) (fun e => hg (Option.some.inj e ▸ hk))
theorem OB.zero {w : World} {base g n c : Nat} (h : OB w base (.slice (some ⟨g, 0, none⟩) n c) (zB n)) (hn : 0 < n) : w.cell? ⟨g, 0, none⟩ = some (.int .u8 0) ∧ w.frozen? ⟨g, 0, none⟩ = false := by
  have h1 := h.cell_at (zB_len n) 0 (by rw [zB_len]; exact hn)
  refine ⟨?_, h.frozen_at (zB_len n) 0⟩
  rw [h1]
  simp [zB, vb]
set_option maxHeartbeats 1000000 in
theorem full_out (k size : Int) (w : World) (h : k < 0 ∨ 320 < k ∨ size < 0 ∨ 1100 < size) :
    Calls Try.prog 4 #[.int .i64 k, .int .i64 size] w fun e w' => e = .returned (.bool true) ∧ Below w.heap.size w w' := by
  have HG := Lib.hid (begun16_any w)
  by_cases g0 : k < 0
  · clear h
    go_enter Try.func4, Try.ntmps4
    go_wp2_with (go_at_call 8; with_reducible refine HG.out.mono ?_; rintro e w1 ⟨rfl, b1⟩)
    go_ret
    exact ⟨rfl, b1⟩
  by_cases g1 : 320 < k
  · clear h
    go_enter Try.func4, Try.ntmps4
    go_wp2_with (go_at_call 8; with_reducible refine HG.out.mono ?_; rintro e w1 ⟨rfl, b1⟩)
    go_ret
    exact ⟨rfl, b1⟩
  by_cases g2 : size < 0
  · clear h
    go_enter Try.func4, Try.ntmps4
    go_wp2_with (go_at_call 8; with_reducible refine HG.out.mono ?_; rintro e w1 ⟨rfl, b1⟩)
    go_ret
    exact ⟨rfl, b1⟩
  by_cases g3 : 1100 < size
  · clear h
    go_enter Try.func4, Try.ntmps4
    go_wp2_with (go_at_call 8; with_reducible refine HG.out.mono ?_; rintro e w1 ⟨rfl, b1⟩)
    go_ret
    exact ⟨rfl, b1⟩
  exact absurd h (by omega)
set_option maxHeartbeats 4000000 in
theorem full_nil (K Z : Nat) (w : World) (hK : K ≤ 320) (hZ : Z ≤ 1100) (h0 : Z = 0) :
    Calls Try.prog 4 #[.int .i64 K, .int .i64 Z] w fun e w' => e = .returned (.bool true) ∧ Below w.heap.size w w' := by
  have zz0 : ¬ (0 : Int) < Z := by omega
  have zz1 : (Z : Int) ≤ 1000 := by omega
  have HZ0 := Lib.hid h0
  clear h0
  have HG := Lib.hid (begun16_any w)
  have hmk := make_b Z (by omega)
  obtain ⟨M, hM⟩ : ∃ M, min K 300 = M := ⟨_, rfl⟩
  have eM : min (K : Int) 300 = (M : Int) := by omega
  have HMm := Lib.hid hM
  clear hM
  go_enter Try.func4, Try.ntmps4
  go_wp2_with fail
  (with_reducible refine HG.out.mono ?_)
  rintro e w1 ⟨rfl, b1⟩
  have HNw := Lib.hid (nf_new w w1 b1 noB (no_noB w w1))
  clear HG b1
  go_wp2_with fail
  (with_reducible refine HNw.out.mono ?_)
  rintro e w2 ⟨rfl, F2, -⟩
  have HF2 := Lib.hid F2
  clear HNw F2
  go_wp2_with fail
  go_loopw [7] (fun i wr => ∃ (a : Nat) (ps : List Pm), i = .int .i64 a ∧ a ≤ K ∧ Hid (ps.length = min a 300) ∧ Hid (NF w wr w1.heap.size ps noB)) (fun i _ => K - (intOf i).toNat)
  case atStart => exact ⟨0, [], rfl, by omega, rfl, HF2⟩
  case round =>
    clear HF2
    obtain ⟨a, ps, rfl, ha, HPS, HFr⟩ := hrel
    by_cases hlt : a < K
    · have zlt : (a : Int) < K := by omega
      by_cases h3 : a < 300
      · have z3 : (a : Int) < 300 := by omega
        have HS := Lib.hid (nf_send HFr.out 1 a none 0 0 [] (RB.nil _ _ _) rfl (by rw [HPS.out]; omega) (by omega))
        clear HFr
        go_wp2_with fail
        (with_reducible refine HS.out.mono ?_)
        rintro e w3 ⟨rfl, F3, -⟩
        have HF3 := Lib.hid F3
        clear F3 HS
        go_wp2
        go_roundw
        case rel => exact ⟨a + 1, ps ++ [⟨1, a, []⟩], by go_num, by omega, by (show _ = _); rw [List.length_append, HPS.out]; simp; omega, HF3⟩
        case measure => simp [intOf]; omega
      · have z3 : ¬ (a : Int) < 300 := by omega
        have HS := Lib.hid (nf_sendno HFr.out 1 a none 0 0 (.inl (by rw [HPS.out]; omega)) (Nat.le_refl _) (by unfold maxLen; omega))
        go_wp2_with fail
        (with_reducible refine HS.out.mono ?_)
        rintro e w3 ⟨rfl, b3⟩
        have HF3 := Lib.hid (HFr.out.belows b3)
        clear b3 HS HFr
        go_wp2
        go_roundw
        case rel => exact ⟨a + 1, ps, by go_num, by omega, by (show _ = _); rw [HPS.out]; omega, HF3⟩
        case measure => simp [intOf]; omega
    · obtain rfl : a = K := by omega
      obtain ⟨v1, ms1, N1, hps, q1, h4, -⟩ := HFr.out
      have hml : ms1.length = M := by rw [← HMm.out, ← HPS.out, ← hps, List.length_map]
      have HML := Lib.hid hml
      have HNw := Lib.hid (nf_new w wr q1 (NB w1.heap.size v1 ms1) (fun k hk => ⟨(h4 k hk).1, N1.lt hk⟩))
      have HN1 := Lib.hid N1
      clear N1 hps q1 h4 hml HFr HPS
      go_wp2_with fail
      (with_reducible refine HNw.out.mono ?_)
      rintro e w6 ⟨rfl, F6, b6⟩
      have bA : Below w6.heap.size w6 (w6.alloc (madeB Z)) := (Below.refl _ _).alloc (Nat.le_refl _) _
      have N7 := Lib.hid ((HN1.out.belows b6).belows bA)
      have HL6 : Hid (wr.heap.size ≤ w6.heap.size) := b6.size
      have HX6 : Hid (¬ NB w1.heap.size v1 ms1 w6.heap.size) := fun e => by have := HN1.out.lt e; have := HL6.out; omega
      have F7 : NF w (w6.alloc (madeB Z)) wr.heap.size [] (fun k => NB w1.heap.size v1 ms1 k ∨ k = w6.heap.size) := F6.add bA (fun k hk => by
        rcases hk with hk | rfl
        · exact .inl hk
        · exact .inr ⟨Nat.le_refl _, by simp⟩)
      have HS := Lib.hid (nf_send F7 0 0 (some ⟨w6.heap.size, 0, none⟩) Z Z (zB Z) (rb_zeros w6 Z _ (by simp)) (zB_len Z) (by simp) (by have := HZ0.out; omega))
      clear HNw F6 b6 bA F7 HN1
      go_wp2_with fail
      (with_reducible refine HS.out.mono ?_)
      rintro e w8 ⟨rfl, F8, S8⟩
      have F8 : NF w w8 wr.heap.size [⟨0, 0, zB Z⟩] (fun k => NB w1.heap.size v1 ms1 k ∨ k = w6.heap.size) := F8
      have N8 := Lib.hid (N7.out.keep S8 (fun k hk => .inl hk))
      have X8 := S8 w6.heap.size (.inr rfl)
      have HLn := Lib.hid (nlen_any w8 w1.heap.size v1 ms1 N8.out M HML.out)
      have HBE := Lib.hid F8.be
      clear F8 S8 X8 HS N7 N8 HX6 HL6
      go_wp2_with (go_at_call 17; with_reducible refine HLn.out.mono ?_; rintro e w15 ⟨rfl, rfl⟩)
      all_goals
        go_ret
        exact ⟨rfl, HBE.out⟩
end Go.Proofs.Ytolnafpicfemnaa
