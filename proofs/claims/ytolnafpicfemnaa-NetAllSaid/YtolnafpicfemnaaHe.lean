/- WALKS over package net: slices.Delete, Drop. -/
import Derived.Test.YtolnafpicfemnaaHc
import Derived.Deep.RegionLaw
namespace Go.Proofs.Ytolnafpicfemnaa
set_option maxRecDepth 100000
open Go.RowKit
set_option linter.unusedVariables false
set_option linter.unusedSimpArgs false

/-- append into the row's own cells -/
theorem run_append_in (w : World) (ty : TypeId) (g n cap : Nat) (ms ps : List Ml) (h : WR w (.slice (some ⟨g, 0, none⟩) n cap) ms) (hn : ms.length = n) (A : Option Addr) (m c : Nat) (hm : ps.length = m) (hr : SR w A ps) (hA : A ≠ none) (hs : ∀ m ∈ ps, ∃ A n c, m.v = .slice A n c) (hroom : n + m ≤ cap) :
    ∃ w', (Builtin.append_ #[26, 26] ty #[.slice (some ⟨g, 0, none⟩) n cap, .slice A m c]).run Try.prog w = .ok (.slice (some ⟨g, 0, none⟩) (n + m) cap) w' ∧ WR w' (.slice (some ⟨g, 0, none⟩) (n + m) cap) (ms ++ ps) ∧ w.grownBy w' (some g) := by
  obtain ⟨i0, hi0, hz0, hz1, hz2⟩ := info_parts mail_info
  subst hn hm
  have hlo := mlsL_len ms
  have hln := mlsL_len ps
  obtain ⟨ad, rfl⟩ : ∃ ad, A = some ad := by cases A with | none => exact absurd rfl hA | some a => exact ⟨a, rfl⟩
  have hnews : ∀ j u, (mlsL ps)[j]? = some u → w.cell? (ad.add j) = some u := fun j u hj => by
    have hjl : j < (mlsL ps).length := (List.getElem?_eq_some_iff.1 hj).1
    obtain ⟨b, off, e, hc⟩ := hr (by omega)
    have e := Option.some.inj e
    subst e
    rw [Addr.add_lit]
    exact hc j u hj
  have h1 : ∀ u ∈ mlsL ps, u.oneCell' = true := fun u hu => mlsL_plain hs hu
  rcases h with ⟨hv, _⟩ | ⟨g', cap', cur, hv, hh, h2, h3, h4, h5⟩
  · cases hv
  · injection hv with e1 e2 e3
    injection e1 with e1; injection e1 with e1
    subst e1 e3
    have hfit : ms.length * i0.size + (mlsL ps).length ≤ cur.size := by rw [hln, hz1, ← Nat.add_mul]; exact Nat.le_trans (Nat.mul_le_mul_right _ hroom) h4
    have hrun := run_append_room (P := Try.prog) w 26 ty 29 i0 Try.underlying26 hi0 g ms.length cap cur hh ad ps.length c (mlsL ps) (by rw [hln, hz1]) hnews h1 hroom hfit
    rw [hz1] at hrun
    refine ⟨_, hrun, .inr ⟨g, cap, _, by rw [List.length_append], setRow_heap w g cur _ _ _ hh, by rw [List.length_append]; exact hroom, h3, ?_, ?_⟩, ⟨rfl, rfl, rfl, by simp, fun k _ hk => setRow_other w g k _ (fun e => hk (by rw [e]))⟩⟩
    · rw [hz1] at hfit
      simp only [List.size_toArray, List.length_append, List.length_take, List.length_drop, Array.length_toList]
      omega
    · rw [h5, mlsL_append, List.length_append, Nat.add_mul]
      have e : (mlsL ms ++ mlsL ps).length = ms.length * 3 + ps.length * 3 := by rw [List.length_append, hlo, hln]
      rw [← e]
      exact List.take_left
theorem step_append_in {w : World} {ops : Array Oper} {o : Oper} {a : Act} {K : Act → World → Prop} {Q : Exit → Act → World → Prop} {E : Prop} (hgd : o.guard = none) (s x : Operand)
    (ho : o.op = .call { callee := .builtin .append, args := #[s, x], argTypes := #[26, 26] })
    (g n cap : Nat) (ms ps : List Ml) (hv : a.eval s = .slice (some ⟨g, 0, none⟩) n cap) (h : WR w (.slice (some ⟨g, 0, none⟩) n cap) ms) (hn : ms.length = n) (A : Option Addr) (m c : Nat) (hx : a.eval x = .slice A m c) (hm : ps.length = m) (hr : SR w A ps) (hA : A ≠ none) (hs : ∀ m ∈ ps, ∃ A n c, m.v = .slice A n c) (hroom : n + m ≤ cap) (r : Nat) (hr2 : n + m = r)
    (hk : ∀ w', WR w' (.slice (some ⟨g, 0, none⟩) r cap) (ms ++ ps) → w.grownBy w' (some g) → K (a.put o.dst (.slice (some ⟨g, 0, none⟩) r cap)) w') :
    if Region.wanted o (yielded ops a.tmps) = true then Oper.wp Try.prog o a w K Q else E := by
  have hw : Region.wanted o (yielded ops a.tmps) = true := by simp [Region.wanted, hgd]
  rw [if_pos hw]
  subst hr2
  obtain ⟨w', hrun, h2, h3⟩ := run_append_in w o.type g n cap ms ps h hn A m c hm hr hA hs hroom
  unfold Oper.wp execOp
  simp only [ho, resolve, invoke, builtin, Sem.run_bind, Sem.run_pure, Result.andThen_ok, List.map_toArray, List.map_cons, List.map_nil, hv, hx, hrun]
  exact hk w' h2 h3
/-- the cells of one mail cleared, behind the row's length -/
theorem run_clear_one (w : World) (ty : TypeId) (g n cap c : Nat) (ms : List Ml) (h : WR w (.slice (some ⟨g, 0, none⟩) n cap) ms) (hn : ms.length = n) (hc : n < cap) :
    ∃ w', (Builtin.clear_ #[26] ty #[.slice (some ⟨g, n * 3, none⟩) 1 c]).run Try.prog w = .ok (.tuple #[]) w' ∧ WR w' (.slice (some ⟨g, 0, none⟩) n cap) ms ∧ w.grownBy w' (some g) := by
  obtain ⟨i0, hi0, hz0, hz1, hz2⟩ := info_parts mail_info
  subst hn
  have hlo := mlsL_len ms
  rcases h with ⟨hv, _⟩ | ⟨g', cap', cur, hv, hh, h2, h3, h4, h5⟩
  · cases hv
  · injection hv with e1 e2 e3
    injection e1 with e1; injection e1 with e1
    subst e1 e3
    have hz : ∀ W, (zeroValue 29).run Try.prog W = .ok (.agg #[.int .i64 0, .int .i64 0, .slice none 0 0]) W := fun W => by
      simp [zeroValue, typeInfo, hi0, hz0]
    have hzc : (Builtin.zeroCells (Value.agg #[.int .i64 0, .int .i64 0, .slice none 0 0]).cells 1).toList = [.int .i64 0, .int .i64 0, .slice none 0 0] := by kernel_rfl
    have hst := run_storeCells_at Try.prog g (ms.length * 3) 29 [.int .i64 0, .int .i64 0, .slice none 0 0] 0 cur w hh (by simp only [List.length_cons, List.length_nil]; omega) (by simp [Value.oneCell'])
    have hrun : (Builtin.clear_ #[26] ty #[.slice (some ⟨g, ms.length * 3, none⟩) 1 c]).run Try.prog w = .ok (.tuple #[]) (w.setRow g (cur.toList.take (ms.length * 3 + 0) ++ [Value.int .i64 0, Value.int .i64 0, Value.slice none 0 0] ++ cur.toList.drop (ms.length * 3 + 0 + [Value.int IntKind.i64 0, Value.int IntKind.i64 0, Value.slice none 0 0].length)).toArray) := by
      simp [Builtin.clear_, run_underlying Try.underlying26, hz]
      have hzc' := hzc
      simp at hzc' hst
      simp [hzc', hst]
    refine ⟨_, hrun, .inr ⟨g, cap, _, rfl, setRow_heap w g cur _ _ _ hh, h2, h3, ?_, ?_⟩, ⟨rfl, rfl, rfl, by simp, fun k _ hk => setRow_other w g k _ (fun e => hk (by rw [e]))⟩⟩
    · simp only [List.size_toArray, List.length_append, List.length_take, List.length_drop, Array.length_toList, List.length_cons, List.length_nil]
      omega
    · rw [List.append_assoc, Nat.add_zero]
      have e : (cur.toList.take (ms.length * 3)).length = ms.length * 3 := by
        have hcs : cur.toList.length = cur.size := Array.length_toList ..
        rw [List.length_take]; omega
      rw [List.take_append_of_le_length (by rw [e]; exact Nat.le_refl _), List.take_take, Nat.min_self, h5]
theorem WR.spare {w : World} {g n cap : Nat} {ms : List Ml} (h : WR w (.slice (some ⟨g, 0, none⟩) n cap) ms) : n = ms.length ∧ n ≤ cap ∧ cap ≤ maxLen := by
  rcases h with ⟨hv, _⟩ | ⟨g', cap', cur, hv, hh, h2, h3, h4, h5⟩
  · cases hv
  · injection hv with e1 e2 e3
    subst e2 e3
    exact ⟨rfl, h2, h3⟩
/-- the mails from k on, as a slice of the row -/
theorem WR.tail {w : World} {g n cap : Nat} {ms : List Ml} (h : WR w (.slice (some ⟨g, 0, none⟩) n cap) ms) (k : Nat) : SR w (if cap = k then some ⟨g, 0, none⟩ else some ⟨g, k * 3, none⟩) (ms.drop k) := fun h0 => by
  rw [List.length_drop] at h0
  obtain ⟨h1, h2, -⟩ := h.spare
  rw [if_neg (by omega)]
  refine ⟨g, k * 3, rfl, fun j u hu => ?_⟩
  refine h.cell (k * 3 + j) u ?_
  rw [← mlsL_drop, List.getElem?_drop] at hu
  exact hu
set_option maxHeartbeats 1000000 in
theorem delete_any (w : World) (g n cap : Nat) (ms : List Ml) (h : WR w (.slice (some ⟨g, 0, none⟩) n cap) ms) (j : Nat) (hj : j < n) (hl : n ≤ 1000) (hs : ∀ m ∈ ms, ∃ A n c, m.v = .slice A n c) (J : Int) (hJ : J = ((j + 1 : Nat) : Int)) :
    Calls Try.prog 20 #[.slice (some ⟨g, 0, none⟩) n cap, .int .i64 j, .int .i64 J] w fun e w' => e = .returned (.slice (some ⟨g, 0, none⟩) (n - 1) cap) ∧ WR w' (.slice (some ⟨g, 0, none⟩) (n - 1) cap) (ms.eraseIdx j) ∧ w.grownBy w' (some g) := by
  subst hJ
  obtain ⟨hn, hc, hm⟩ := h.spare
  have H1 : Hid (WR w.drew (.slice (some ⟨g, 0, none⟩) j cap) (ms.take j)) := WR.cut (w := w.drew) h j cap (by omega) (by omega) (Nat.le_refl _)
  have HL1 : Hid ((ms.take j).length = j) := by show _ = _; rw [List.length_take]; omega
  have H2 : Hid (SR w.drew (if cap = j + 1 then some ⟨g, 0, none⟩ else some ⟨g, (j + 1) * 3, none⟩) (ms.drop (j + 1))) := WR.tail (w := w.drew) h (j + 1)
  have HL2 : Hid ((ms.drop (j + 1)).length = n - (j + 1)) := by show _ = _; rw [List.length_drop, hn]
  have HS : Hid (∀ m ∈ ms.drop (j + 1), ∃ A n c, m.v = .slice A n c) := fun m hm => hs m (List.mem_of_mem_drop hm)
  have HE : Hid (ms.eraseIdx j = ms.take j ++ ms.drop (j + 1)) := List.eraseIdx_eq_take_drop_succ ms j
  obtain ⟨D, hD⟩ : ∃ D : Addr, (if cap = j + 1 then some ⟨g, 0, none⟩ else some ⟨g, (j + 1) * 3, none⟩ : Option Addr) = some D := by
    by_cases e : cap = j + 1
    · exact ⟨_, if_pos e⟩
    · exact ⟨_, if_neg e⟩
  have hj1 : j + 1 ≤ n := hj
  have hjc : j + 1 ≤ cap := by omega
  have hjc2 : j ≤ cap := by omega
  have zj : ((j : Int) == (j : Int) + 1) = false := by simp; omega
  have zj1 : (j : Int) + 1 ≤ n := by omega
  have zj0 : (0 : Int) ≤ (j : Int) + 1 := by omega
  obtain ⟨N, hN⟩ : ∃ N, n - 1 = N := ⟨_, rfl⟩
  rw [hN]
  have hN1 : N ≤ n := by omega
  have hN2 : n - N = 1 := by omega
  have hN3 : ¬ cap = N := by omega
  have HSum : Hid (j + (n - (j + 1)) = N) := by show _ = _; omega
  have HNs : Hid (N < cap) := by show _ < _; omega
  have HLE : Hid ((ms.take j ++ ms.drop (j + 1)).length = N) := by show _ = _; rw [List.length_append, HL1.out, HL2.out]; exact HSum.out
  have HDn : Hid ((some D : Option Addr) ≠ none) := by show _ ≠ _; simp
  rw [hD] at H2
  clear h hn hs hN
  go_enter Try.func20, Try.ntmps20
  go_wp2_with fail
  go_region_law (refine step_append_in rfl (.tmp 22) (.tmp 25) (by rfl) g j cap (ms.take j) (ms.drop (j + 1)) (by simp [Act.eval, Act.put]) H1.out HL1.out (some D) (n - (j + 1)) (cap - (j + 1)) (by simp [Act.eval, Act.put, hD]) HL2.out H2.out HDn.out HS.out (by have := HSum.out; omega) N HSum.out ?_; intro w3 r3 g3)
  all_goals
    obtain ⟨w5, hcl0, r5, g5⟩ := run_clear_one w3 0 g N cap (cap - N) _ r3 HLE.out HNs.out
    have hcl : ∀ ty, (Builtin.clear_ #[26] ty #[.slice (some ⟨g, N * 3, none⟩) 1 (cap - N)]).run Try.prog w3 = .ok (.tuple #[]) w5 := fun ty => hcl0
    clear hcl0
    go_wp2
    go_ret
    refine ⟨rfl, ?_, ?_⟩
    · rw [HE.out]; exact r5
    · exact ⟨g5.os.trans g3.os, g5.tape.trans g3.tape, g5.output.trans g3.output, Nat.le_trans g3.size g5.size, fun k hk hne => (g5.block k (Nat.lt_of_lt_of_le hk g3.size) hne).trans (g3.block k hk hne)⟩
end Go.Proofs.Ytolnafpicfemnaa
