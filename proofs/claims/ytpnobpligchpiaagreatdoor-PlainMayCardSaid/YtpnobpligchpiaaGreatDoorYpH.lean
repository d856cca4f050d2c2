/- texts of YpH -/
import Derived.ArgAppend
import Derived.Deep.DeepCutAuto
import Derived.Deep.OwnRows
import Derived.Deep.RegionHeld3
import Derived.Defers
import Derived.Laws.ResultCell
import Derived.Laws.Rows
import Derived.Laws.StructEq
import Derived.Lib.Hide
import Derived.Lib.SliceRun
import Derived.OwnWalk
import Derived.Recover
import Derived.Test.YtpnobpligchpiaaGreatDoorYpK
import Derived.WalkKit
import Derived.WalkLawsBesides
import Derived.WalkSmall
import Derived.WalkSpells
namespace Go.Proofs.YtpnobpligchpiaaGreatDoor
set_option maxRecDepth 100000
open Go.RowKit
set_option linter.unusedVariables false
set_option linter.unusedSimpArgs false
def rawV (k p f : Int) : Value := .agg #[.int .i64 k, .int .i64 p, .int .i64 f]
def evQ (p : Int) : Value := .agg #[.iface 211 (.agg #[.int .i64 p])]
def evL (p : Int) : Value := .agg #[.iface 212 (.agg #[.int .i64 p])]
def evA (p f : Int) : Value := .agg #[.iface 214 (.agg #[.int .i64 p, .int .i64 f])]
noncomputable def hdl (t : Nat) : Value := .pointer (some ⟨Tryz.prog.globals.size, t, none⟩)
theorem of_quit (p : Int) (h0 : 0 ≤ p) (h7 : p ≤ 7) (w : World) :
 Calls Tryz.prog 119 #[rawV 1 p 0] w fun e w' => e = .returned (.tuple #[evQ p, .bool true]) ∧ Below w.heap.size w w' := by
 have d1 : decide (p < 0) = false := by simp; omega
 have d2 : decide (8 ≤ p) = false := by simp; omega
 have d3 : ¬ p < 0 := by omega
 have d4 : ¬ 8 ≤ p := by omega
 unfold rawV evQ
 go_enter Tryz.func119, Tryz.ntmps119
 go_wp2_with fail
 refine bodyPost_ret (by rw [results_cell_tmp rfl]; go_simp) rfl ⟨rfl, ((bR _ _).alloc (nl _) _).alloc (by simp) _⟩
theorem of_late (p : Int) (h0 : 0 ≤ p) (h7 : p ≤ 7) (w : World) :
 Calls Tryz.prog 119 #[rawV 2 p 0] w fun e w' => e = .returned (.tuple #[evL p, .bool true]) ∧ Below w.heap.size w w' := by
 have d1 : decide (p < 0) = false := by simp; omega
 have d2 : decide (8 ≤ p) = false := by simp; omega
 have d3 : ¬ p < 0 := by omega
 have d4 : ¬ 8 ≤ p := by omega
 unfold rawV evL
 go_enter Tryz.func119, Tryz.ntmps119
 go_wp2_with fail
 refine bodyPost_ret (by rw [results_cell_tmp rfl]; go_simp) rfl ⟨rfl, ((bR _ _).alloc (nl _) _).alloc (by simp) _⟩
theorem of_apart (p f : Int) (h0 : 0 ≤ p) (h7 : p ≤ 7) (f0 : 0 ≤ f) (f1 : f ≤ 1000) (w : World) :
 Calls Tryz.prog 119 #[rawV 3 p f] w fun e w' => e = .returned (.tuple #[evA p f, .bool true]) ∧ Below w.heap.size w w' := by
 have d1 : decide (p < 0) = false := by simp; omega
 have d2 : decide (8 ≤ p) = false := by simp; omega
 have d3 : ¬ p < 0 := by omega
 have d4 : ¬ 8 ≤ p := by omega
 have d5 : decide (0 ≤ f) = true := by simp; omega
 have d6 : decide (f ≤ 1000) = true := by simp; omega
 unfold rawV evA
 go_enter Tryz.func119, Tryz.ntmps119
 go_wp2_with fail
 refine bodyPost_ret (by rw [results_cell_tmp rfl]; go_simp) rfl ⟨rfl, ((bR _ _).alloc (nl _) _).alloc (by simp) _⟩
theorem results_c1 {fn : Func} {p : Tmp} {ty : TypeId} (h : fn.results = #[.cell p ty]) (tmps : Array Value) (P : Program) (w : World) :
 (results fn tmps).run P w = ((asAddr (tmps.getD p undef)).run P w).andThen fun a w₁ => ((loadVar ty a).run P w₁) := by
 simp only [results, h]
 simp [Sem.run_bind, Result.andThen]
 try rfl
abbrev mlO (f t : Int) (A : Option Addr) (n c : Nat) : Obj := .cells #[.int .i64 f, .int .i64 t, .slice A n c] 97
def MlM (w : World) (P : Nat) (f t : Int) (A : Option Addr) (n c : Nat) : Prop := w.heap[P]? = some (mlO f t A n c)
section
variable {w w' : World} {P : Nat} {f t : Int} {A : Option Addr} {n cp : Nat}
theorem MlM.c (h : MlM w P f t A n cp) : w.cell? ⟨P, 0, none⟩ = some (.int .i64 f) ∧ w.cell? ⟨P, 1, none⟩ = some (.int .i64 t) ∧ w.cell? ⟨P, 2, none⟩ = some (.slice A n cp) := by
 refine ⟨?_, ?_, ?_⟩ <;> (rw [cell_of_row _ _ _ _ _ _ h]; rfl)
theorem MlM.fz (h : MlM w P f t A n cp) (j : Nat) : w.frozen? ⟨P, j, none⟩ = false := by
 unfold MlM at h
 simp [World.frozen?, h]
theorem MlM.lt (h : MlM w P f t A n cp) : P < w.heap.size := cell_lt h.c.1
theorem MlM.kept {g : Nat} (h : MlM w P f t A n cp) (hg : w.grownBy w' (some g)) (hne : P ≠ g) : MlM w' P f t A n cp := (hg.block P h.lt (fun e => hne (Option.some.inj e))).trans h
theorem MlM.below {B : Nat} (h : MlM w P f t A n cp) (hb : Below B w w') (hB : P < B) : MlM w' P f t A n cp := (hb.block P hB).trans h
theorem MlM.then_ (h : MlM w P f t A n cp) (hb : Below w.heap.size w w') : MlM w' P f t A n cp := h.below hb h.lt
theorem MlM.set_b (h : MlM w P f t A n cp) (A2 : Option Addr) (n2 c2 : Nat) : MlM (w.setCell ⟨P, 2, none⟩ (.slice A2 n2 c2)) P f t A2 n2 c2 := by
 unfold MlM at h ⊢
 simp only [World.setCell]
 rw [Array.getElem?_modify, if_pos rfl, h]
 rfl
end
theorem MlM.new (w : World) (f t : Int) (A : Option Addr) (n c : Nat) : MlM (w.alloc (mlO f t A n c)) w.heap.size f t A n c := heap_alloc_new w _
structure Ml where
 f : Int
 t : Int
 v : Value
 l : List UInt8
def mlL (m : Ml) : List Value := [.int .i64 m.f, .int .i64 m.t, m.v]
def mlsL : List Ml → List Value
 | [] => []
 | m :: r => mlL m ++ mlsL r
theorem mlsL_len (ms : List Ml) : (mlsL ms).length = ms.length * 3 := by
 induction ms with
 | nil => rfl
 | cons o r ih => rw [mlsL, List.length_append, ih, List.length_cons]; show 3 + r.length * 3 = _; omega
theorem mlsL_append (os ps : List Ml) : mlsL (os ++ ps) = mlsL os ++ mlsL ps := by
 induction os with
 | nil => rfl
 | cons o r ih => rw [List.cons_append, mlsL, mlsL, ih, List.append_assoc]
theorem mlsL_take (ms : List Ml) (k : Nat) : (mlsL ms).take (k * 3) = mlsL (ms.take k) := by
 rcases Nat.lt_or_ge ms.length k with h | h
 · rw [List.take_of_length_le (by rw [mlsL_len]; omega), List.take_of_length_le (by omega)]
 · have e := mlsL_append (ms.take k) (ms.drop k)
   rw [List.take_append_drop] at e
   rw [e]
   have hl : (mlsL (ms.take k)).length = k * 3 := by rw [mlsL_len, List.length_take]; congr 1; omega
   rw [← hl, List.take_left]
theorem mlsL_drop (ms : List Ml) (k : Nat) : (mlsL ms).drop (k * 3) = mlsL (ms.drop k) := by
 rcases Nat.lt_or_ge ms.length k with h | h
 · rw [List.drop_of_length_le (by rw [mlsL_len]; omega), List.drop_of_length_le (by omega)]; rfl
 · have e := mlsL_append (ms.take k) (ms.drop k)
   rw [List.take_append_drop] at e
   rw [e]
   have hl : (mlsL (ms.take k)).length = k * 3 := by rw [mlsL_len, List.length_take]; congr 1; omega
   rw [← hl, List.drop_left]
theorem mlsL_at (ms : List Ml) (j : Nat) (h : j < ms.length) : (mlsL ms)[j * 3]? = some (.int .i64 ms[j].f) ∧ (mlsL ms)[j * 3 + 1]? = some (.int .i64 ms[j].t) ∧ (mlsL ms)[j * 3 + 2]? = some ms[j].v := by
 have e := mlsL_drop ms j
 rw [List.drop_eq_getElem_cons h] at e
 have e2 : ∀ c, (mlsL ms)[j * 3 + c]? = ((mlsL ms).drop (j * 3))[c]? := fun c => by rw [List.getElem?_drop]
 rw [← Nat.add_zero (j * 3), e2 0, Nat.add_zero, e2 1, e2 2, e]
 exact ⟨rfl, rfl, rfl⟩
theorem mlsL_plain {ms : List Ml} (hs : ∀ m ∈ ms, ∃ A n c, m.v = .slice A n c) {u : Value} (h : u ∈ mlsL ms) : u.oneCell' = true := by
 induction ms with
 | nil => cases h
 | cons o r ih =>
   rw [mlsL, List.mem_append] at h
   rcases h with h | h
   · simp only [mlL, List.mem_cons, List.not_mem_nil, or_false] at h
     rcases h with rfl | rfl | rfl
     · rfl
     · rfl
     · obtain ⟨A, n, c, e⟩ := hs o (List.mem_cons_self ..)
       rw [e]; rfl
   · exact ih (fun m hm => hs m (List.mem_cons_of_mem _ hm)) h
def WR (w : World) (v : Value) (ms : List Ml) : Prop :=
 (v = .slice none 0 0 ∧ ms = []) ∨
 ∃ g cap cur, v = .slice (some ⟨g, 0, none⟩) ms.length cap ∧ w.heap[g]? = some (.cells cur 97 (0, 0)) ∧ ms.length ≤ cap ∧ cap ≤ maxLen ∧ cap * 3 ≤ cur.size ∧ cur.toList.take (ms.length * 3) = mlsL ms
theorem WR.nil (w : World) : WR w (.slice none 0 0) [] := .inl ⟨rfl, rfl⟩
theorem WR.same {w w' : World} {v : Value} {ms : List Ml} (h : WR w v ms) (hs : ∀ k, v.ownBlock = some k → w'.heap[k]? = w.heap[k]?) : WR w' v ms := by
 rcases h with h0 | ⟨g, cap, cur, rfl, hh, r⟩
 · exact .inl h0
 · exact .inr ⟨g, cap, cur, rfl, (hs g rfl).trans hh, r⟩
theorem WR.lt {w : World} {v : Value} {ms : List Ml} (h : WR w v ms) (k : Nat) (hk : v.ownBlock = some k) : k < w.heap.size := by
 rcases h with ⟨rfl, _⟩ | ⟨g, cap, cur, rfl, hh, r⟩
 · cases hk
 · obtain rfl := Option.some.inj hk
   exact (Array.getElem?_eq_some_iff.1 hh).1
theorem WR.form {w : World} {v : Value} {ms : List Ml} (h : WR w v ms) (n : Nat) (hn : ms.length = n) : ∃ A cap, v = .slice A n cap ∧ n ≤ cap ∧ cap ≤ maxLen := by
 subst hn
 rcases h with ⟨rfl, rfl⟩ | ⟨g, cap, cur, rfl, hh, r⟩
 · exact ⟨none, 0, rfl, nl _, by unfold maxLen; omega⟩
 · exact ⟨_, cap, rfl, r.1, r.2.1⟩
theorem WR.cell {w : World} {g n cap : Nat} {ms : List Ml} (h : WR w (.slice (some ⟨g, 0, none⟩) n cap) ms) (j : Nat) (u : Value) (hu : (mlsL ms)[j]? = some u) : w.cell? ⟨g, j, none⟩ = some u := by
 rcases h with ⟨hv, _⟩ | ⟨g', cap', cur, hv, hh, h1, h2, h3, h4⟩
 · cases hv
 · injection hv with e1 e2 e3
   injection e1 with e1; injection e1 with e1
   subst e1
   rw [cell_of_row w g j cur _ _ hh, ← Array.getElem?_toList]
   rw [← h4, List.getElem?_take] at hu
   split at hu
   · exact hu
   · cases hu
theorem WR.at {w : World} {A : Option Addr} {n cap : Nat} {ms : List Ml} (h : WR w (.slice A n cap) ms) (j : Nat) (hj : j < ms.length) :
 ∃ g, A = some ⟨g, 0, none⟩ ∧ w.cell? ⟨g, j * 3, none⟩ = some (.int .i64 ms[j].f) ∧ w.cell? ⟨g, j * 3 + 1, none⟩ = some (.int .i64 ms[j].t) ∧ w.cell? ⟨g, j * 3 + 2, none⟩ = some ms[j].v := by
 have h' := h
 rcases h with ⟨_, rfl⟩ | ⟨g, cap', cur, hv, hh, h1, h2, h3, h4⟩
 · simp at hj
 · injection hv with e1 e2 e3
   subst e1
   obtain ⟨a0, a1, a2⟩ := mlsL_at ms j hj
   exact ⟨g, rfl, h'.cell _ _ a0, h'.cell _ _ a1, h'.cell _ _ a2⟩
theorem WR.fz {w : World} {g n cap : Nat} {ms : List Ml} (h : WR w (.slice (some ⟨g, 0, none⟩) n cap) ms) (j : Nat) : w.frozen? ⟨g, j, none⟩ = false := by
 rcases h with ⟨hv, _⟩ | ⟨g', cap', cur, hv, hh, h1, h2, h3, h4⟩
 · cases hv
 · injection hv with e1 e2 e3
   injection e1 with e1; injection e1 with e1
   subst e1
   exact frozen_of_row w g j cur _ hh
theorem WR.cut {w : World} {g n cap : Nat} {ms : List Ml} (h : WR w (.slice (some ⟨g, 0, none⟩) n cap) ms) (k c : Nat) (hk : k ≤ ms.length) (hkc : k ≤ c) (hc : c ≤ cap) : WR w (.slice (some ⟨g, 0, none⟩) k c) (ms.take k) := by
 rcases h with ⟨hv, _⟩ | ⟨g', cap', cur, hv, hh, h1, h2, h3, h4⟩
 · cases hv
 · injection hv with e1 e2 e3
   injection e1 with e1; injection e1 with e1
   subst e1 e3
   have hl : (ms.take k).length = k := by rw [List.length_take]; omega
   refine .inr ⟨g, c, cur, by rw [hl], hh, by rw [hl]; exact hkc, by omega, by have := Nat.mul_le_mul_right 3 hc; omega, ?_⟩
   rw [hl, ← mlsL_take, ← h4, List.take_take]
   congr 1
   have := Nat.mul_le_mul_right 3 hk
   omega
theorem mail_info : (Tryz.prog.info? 97).map (fun i => (i.zero, i.size, i.bytes)) = some (some (.agg #[.int .i64 0, .int .i64 0, .slice none 0 0]), 3, 40) := by kernel_rfl
def SR (w : World) (A : Option Addr) (ps : List Ml) : Prop := 0 < ps.length → ∃ b off, A = some ⟨b, off, none⟩ ∧ ∀ j u, (mlsL ps)[j]? = some u → w.cell? ⟨b, off + j, none⟩ = some u
theorem WR.of_owns {w : World} {base : Nat} {v : Value} {n : Nat} {ms : List Ml} (h : w.ownsRow base 97 3 v n (mlsL ms)) (hn : ms.length = n) : WR w v ms := by
 subst hn
 rcases h.2 with ⟨rfl, h0⟩ | ⟨g, cap, cur, rfl, _, hg, h1, h2, h3, h4⟩
 · exact .inl ⟨rfl, List.eq_nil_of_length_eq_zero h0⟩
 · exact .inr ⟨g, cap, cur, rfl, hg, h1, h2, by omega, h4⟩
theorem run_append_wr (w : World) (ty : TypeId) (v : Value) (ms ps : List Ml) (h : WR w v ms) (A : Option Addr) (c : Nat) (hr : SR w A ps) (hs : ∀ m ∈ ps, ∃ A n c, m.v = .slice A n c) (hlen : ms.length + ps.length ≤ 1000000) :
 ∃ v' w', (Builtin.append_ #[43, 43] ty #[v, .slice A ps.length c]).run Tryz.prog w = .ok v' w' ∧ WR w' v' (ms ++ ps) ∧ w.grownBy w' v.ownBlock ∧
   ∀ k, v'.ownBlock = some k → v.ownBlock = some k ∨ w.heap.size ≤ k := by
 obtain ⟨i0, hi0, hz0, hz1, hz2⟩ := info_parts mail_info
 have hlo := mlsL_len ms
 have hln := mlsL_len ps
 cases A with
 | none =>
   obtain rfl : ps = [] := by
    rcases Nat.eq_zero_or_pos ps.length with h0 | h0
    · exact List.eq_nil_of_length_eq_zero h0
    · obtain ⟨b, off, e, _⟩ := hr h0
      cases e
   refine ⟨v, w, ?_, by rw [List.append_nil]; exact h, ⟨rfl, rfl, rfl, nl _, fun _ _ _ => rfl⟩, fun k hk => .inl hk⟩
   rcases h with ⟨rfl, h0⟩ | ⟨g, cap, cur, rfl, _, hnc, _⟩
   · simp [Builtin.append_, run_underlying Tryz.underlying43, sizeOf, typeInfo, hi0, Builtin.lenOf, Builtin.firstCells]
   · simp [Builtin.append_, run_underlying Tryz.underlying43, sizeOf, typeInfo, hi0, Builtin.lenOf, Builtin.firstCells, hnc, storeCells]
 | some ad =>
   have hnews : ∀ j u, (mlsL ps)[j]? = some u → w.cell? (ad.add j) = some u := fun j u hj => by
    have hjl : j < (mlsL ps).length := (List.getElem?_eq_some_iff.1 hj).1
    obtain ⟨b, off, e, hc⟩ := hr (by omega)
    have e := Option.some.inj e
    subst e
    rw [Addr.add_lit]
    exact hc j u hj
   have h1 : ∀ u ∈ mlsL ps, u.oneCell' = true := fun u hu => mlsL_plain hs hu
   rcases h with ⟨rfl, rfl⟩ | ⟨g, cap, cur, rfl, hh, h2, h3, h4, h5⟩
   · obtain ⟨v', w', hrun, r2, r3, _, r5⟩ := run_append_own_at (P := Tryz.prog) w w.heap.size 43 ty 97 i0 (.agg #[.int .i64 0, .int .i64 0, .slice none 0 0]) 3 40 Tryz.underlying43 hi0 hz0 hz1 hz2 rfl (by decide) (.slice none 0 0) 0 [] (World.ownsRow_nil _ _ _ _) ad ps.length c (mlsL ps) hln hnews h1 (by unfold maxLen; omega) (by omega) (nl _)
     refine ⟨v', w', hrun, ?_, r3, fun k hk => .inr ?_⟩
     · rw [Nat.zero_add, List.nil_append] at r2
       exact WR.of_owns r2 rfl
     · exact (World.ownsRow.lt r2 k hk).1
   · by_cases hroom : ms.length + ps.length ≤ cap
     · have hfit : ms.length * i0.size + (mlsL ps).length ≤ cur.size := by rw [hln, hz1, ← Nat.add_mul]; exact Nat.le_trans (Nat.mul_le_mul_right _ hroom) h4
       have hrun := run_append_room (P := Tryz.prog) w 43 ty 97 i0 Tryz.underlying43 hi0 g ms.length cap cur hh ad ps.length c (mlsL ps) (by rw [hln, hz1]) hnews h1 hroom hfit
       rw [hz1] at hrun
       refine ⟨_, _, hrun, .inr ⟨g, cap, _, by rw [List.length_append], setRow_heap w g cur _ _ _ hh, by rw [List.length_append]; exact hroom, h3, ?_, ?_⟩, ⟨rfl, rfl, rfl, by simp, fun k _ hk => setRow_other w g k _ (fun e => hk (by simp [Value.ownBlock, e]))⟩, fun k hk => .inl hk⟩
       · rw [hz1] at hfit
         simp only [List.size_toArray, List.length_append, List.length_take, List.length_drop, Array.length_toList]
         omega
       · rw [h5, mlsL_append, List.length_append, Nat.add_mul]
         have e : (mlsL ms ++ mlsL ps).length = ms.length * 3 + ps.length * 3 := by rw [List.length_append, hlo, hln]
         rw [← e]
         exact List.take_left
     · have holds : ∀ j u, (mlsL ms)[j]? = some u → w.cell? ((⟨g, 0, none⟩ : Addr).add j) = some u := fun j u hj => by
        rw [Addr.add_lit, Nat.zero_add]
        exact WR.cell (n := ms.length) (cap := cap) (.inr ⟨g, cap, cur, rfl, hh, h2, h3, h4, h5⟩) j u hj
       obtain ⟨v', w', hrun, r2, r3⟩ := run_append_arg_grows (P := Tryz.prog) w 43 ty 97 i0 (.agg #[.int .i64 0, .int .i64 0, .slice none 0 0]) 3 40 Tryz.underlying43 hi0 hz0 hz1 hz2 rfl (by decide) ⟨g, 0, none⟩ ms.length cap (mlsL ms) hlo holds ad ps.length c (mlsL ps) hln hnews (by omega) (by unfold maxLen; omega) (by omega)
       refine ⟨v', w', hrun, WR.of_owns (n := ms.length + ps.length) (by rw [mlsL_append]; exact r2) (by rw [List.length_append]), ⟨r3.os, r3.tape, r3.output, r3.size, fun k hk _ => r3.block k hk (by simp)⟩, fun k hk => .inr (World.ownsRow.lt r2 k hk).1⟩
theorem wp_append_wr {w : World} {o : Oper} {a : Act} {K : Act → World → Prop} {Q : Exit → Act → World → Prop} (s x : Operand)
 (ho : o.op = .call { callee := .builtin .append, args := #[s, x], argTypes := #[43, 43] })
 (v : Value) (ms ps : List Ml) (hv : a.eval s = v) (h : WR w v ms) (A : Option Addr) (n c : Nat) (hx : a.eval x = .slice A n c) (hn : ps.length = n) (hr : SR w A ps) (hs : ∀ m ∈ ps, ∃ A n c, m.v = .slice A n c) (hlen : ms.length + ps.length ≤ 1000000)
 (hk : ∀ v' w', WR w' v' (ms ++ ps) → w.grownBy w' v.ownBlock → (∀ k, v'.ownBlock = some k → v.ownBlock = some k ∨ w.heap.size ≤ k) → K (a.put o.dst v') w') : o.wp Tryz.prog a w K Q := by
 subst hn
 obtain ⟨v', w', hrun, h2, h3, h4⟩ := run_append_wr w o.type v ms ps h A c hr hs hlen
 unfold Oper.wp execOp
 simp only [ho, resolve, invoke, builtin, Sem.run_bind, Sem.run_pure, Result.andThen_ok, List.map_toArray, List.map_cons, List.map_nil, hv, hx, hrun]
 exact hk v' w' h2 h3 h4
theorem SR.one {w : World} {P : Nat} {f t : Int} {A : Option Addr} {n c : Nat} (h : MlM w P f t A n c) (l : List UInt8) : SR w (some ⟨P, 0, none⟩) [⟨f, t, .slice A n c, l⟩] := fun _ => by
 refine ⟨P, 0, rfl, fun j u hu => ?_⟩
 obtain ⟨c0, c1, c2⟩ := h.c
 have hj : j < 3 := (List.getElem?_eq_some_iff.1 hu).1
 rw [Nat.zero_add]
 obtain rfl | rfl | rfl : j = 0 ∨ j = 1 ∨ j = 2 := by omega
 · rw [c0]; exact hu
 · rw [c1]; exact hu
 · rw [c2]; exact hu
end Go.Proofs.YtpnobpligchpiaaGreatDoor
