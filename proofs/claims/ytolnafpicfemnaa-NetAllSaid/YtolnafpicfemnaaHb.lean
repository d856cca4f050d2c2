/- MEMORY: appending to a row of mails; a net in memory. Package net: bytes.Clone, own, Len, has. -/
import Derived.Test.YtolnafpicfemnaaHa
import Derived.Lib.SliceRun
import Derived.ArgAppend
import Derived.Deep.RegionHeld3
namespace Go.Proofs.Ytolnafpicfemnaa
set_option maxRecDepth 100000
open Go.RowKit
set_option linter.unusedVariables false
set_option linter.unusedSimpArgs false

/-- what is appended: cells that read as mails -/
def SR (w : World) (A : Option Addr) (ps : List Ml) : Prop := 0 < ps.length → ∃ b off, A = some ⟨b, off, none⟩ ∧ ∀ j u, (mlsL ps)[j]? = some u → w.cell? ⟨b, off + j, none⟩ = some u
theorem WR.of_owns {w : World} {base : Nat} {v : Value} {n : Nat} {ms : List Ml} (h : w.ownsRow base 29 3 v n (mlsL ms)) (hn : ms.length = n) : WR w v ms := by
  subst hn
  rcases h.2 with ⟨rfl, h0⟩ | ⟨g, cap, cur, rfl, _, hg, h1, h2, h3, h4⟩
  · exact .inl ⟨rfl, List.eq_nil_of_length_eq_zero h0⟩
  · exact .inr ⟨g, cap, cur, rfl, hg, h1, h2, by omega, h4⟩
theorem run_append_wr (w : World) (ty : TypeId) (v : Value) (ms ps : List Ml) (h : WR w v ms) (A : Option Addr) (c : Nat) (hr : SR w A ps) (hs : ∀ m ∈ ps, ∃ A n c, m.v = .slice A n c) (hlen : ms.length + ps.length ≤ 1000000) :
    ∃ v' w', (Builtin.append_ #[26, 26] ty #[v, .slice A ps.length c]).run Try.prog w = .ok v' w' ∧ WR w' v' (ms ++ ps) ∧ w.grownBy w' v.ownBlock ∧
      ∀ k, v'.ownBlock = some k → v.ownBlock = some k ∨ w.heap.size ≤ k := by
  obtain ⟨i0, hi0, hz0, hz1, hz2⟩ := info_parts mail_info
  have hlo := mlsL_len ms
  have hln := mlsL_len ps
  cases A with
  | none =>
    obtain rfl : ps = [] := by
      rcases Nat.eq_zero_or_pos ps.length with h0 | h0
      · exact List.eq_nil_of_length_eq_zero h0
      · obtain ⟨b, off, e, _⟩ := hr h0
        cases e
    refine ⟨v, w, ?_, by rw [List.append_nil]; exact h, ⟨rfl, rfl, rfl, Nat.le_refl _, fun _ _ _ => rfl⟩, fun k hk => .inl hk⟩
    rcases h with ⟨rfl, h0⟩ | ⟨g, cap, cur, rfl, _, hnc, _⟩
    · simp [Builtin.append_, run_underlying Try.underlying26, sizeOf, typeInfo, hi0, Builtin.lenOf, Builtin.firstCells]
    · simp [Builtin.append_, run_underlying Try.underlying26, sizeOf, typeInfo, hi0, Builtin.lenOf, Builtin.firstCells, hnc, storeCells]
  | some ad =>
    have hnews : ∀ j u, (mlsL ps)[j]? = some u → w.cell? (ad.add j) = some u := fun j u hj => by
      have hjl : j < (mlsL ps).length := (List.getElem?_eq_some_iff.1 hj).1
      obtain ⟨b, off, e, hc⟩ := hr (by omega)
      have e := Option.some.inj e
      subst e
      rw [Addr.add_lit]
      exact hc j u hj
    have h1 : ∀ u ∈ mlsL ps, u.oneCell' = true := fun u hu => mlsL_plain hs hu
    rcases h with ⟨rfl, rfl⟩ | ⟨g, cap, cur, rfl, hh, h2, h3, h4, h5⟩
    · obtain ⟨v', w', hrun, r2, r3, _, r5⟩ := run_append_own_at (P := Try.prog) w w.heap.size 26 ty 29 i0 (.agg #[.int .i64 0, .int .i64 0, .slice none 0 0]) 3 40 Try.underlying26 hi0 hz0 hz1 hz2 rfl (by decide) (.slice none 0 0) 0 [] (World.ownsRow_nil _ _ _ _) ad ps.length c (mlsL ps) hln hnews h1 (by unfold maxLen; omega) (by omega) (Nat.le_refl _)
      refine ⟨v', w', hrun, ?_, r3, fun k hk => .inr ?_⟩
      · rw [Nat.zero_add, List.nil_append] at r2
        exact WR.of_owns r2 rfl
      · exact (World.ownsRow.lt r2 k hk).1
    · by_cases hroom : ms.length + ps.length ≤ cap
      · have hfit : ms.length * i0.size + (mlsL ps).length ≤ cur.size := by rw [hln, hz1, ← Nat.add_mul]; exact Nat.le_trans (Nat.mul_le_mul_right _ hroom) h4
        have hrun := run_append_room (P := Try.prog) w 26 ty 29 i0 Try.underlying26 hi0 g ms.length cap cur hh ad ps.length c (mlsL ps) (by rw [hln, hz1]) hnews h1 hroom hfit
        rw [hz1] at hrun
        refine ⟨_, _, hrun, .inr ⟨g, cap, _, by rw [List.length_append], setRow_heap w g cur _ _ _ hh, by rw [List.length_append]; exact hroom, h3, ?_, ?_⟩, ⟨rfl, rfl, rfl, by simp, fun k _ hk => setRow_other w g k _ (fun e => hk (by simp [Value.ownBlock, e]))⟩, fun k hk => .inl hk⟩
        · rw [hz1] at hfit
          simp only [List.size_toArray, List.length_append, List.length_take, List.length_drop, Array.length_toList]
          omega
        · rw [h5, mlsL_append, List.length_append, Nat.add_mul]
          have e : (mlsL ms ++ mlsL ps).length = ms.length * 3 + ps.length * 3 := by rw [List.length_append, hlo, hln]
          rw [← e]
          exact List.take_left
      · have holds : ∀ j u, (mlsL ms)[j]? = some u → w.cell? ((⟨g, 0, none⟩ : Addr).add j) = some u := fun j u hj => by
          rw [Addr.add_lit, Nat.zero_add]
          exact WR.cell (n := ms.length) (cap := cap) (.inr ⟨g, cap, cur, rfl, hh, h2, h3, h4, h5⟩) j u hj
        obtain ⟨v', w', hrun, r2, r3⟩ := run_append_arg_grows (P := Try.prog) w 26 ty 29 i0 (.agg #[.int .i64 0, .int .i64 0, .slice none 0 0]) 3 40 Try.underlying26 hi0 hz0 hz1 hz2 rfl (by decide) ⟨g, 0, none⟩ ms.length cap (mlsL ms) hlo holds ad ps.length c (mlsL ps) hln hnews (by omega) (by unfold maxLen; omega) (by omega)
        refine ⟨v', w', hrun, WR.of_owns (n := ms.length + ps.length) (by rw [mlsL_append]; exact r2) (by rw [List.length_append]), ⟨r3.os, r3.tape, r3.output, r3.size, fun k hk _ => r3.block k hk (by simp)⟩, fun k hk => .inr (World.ownsRow.lt r2 k hk).1⟩
theorem wp_append_wr {w : World} {o : Oper} {a : Act} {K : Act → World → Prop} {Q : Exit → Act → World → Prop} (s x : Operand)
    (ho : o.op = .call { callee := .builtin .append, args := #[s, x], argTypes := #[26, 26] })
    (v : Value) (ms ps : List Ml) (hv : a.eval s = v) (h : WR w v ms) (A : Option Addr) (n c : Nat) (hx : a.eval x = .slice A n c) (hn : ps.length = n) (hr : SR w A ps) (hs : ∀ m ∈ ps, ∃ A n c, m.v = .slice A n c) (hlen : ms.length + ps.length ≤ 1000000)
    (hk : ∀ v' w', WR w' v' (ms ++ ps) → w.grownBy w' v.ownBlock → (∀ k, v'.ownBlock = some k → v.ownBlock = some k ∨ w.heap.size ≤ k) → K (a.put o.dst v') w') : o.wp Try.prog a w K Q := by
  subst hn
  obtain ⟨v', w', hrun, h2, h3, h4⟩ := run_append_wr w o.type v ms ps h A c hr hs hlen
  unfold Oper.wp execOp
  simp only [ho, resolve, invoke, builtin, Sem.run_bind, Sem.run_pure, Result.andThen_ok, List.map_toArray, List.map_cons, List.map_nil, hv, hx, hrun]
  exact hk v' w' h2 h3 h4
theorem wpList_append_wr {w : World} {ops : Array Oper} {rest : List Oper} {o : Oper} {a : Act} {Q : Exit → Act → World → Prop} (hgd : o.guard = none) (s x : Operand)
    (ho : o.op = .call { callee := .builtin .append, args := #[s, x], argTypes := #[26, 26] })
    (v : Value) (ms ps : List Ml) (hv : a.eval s = v) (h : WR w v ms) (A : Option Addr) (n c : Nat) (hx : a.eval x = .slice A n c) (hn : ps.length = n) (hr : SR w A ps) (hs : ∀ m ∈ ps, ∃ A n c, m.v = .slice A n c) (hlen : ms.length + ps.length ≤ 1000000)
    (hk : ∀ v' w', WR w' v' (ms ++ ps) → w.grownBy w' v.ownBlock → (∀ k, v'.ownBlock = some k → v.ownBlock = some k ∨ w.heap.size ≤ k) → wpList Try.prog ops Q rest (a.put o.dst v') w') : wpList Try.prog ops Q (o :: rest) a w :=
  wpList_plain hgd fun K hK => wp_append_wr s x ho v ms ps hv h A n c hx hn hr hs hlen fun v' w' h1 h2 h3 => hK _ _ (hk v' w' h1 h2 h3)
theorem step_append_wr {w : World} {ops : Array Oper} {o : Oper} {a : Act} {K : Act → World → Prop} {Q : Exit → Act → World → Prop} {E : Prop} (hgd : o.guard = none) (s x : Operand)
    (ho : o.op = .call { callee := .builtin .append, args := #[s, x], argTypes := #[26, 26] })
    (v : Value) (ms ps : List Ml) (hv : a.eval s = v) (h : WR w v ms) (A : Option Addr) (n c : Nat) (hx : a.eval x = .slice A n c) (hn : ps.length = n) (hr : SR w A ps) (hs : ∀ m ∈ ps, ∃ A n c, m.v = .slice A n c) (hlen : ms.length + ps.length ≤ 1000000)
    (hk : ∀ v' w', WR w' v' (ms ++ ps) → w.grownBy w' v.ownBlock → (∀ k, v'.ownBlock = some k → v.ownBlock = some k ∨ w.heap.size ≤ k) → K (a.put o.dst v') w') :
    if Region.wanted o (yielded ops a.tmps) = true then Oper.wp Try.prog o a w K Q else E := by
  have hw : Region.wanted o (yielded ops a.tmps) = true := by simp [Region.wanted, hgd]
  rw [if_pos hw]
  exact wp_append_wr s x ho v ms ps hv h A n c hx hn hr hs hlen hk
/-- one mail at a block's head -/
theorem SR.one {w : World} {P : Nat} {f t : Int} {A : Option Addr} {n c : Nat} (h : MlM w P f t A n c) (l : List UInt8) : SR w (some ⟨P, 0, none⟩) [⟨f, t, .slice A n c, l⟩] := fun _ => by
  refine ⟨P, 0, rfl, fun j u hu => ?_⟩
  obtain ⟨c0, c1, c2⟩ := h.c
  have hj : j < 3 := (List.getElem?_eq_some_iff.1 hu).1
  rw [Nat.zero_add]
  obtain rfl | rfl | rfl : j = 0 ∨ j = 1 ∨ j = 2 := by omega
  · rw [c0]; exact hu
  · rw [c1]; exact hu
  · rw [c2]; exact hu

/-! ### bytes -/
theorem ownsRow_same {w w' : World} {base : Nat} {e : TypeId} {size : Nat} {v : Value} {n : Nat} {xs : List Value} (h : w.ownsRow base e size v n xs) (hs : ∀ k, v.ownBlock = some k → w'.heap[k]? = w.heap[k]?) : w'.ownsRow base e size v n xs := by
  refine ⟨h.1, ?_⟩
  rcases h.2 with h0 | ⟨g, cap, cur, rfl, hb, hg, r⟩
  · exact .inl h0
  · exact .inr ⟨g, cap, cur, rfl, hb, (hs g rfl).trans hg, r⟩
theorem OB.same {w w' : World} {base : Nat} {v : Value} {l : List UInt8} (h : OB w base v l) (hs : ∀ k, v.ownBlock = some k → w'.heap[k]? = w.heap[k]?) : OB w' base v l := ownsRow_same h hs
theorem OB.form_n {w : World} {base : Nat} {v : Value} {l : List UInt8} (h : OB w base v l) (n : Nat) (hn : l.length = n) : ∃ A cap, v = .slice A n cap ∧ n ≤ cap ∧ cap ≤ maxLen ∧ RB w w.heap.size A l := by
  subst hn
  exact h.form _ rfl
theorem OB.lt {w : World} {base : Nat} {v : Value} {l : List UInt8} (h : OB w base v l) (k : Nat) (hk : v.ownBlock = some k) : base ≤ k ∧ k < w.heap.size := World.ownsRow.lt h k hk
theorem OB.empty (w : World) : OB (w.alloc (.cells #[] 5)) w.heap.size (.slice (some ⟨w.heap.size, 0, none⟩) 0 0) [] :=
  ⟨by simp, .inr ⟨w.heap.size, 0, _, rfl, Nat.le_refl _, heap_alloc_new w _, Nat.le_refl _, by unfold maxLen; omega, by rfl, by rfl⟩⟩
theorem conv_rb {w : World} {B : Nat} {A : Option Addr} {l : List UInt8} (h : RB w B A l) (n c : Nat) (hn : l.length = n) : (convert 27 9 (.slice A n c)).run Try.prog w = .ok (.string (str l)) w := by
  by_cases h0 : n = 0
  · subst h0
    obtain rfl := List.eq_nil_of_length_eq_zero hn
    rw [run_convert_bytes_string w _ _ 5 A 0 c Try.underlying27 Try.underlying5 Try.underlying9]
    cases A <;> simp [Conv.bytesToString, loadCells]
    all_goals rfl
  · obtain ⟨b, off, rfl, -, -⟩ := h (by omega)
    exact conv_bytes w b off c l B h n hn
theorem below_own {w0 w w' : World} {b : Nat} (h : Below w0.heap.size w0 w) (hg : w.grownBy w' (some b)) (hb : w0.heap.size ≤ b) : Below w0.heap.size w0 w' := h.grown hg h.size (fun k e => by cases e; exact hb)
set_option maxHeartbeats 1000000 in
theorem bclone_any (w : World) (A : Option Addr) (n cap B : Nat) (x : List UInt8) (hx : RB w B A x) (hn : x.length = n) (hB : B ≤ w.heap.size) (hl : n ≤ 1000) :
    Calls Try.prog 21 #[.slice A n cap] w fun e w' => ∃ v, e = .returned v ∧ OB w' w.heap.size v x ∧ Below w.heap.size w w' := by
  cases A with
  | none =>
    have h0 : x = [] := by
      rcases Nat.eq_zero_or_pos x.length with h0 | h0
      · exact List.eq_nil_of_length_eq_zero h0
      · obtain ⟨b, off, e, _⟩ := hx h0
        cases e
    subst h0
    have hne : ∀ (n c : Nat) (W : World), (binOp .eql 27 (.slice none n c) (.slice none 0 0)).run Try.prog W = .ok (.bool true) W := fun n c W => Lib.run_eql_slice_nil W _ _ _ _ _ _ _ Try.underlying27
    clear hx hn
    go_enter Try.func21, Try.ntmps21
    go_wp2
    go_ret
    exact ⟨_, rfl, OB.nil _ _, Below.refl _ _⟩
  | some A =>
    subst hn
    have hne : ∀ (a : Addr) (n c : Nat) (W : World), (binOp .eql 27 (.slice (some a) n c) (.slice none 0 0)).run Try.prog W = .ok (.bool false) W := fun a n c W => Lib.run_eql_slice_nil W _ _ _ _ _ _ _ Try.underlying27
    have HW := Lib.hid (OB.empty w)
    have HR := Lib.hid (hx.below (((Below.refl w.heap.size w).alloc (Nat.le_refl _) (.cells #[] 5)).mono hB))
    clear hx
    go_enter Try.func21, Try.ntmps21
    go_wp2_with (at_builtin; refine wpList_append_bytes rfl _ _ rfl w.heap.size _ [] x rfl HW.out B _ cap rfl HR.out (by simp; omega) (by simp) ?_; intro v' w2 hown2 hg2 _)
    go_ret
    have hge : ∀ k, (Value.slice (some ⟨w.heap.size, 0, none⟩) 0 0).ownBlock = some k → w.heap.size ≤ k := HW.out.ge
    exact ⟨_, rfl, by simpa using hown2, ((Below.refl w.heap.size w).alloc (Nat.le_refl _) _).grown hg2 (by simp) hge⟩
set_option maxHeartbeats 1000000 in
theorem own_any (w : World) (f t : Int) (A : Option Addr) (n cap B : Nat) (x : List UInt8) (hx : RB w B A x) (hn : x.length = n) (hB : B ≤ w.heap.size) (hl : n ≤ 1000) :
    Calls Try.prog 18 #[mlV f t A n cap] w fun e w' => ∃ A' c', e = .returned (mlV f t A' n c') ∧ OB w' w.heap.size (.slice A' n c') x ∧ Below w.heap.size w w' := by
  obtain ⟨W1, hW1⟩ : ∃ W1, W1 = (w.alloc (mlO f t A n cap)).alloc (mlO 0 0 none 0 0) := ⟨_, rfl⟩
  have B1 : Hid (Below w.heap.size w W1) := by rw [hW1]; exact ((Below.refl _ _).alloc (Nat.le_refl _) _).alloc (by simp) _
  have S1 : Hid (W1.heap.size = w.heap.size + 2) := by show _ = _; rw [hW1]; simp
  have M1 : Hid (MlM W1 w.heap.size f t A n cap) := by rw [hW1]; exact (Below.heap_alloc _ _ _ (by simp)).trans (heap_alloc_new w _)
  have M2 : Hid (MlM W1 (w.heap.size + 1) 0 0 none 0 0) := by
    rw [hW1]
    have h := MlM.new (w.alloc (mlO f t A n cap)) 0 0 none 0 0
    rw [show (w.alloc (mlO f t A n cap)).heap.size = w.heap.size + 1 by simp] at h
    exact h
  have HC := Lib.hid (bclone_any W1 A n cap B x (hx.below (B1.out.mono hB)) hn (Nat.le_trans hB B1.out.size) hl)
  obtain ⟨k0, k1, k2⟩ := M1.out.c
  rw [hW1] at k0 k1 k2
  have HW1 := Lib.hid hW1; have HN := Lib.hid hn
  clear hx hW1 hn
  go_enter Try.func18, Try.ntmps18
  go_wp2_with fail
  rw [← HW1.out]
  (with_reducible refine HC.out.mono ?_)
  rintro e w2 ⟨v, rfl, ho, hb⟩
  obtain ⟨A2, c2, rfl, -, -, -⟩ := ho.form_n n HN.out
  have N1 := M1.out.then_ hb
  have N2 := M2.out.then_ hb
  obtain ⟨z0, z1, z2⟩ := N1.c
  have f2 := N1.fz 2
  have N3 := N1.set_b A2 n c2
  obtain ⟨y0, y1, y2⟩ := N3.c
  have N4 : Hid (MlM (w2.setCell ⟨w.heap.size, 2, none⟩ (.slice A2 n c2)) (w.heap.size + 1) 0 0 none 0 0) := (heap_setCell_other _ _ _ _ (by show _ ≠ w.heap.size; omega)).trans N2
  have O3 : Hid (OB (w2.setCell ⟨w.heap.size, 2, none⟩ (.slice A2 n c2)) W1.heap.size (.slice A2 n c2) x) := ho.same fun k hk => heap_setCell_other _ _ _ _ (by have := (ho.lt k hk).1; have := S1.out; show k ≠ w.heap.size; omega)
  have B3 : Hid (Below w.heap.size w (w2.setCell ⟨w.heap.size, 2, none⟩ (.slice A2 n c2))) := (B1.out.trans (hb.mono B1.out.size)).setCell (Nat.le_refl _) _
  have HN3 := Lib.hid N3
  clear ho hb N1 N2 HC k0 k1 k2 N3 y0 y1 y2
  go_wp2_with (first
    | (refine wpList_load_ml rfl (.tmp 1) rfl w.heap.size (by rfl) HN3.out ?_)
    | (refine wpList_store_ml rfl (.tmp 2) (.tmp 7) rfl (w.heap.size + 1) (by rfl) N4.out (by rfl) ?_; intro w5 p5 s5 g5))
  obtain ⟨r0, r1, r2⟩ := p5.c
  refine bodyPost_ret (v := mlV f t A2 n c2) (by simp [results, Try.results18, go_sem, r0, r1, r2]) rfl ⟨A2, c2, rfl, ?_, below_own B3.out g5 (by omega)⟩
  exact (O3.out.less (by have := S1.out; omega)).same fun k hk => g5.block k (O3.out.lt k hk).2 (fun e => by have := (O3.out.lt k hk).1; have := S1.out; have := Option.some.inj e; omega)
end Go.Proofs.Ytolnafpicfemnaa
