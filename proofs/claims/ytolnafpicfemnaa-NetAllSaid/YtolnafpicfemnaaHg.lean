/- A NET beside a law's own blocks; begun; NetNone. -/
import Derived.Test.YtolnafpicfemnaaHf
import Derived.Lib.SlBytesConst
namespace Go.Proofs.Ytolnafpicfemnaa
set_option maxRecDepth 100000
open Go.RowKit
set_option linter.unusedVariables false
set_option linter.unusedSimpArgs false

/-- a mail in plain words -/
structure Pm where
  f : Int
  t : Int
  l : List UInt8
def Ml.p (m : Ml) : Pm := ⟨m.f, m.t, m.l⟩
theorem map_erase (ms : List Ml) (j : Nat) : (ms.eraseIdx j).map Ml.p = (ms.map Ml.p).eraseIdx j := by
  rw [List.eraseIdx_eq_take_drop_succ, List.eraseIdx_eq_take_drop_succ, List.map_append, List.map_take, List.map_drop]
/-- the blocks of O are as they were -/
def Same (O : Nat → Prop) (w w' : World) : Prop := ∀ k, O k → w'.heap[k]? = w.heap[k]?
/-- what stood ahead of the law is as it was; block b is a net with the mails ps; the law's own blocks O are none of the net's -/
def NF (w0 w : World) (b : Nat) (ps : List Pm) (O : Nat → Prop) : Prop :=
  ∃ v ms, NM w b v ms ∧ ms.map Ml.p = ps ∧ Below w0.heap.size w0 w ∧ (∀ k, NB b v ms k → w0.heap.size ≤ k ∧ ¬ O k) ∧ ∀ k, O k → w0.heap.size ≤ k ∧ k < w.heap.size
section
variable {w0 w w' : World} {b : Nat} {ps : List Pm} {O : Nat → Prop}
theorem NF.be (h : NF w0 w b ps O) : Below w0.heap.size w0 w := by obtain ⟨v, ms, _, _, h3, _⟩ := h; exact h3
theorem NF.belows (h : NF w0 w b ps O) (hb : Below w.heap.size w w') : NF w0 w' b ps O := by
  obtain ⟨v, ms, h1, h2, h3, h4, h5⟩ := h
  exact ⟨v, ms, h1.belows hb, h2, h3.trans (hb.mono h3.size), h4, fun k hk => ⟨(h5 k hk).1, Nat.lt_of_lt_of_le (h5 k hk).2 hb.size⟩⟩
theorem NF.same (h : NF w0 w b ps O) (hb : Below w.heap.size w w') : Same O w w' := by
  obtain ⟨v, ms, h1, h2, h3, h4, h5⟩ := h
  exact fun k hk => hb.block k (h5 k hk).2
theorem NF.drew (h : NF w0 w b ps O) : NF w0 w.drew b ps O := h.belows (Below.refl _ _).drew
theorem NF.add {O' : Nat → Prop} (h : NF w0 w b ps O) (hb : Below w.heap.size w w') (ho : ∀ k, O' k → O k ∨ (w.heap.size ≤ k ∧ k < w'.heap.size)) : NF w0 w' b ps O' := by
  obtain ⟨v, ms, h1, h2, h3, h4, h5⟩ := h
  refine ⟨v, ms, h1.belows hb, h2, h3.trans (hb.mono h3.size), fun k hk => ⟨(h4 k hk).1, fun e => ?_⟩, fun k hk => ?_⟩
  · rcases ho k e with h6 | h6
    · exact (h4 k hk).2 h6
    · have := h1.lt hk; omega
  · rcases ho k hk with h6 | h6
    · exact ⟨(h5 k h6).1, Nat.lt_of_lt_of_le (h5 k h6).2 hb.size⟩
    · exact ⟨Nat.le_trans h3.size h6.1, h6.2⟩
theorem NF.less {O' : Nat → Prop} (h : NF w0 w b ps O) (ho : ∀ k, O' k → O k) : NF w0 w b ps O' := h.add (Below.refl _ _) (fun k hk => .inl (ho k hk))
theorem NF.wrote {x : Nat} (h : NF w0 w b ps O) (hg : w.grownBy w' (some x)) (hx : O x) : NF w0 w' b ps O := by
  obtain ⟨v, ms, h1, h2, h3, h4, h5⟩ := h
  refine ⟨v, ms, h1.same fun k hk => hg.block k (h1.lt hk) (fun e => (h4 k hk).2 (Option.some.inj e ▸ hx)), h2, h3.grown hg h3.size (fun k e => by cases e; exact (h5 x hx).1), h4, fun k hk => ⟨(h5 k hk).1, Nat.lt_of_lt_of_le (h5 k hk).2 hg.size⟩⟩
/-- a row of the law's own that grows -/
theorem NF.grew {O' : Nat → Prop} {row : Option Nat} (h : NF w0 w b ps O) (hg : w.grownBy w' row) (hr : ∀ k, row = some k → O k) (ho : ∀ k, O' k → O k ∨ (w.heap.size ≤ k ∧ k < w'.heap.size)) : NF w0 w' b ps O' := by
  obtain ⟨v, ms, h1, h2, h3, h4, h5⟩ := h
  refine ⟨v, ms, h1.same fun k hk => hg.block k (h1.lt hk) (fun e => (h4 k hk).2 (hr k e.symm)), h2, h3.grown hg h3.size (fun k e => (h5 k (hr k e)).1), fun k hk => ⟨(h4 k hk).1, fun e => ?_⟩, fun k hk => ?_⟩
  · rcases ho k e with h6 | h6
    · exact (h4 k hk).2 h6
    · have := h1.lt hk; omega
  · rcases ho k hk with h6 | h6
    · exact ⟨(h5 k h6).1, Nat.lt_of_lt_of_le (h5 k h6).2 hg.size⟩
    · exact ⟨Nat.le_trans h3.size h6.1, h6.2⟩
theorem nf_up {v v' : Value} {ms ms' : List Ml} (h3 : Below w0.heap.size w0 w) (h4 : ∀ k, NB b v ms k → w0.heap.size ≤ k ∧ ¬ O k) (h5 : ∀ k, O k → w0.heap.size ≤ k ∧ k < w.heap.size) (U : NU w w' b v ms v' ms') (ps' : List Pm) (hp : ms'.map Ml.p = ps') :
    NF w0 w' b ps' O ∧ Same O w w' := by
  refine ⟨⟨v', ms', U.nm, hp, h3.trans ⟨U.os, U.tape, U.output, U.size, fun k hk => U.block k (Nat.lt_of_lt_of_le hk h3.size) (fun e => by have := (h4 k e).1; omega)⟩, fun k hk => ?_, fun k hk => ⟨(h5 k hk).1, Nat.lt_of_lt_of_le (h5 k hk).2 U.size⟩⟩, fun k hk => U.block k (h5 k hk).2 (fun e => (h4 k e).2 hk)⟩
  rcases U.nw k hk with h6 | h6
  · exact h4 k h6
  · exact ⟨Nat.le_trans h3.size h6, fun e => by have := (h5 k e).2; omega⟩
theorem nf_new (w0 w : World) (h : Below w0.heap.size w0 w) (O : Nat → Prop) (ho : ∀ k, O k → w0.heap.size ≤ k ∧ k < w.heap.size) :
    Calls Try.prog 9 #[] w fun e w' => e = .returned (pB w.heap.size) ∧ NF w0 w' w.heap.size [] O ∧ Below w.heap.size w w' :=
  (nnew_any w).mono fun e w' ⟨he, h1, h2, h3⟩ => ⟨he, ⟨_, [], h1, rfl, h.trans (h2.mono h.size), fun k hk => by
    rcases hk with rfl | hk | ⟨m, hm, _⟩
    · exact ⟨h.size, fun e => by have := (ho _ e).2; omega⟩
    · cases hk
    · simp at hm, fun k hk => ⟨(ho k hk).1, by have := (ho k hk).2; omega⟩⟩, h2⟩
theorem nf_len (h : NF w0 w b ps O) (n : Nat) (hn : ps.length = n) : Calls Try.prog 17 #[pB b] w fun e w' => e = .returned (.int .i64 n) ∧ w = w' := by
  obtain ⟨v, ms, h1, h2, _⟩ := h
  exact nlen_any w b v ms h1 n (by rw [← hn, ← h2, List.length_map])
theorem nf_send (h : NF w0 w b ps O) (f t : Int) (A : Option Addr) (n c : Nat) (l : List UInt8) (hr : RB w w.heap.size A l) (hln : l.length = n) (hn : ps.length < 300) (hn1 : n ≤ 1000) :
    Calls Try.prog 11 #[pB b, mlV f t A n c] w fun e w' => e = .returned (.bool true) ∧ NF w0 w' b (ps ++ [⟨f, t, l⟩]) O ∧ Same O w w' := by
  obtain ⟨v, ms, h1, h2, h3, h4, h5⟩ := h
  refine (send_yes w b v ms h1 f t A n c l hr hln (by rw [← h2, List.length_map] at hn; exact hn) hn1).mono fun e w' ⟨he, v', u, U⟩ => ⟨he, nf_up h3 h4 h5 U _ ?_⟩
  rw [List.map_append, h2]; rfl
theorem nf_sendno (h : NF w0 w b ps O) (f t : Int) (A : Option Addr) (n c : Nat) (hn : 300 ≤ ps.length ∨ 1000 < n) (hc : n ≤ c) (hm : c ≤ maxLen) :
    Calls Try.prog 11 #[pB b, mlV f t A n c] w fun e w' => e = .returned (.bool false) ∧ Below w.heap.size w w' := by
  obtain ⟨v, ms, h1, h2, h3, h4, h5⟩ := h
  exact send_no w b v ms h1 f t A n c (by rw [← h2, List.length_map] at hn; exact hn) hc hm
theorem nf_has (h : NF w0 w b ps O) (i : Int) (hi : ¬ (0 ≤ i ∧ i < (ps.length : Int))) (W : World) (hW : Below w.heap.size w W) :
    Calls Try.prog 19 #[pB b, .int .i64 i] W fun e w' => e = .returned (.bool false) ∧ W = w' := by
  obtain ⟨v, ms, h1, h2, h3, h4, h5⟩ := h
  exact has_any W b v ms (h1.belows hW) ps.length (by rw [← h2, List.length_map]) i false (by simp; omega)
theorem nf_lookno (h : NF w0 w b ps O) (i : Int) (hi : ¬ (0 ≤ i ∧ i < (ps.length : Int))) :
    Calls Try.prog 12 #[pB b, .int .i64 i] w fun e w' => e = .returned (.tuple #[mlV 0 0 none 0 0, .bool false]) ∧ Below w.heap.size w w' :=
  look_no w _ i (fun W hW => nf_has h i hi W hW)
theorem nf_takeno (h : NF w0 w b ps O) (i : Int) (hi : ¬ (0 ≤ i ∧ i < (ps.length : Int))) :
    Calls Try.prog 13 #[pB b, .int .i64 i] w fun e w' => e = .returned (.tuple #[mlV 0 0 none 0 0, .bool false]) ∧ Below w.heap.size w w' :=
  take_no w _ i (fun W hW => nf_has h i hi W hW)
theorem nf_dropno (h : NF w0 w b ps O) (i : Int) (hi : ¬ (0 ≤ i ∧ i < (ps.length : Int))) :
    Calls Try.prog 15 #[pB b, .int .i64 i] w fun e w' => e = .returned (.bool false) ∧ w = w' :=
  drop_none w _ i (nf_has h i hi w (Below.refl _ _))
theorem nf_at {ms : List Ml} (h2 : ms.map Ml.p = ps) {j : Nat} {p : Pm} (hp : ps[j]? = some p) : ∃ hj : j < ms.length, ms[j].p = p := by
  subst h2
  have hj := (List.getElem?_eq_some_iff.1 hp).1
  rw [List.length_map] at hj
  refine ⟨hj, ?_⟩
  rw [List.getElem?_map, List.getElem?_eq_getElem hj] at hp
  exact Option.some.inj hp
theorem nf_look (h : NF w0 w b ps O) (hl : ps.length ≤ 1000) (i : Int) (j : Nat) (hi : i = j) (p : Pm) (hp : ps[j]? = some p) (n : Nat) (hn : p.l.length = n) :
    Calls Try.prog 12 #[pB b, .int .i64 i] w fun e w' => ∃ A c, e = .returned (.tuple #[mlV p.f p.t A n c, .bool true]) ∧ OB w' w.heap.size (.slice A n c) p.l ∧ Below w.heap.size w w' := by
  obtain ⟨v, ms, h1, h2, h3, h4, h5⟩ := h
  obtain ⟨hj, rfl⟩ := nf_at h2 hp
  exact look_in w b v ms h1 (by rw [← h2, List.length_map] at hl; exact hl) i j hi hj n hn
theorem nf_take (h : NF w0 w b ps O) (hl : ps.length ≤ 1000) (i : Int) (j : Nat) (hi : i = j) (p : Pm) (hp : ps[j]? = some p) (n : Nat) (hn : p.l.length = n) :
    Calls Try.prog 13 #[pB b, .int .i64 i] w fun e w' => ∃ A c, e = .returned (.tuple #[mlV p.f p.t A n c, .bool true]) ∧ OB w' w.heap.size (.slice A n c) p.l ∧ NF w0 w' b (ps.eraseIdx j) (fun k => O k ∨ (Value.slice A n c).ownBlock = some k) ∧ Same O w w' := by
  obtain ⟨v, ms, h1, h2, h3, h4, h5⟩ := h
  obtain ⟨hj, rfl⟩ := nf_at h2 hp
  refine (take_in w b v ms h1 (by rw [← h2, List.length_map] at hl; exact hl) i j hi hj n hn).mono fun e w' ⟨v', A, c, he, ho, U, hnb⟩ => ?_
  obtain ⟨⟨v2, ms2, q1, q2, q3, q4, q5⟩, hs⟩ := nf_up h3 h4 h5 U (ps.eraseIdx j) (by rw [← h2]; exact map_erase ms j)
  refine ⟨A, c, he, ho, ⟨v', ms.eraseIdx j, U.nm, by rw [← h2]; exact map_erase ms j, q3, fun k hk => ?_, fun k hk => ?_⟩, hs⟩
  · have hx : w0.heap.size ≤ k ∧ ¬ O k := by
      rcases U.nw k hk with h6 | h6
      · exact h4 k h6
      · exact ⟨Nat.le_trans h3.size h6, fun e => by have := (h5 k e).2; omega⟩
    exact ⟨hx.1, fun e => e.elim hx.2 (fun e2 => hnb k e2 hk)⟩
  · rcases hk with hk | hk
    · exact q5 k hk
    · exact ⟨Nat.le_trans h3.size (ho.lt k hk).1, (ho.lt k hk).2⟩
theorem nf_drop (h : NF w0 w b ps O) (hl : ps.length ≤ 1000) (i : Int) (j : Nat) (hi : i = j) (hj : j < ps.length) :
    Calls Try.prog 15 #[pB b, .int .i64 i] w fun e w' => e = .returned (.bool true) ∧ NF w0 w' b (ps.eraseIdx j) O ∧ Same O w w' := by
  obtain ⟨v, ms, h1, h2, h3, h4, h5⟩ := h
  have hl2 : ps.length = ms.length := by rw [← h2, List.length_map]
  exact (drop_in w b v ms h1 (by omega) i j hi (by omega)).mono fun e w' ⟨he, v', U⟩ => ⟨he, nf_up h3 h4 h5 U _ (by rw [← h2]; exact map_erase ms j)⟩
theorem nf_spoil (h : NF w0 w b ps O) (hl : ps.length ≤ 1000) (i : Int) (j : Nat) (hi : i = j) (p : Pm) (hp : ps[j]? = some p) (K : Int) (k : Nat) (hK : K = k) (hk : k < p.l.length) (x : UInt8) (X : Int) (hX : X = (x.toNat : Int)) :
    Calls Try.prog 16 #[pB b, .int .i64 i, .int .i64 K, .int .u8 X] w fun e w' => e = .returned (.bool true) ∧ NF w0 w' b (ps.set j ⟨p.f, p.t, p.l.set k (p.l[k] ^^^ x)⟩) O ∧ Same O w w' := by
  obtain ⟨v, ms, h1, h2, h3, h4, h5⟩ := h
  obtain ⟨hj, rfl⟩ := nf_at h2 hp
  refine (spoil_in w b v ms h1 (by rw [← h2, List.length_map] at hl; exact hl) i j hi hj K k hK hk x X hX).mono fun e w' ⟨he, U⟩ => ⟨he, nf_up h3 h4 h5 U _ ?_⟩
  rw [List.map_set, h2]; rfl
theorem nf_spoilno (h : NF w0 w b ps O) (hl : ps.length ≤ 1000) (i K X : Int) (hi : ¬ ∃ (j : Nat) (p : Pm), i = j ∧ ps[j]? = some p ∧ 0 ≤ K ∧ K < (p.l.length : Int)) :
    Calls Try.prog 16 #[pB b, .int .i64 i, .int .i64 K, .int .u8 X] w fun e w' => e = .returned (.bool false) ∧ w = w' := by
  by_cases hx : 0 ≤ i ∧ i < (ps.length : Int)
  · obtain ⟨v, ms, h1, h2, h3, h4, h5⟩ := h
    have hl2 : ps.length = ms.length := by rw [← h2, List.length_map]
    have hj : i.toNat < ms.length := by omega
    refine spoil_off w b v ms h1 (by omega) i i.toNat (by omega) hj K (fun e => hi ⟨i.toNat, ms[i.toNat].p, by omega, ?_, e.1, e.2⟩) X
    rw [← h2, List.getElem?_map, List.getElem?_eq_getElem hj]; rfl
  · exact spoil_none w _ i K X (nf_has h i hx w (Below.refl _ _))
end
def noB (_ : Nat) : Prop := False
theorem no_noB (w0 w : World) : ∀ k, noB k → w0.heap.size ≤ k ∧ k < w.heap.size := fun _ h => h.elim
theorem rb_cells (w : World) (x : List UInt8) (t : TypeId) (fr : Nat × Nat) (B : Nat) (hB : w.heap.size < B) : RB (w.alloc (.cells (x.map vb).toArray t fr)) B (some ⟨w.heap.size, 0, none⟩) x := fun _ =>
  ⟨w.heap.size, 0, rfl, hB, fun j hj => by rw [cell_of_row _ _ _ _ _ _ (heap_alloc_new w _)]; simp [hj]⟩
set_option maxHeartbeats 4000000 in
theorem begun16_any (w : World) : Calls Try.prog 8 #[] w fun e w' => e = .returned (.bool true) ∧ Below w.heap.size w w' := by
  have HN := Lib.hid (nf_new w w (Below.refl _ _) noB (no_noB w w))
  go_enter Try.func8, Try.ntmps8
  go_wp2_with fail
  (with_reducible refine HN.out.mono ?_)
  rintro e w1 ⟨rfl, F1, -⟩
  have b2 : Below w1.heap.size w1 (w1.alloc (.cells #[.int .u8 97, .int .u8 98] 5 (2, 3))) := (Below.refl _ _).alloc (Nat.le_refl _) _
  have kc : (convert 27 27 (.slice (some ⟨w1.heap.size, 0, none⟩) 2 2)).run Try.prog (w1.alloc (.cells #[.int .u8 97, .int .u8 98] 5)) = .ok (.slice (some ⟨w1.heap.size, 0, none⟩) 2 2) (w1.alloc (.cells #[.int .u8 97, .int .u8 98] 5 (2, 3))) := Lib.run_convert_bytes_const w1 27 5 #[.int .u8 97, .int .u8 98] 2 2 Try.underlying27 Try.underlying5
  have HS := Lib.hid (nf_send (F1.belows b2) 1 2 (some ⟨w1.heap.size, 0, none⟩) 2 2 [97, 98] (rb_cells w1 [97, 98] 5 (2, 3) _ (by simp)) rfl (by decide) (by decide))
  clear HN F1 b2
  go_wp2_with fail
  (with_reducible refine HS.out.mono ?_)
  rintro e w3 ⟨rfl, F3, -⟩
  have HP := Lib.hid (nf_spoil F3 (by decide) 0 0 rfl ⟨1, 2, [97, 98]⟩ rfl 1 1 rfl (by decide) 3 3 (by decide))
  clear HS F3
  go_wp2_with fail
  (with_reducible refine HP.out.mono ?_)
  rintro e w4 ⟨rfl, F4, -⟩
  have HT := Lib.hid (nf_take F4 (by decide) 0 0 rfl ⟨1, 2, [97, 97]⟩ (by rfl) 2 rfl)
  clear HP F4
  go_wp2_with fail
  (with_reducible refine HT.out.mono ?_)
  rintro e w5 ⟨A5, c5, rfl, o5, F5, -⟩
  have B5 := Lib.hid F5.be
  have hF6 := Lib.hid F5
  have O5 := Lib.hid o5
  clear HT F5 o5
  go_wp2_with (first
    | (refine wpList_store_ml rfl (.tmp 4) (.tmp 19) rfl w5.heap.size (by rfl) (MlM.new w5 0 0 none 0 0) (by rfl) ?_; intro w6 p6 s6 g6; have G6 := Lib.hid (below_own (w0 := w5) ((Below.refl _ _).alloc (Nat.le_refl _) (mlO 0 0 none 0 0)) g6 (Nat.le_refl _)); have hs6 : (convert 27 9 (.slice A5 2 c5)).run Try.prog w6 = .ok (.string ⟨#[97, 97]⟩) w6 := conv_rb (O5.out.cells.below G6.out) 2 c5 rfl; have HL := Lib.hid (nf_len (hF6.out.belows G6.out) 0 rfl); obtain ⟨m0, m1, m2⟩ := p6.c; have B6 := Lib.hid (B5.out.trans (G6.out.mono B5.out.size)); clear g6 s6 p6)
    | (go_at_call 17; with_reducible refine HL.out.mono ?_; rintro e w7 ⟨rfl, rfl⟩))
  go_ret
  exact ⟨rfl, B6.out⟩
theorem look_nil (w : World) (i : Int) : Calls Try.prog 12 #[.pointer none, .int .i64 i] w fun e w' => e = .returned (.tuple #[mlV 0 0 none 0 0, .bool false]) ∧ Below w.heap.size w w' := look_no w _ i (fun W _ => has_nil W i)
theorem take_nil (w : World) (i : Int) : Calls Try.prog 13 #[.pointer none, .int .i64 i] w fun e w' => e = .returned (.tuple #[mlV 0 0 none 0 0, .bool false]) ∧ Below w.heap.size w w' := take_no w _ i (fun W _ => has_nil W i)
theorem drop_nil (w : World) (i : Int) : Calls Try.prog 15 #[.pointer none, .int .i64 i] w fun e w' => e = .returned (.bool false) ∧ w = w' := drop_none w _ i (has_nil w i)
theorem spoil_nil (w : World) (i k x : Int) : Calls Try.prog 16 #[.pointer none, .int .i64 i, .int .i64 k, .int .u8 x] w fun e w' => e = .returned (.bool false) ∧ w = w' := spoil_none w _ i k x (has_nil w i)
set_option maxHeartbeats 4000000 in
theorem none_law (w : World) : Calls Try.prog 5 #[] w fun e w' => e = .returned (.bool true) ∧ Below w.heap.size w w' := by
  have HT := Lib.hid take_nil
  have HL := Lib.hid look_nil
  have HG := Lib.hid begun16_any
  have HS : Hid (∀ W, Calls Try.prog 11 #[.pointer none, mlV 0 0 none 0 0] W fun e w' => e = .returned (.bool false) ∧ Below W.heap.size W w') := fun W => send_nil W 0 0 none 0 0
  have HN := Lib.hid nlen_nil
  have HD := Lib.hid drop_nil
  have HP := Lib.hid spoil_nil
  have BB := Lib.hid (Below.refl w.heap.size w)
  go_enter Try.func5, Try.ntmps5
  go_wp2_with (first
    | (go_at_call 13; with_reducible refine (HT.out _ _).mono ?_; rintro e w3 ⟨rfl, B⟩; replace BB := Lib.hid (BB.out.trans (B.mono BB.out.size)); clear B)
    | (go_at_call 12; with_reducible refine (HL.out _ _).mono ?_; rintro e w3 ⟨rfl, B⟩; replace BB := Lib.hid (BB.out.trans (B.mono BB.out.size)); clear B)
    | (refine wpList_store_ml rfl (.tmp 2) (.tmp 9) rfl w3.heap.size (by rfl) (MlM.new w3 0 0 none 0 0) (by rfl) ?_; intro w4 p4 s4 g4; replace BB := Lib.hid (below_own (BB.out.alloc BB.out.size (mlO 0 0 none 0 0)) g4 BB.out.size); clear p4 s4 g4)
    | (refine wpList_store_ml rfl (.tmp 4) (.tmp 14) rfl w3.heap.size (by rfl) (MlM.new w3 0 0 none 0 0) (by rfl) ?_; intro w4 p4 s4 g4; replace BB := Lib.hid (below_own (BB.out.alloc BB.out.size (mlO 0 0 none 0 0)) g4 BB.out.size); clear p4 s4 g4)
    | (go_at_call 8; with_reducible refine (HG.out _).mono ?_; rintro e w3 ⟨rfl, B⟩; replace BB := Lib.hid (BB.out.trans (B.mono BB.out.size)); clear B)
    | (go_at_call 11; with_reducible refine (HS.out _).mono ?_; rintro e w4 ⟨rfl, B⟩; replace BB := Lib.hid (BB.out.trans (B.mono BB.out.size)); clear B)
    | (go_at_call 17; with_reducible refine (HN.out _).mono ?_; rintro e w3 ⟨rfl, rfl⟩)
    | (go_at_call 15; with_reducible refine (HD.out _ _).mono ?_; rintro e w3 ⟨rfl, rfl⟩)
    | (go_at_call 16; with_reducible refine (HP.out _ _ _ _).mono ?_; rintro e w3 ⟨rfl, rfl⟩))
  go_ret
  exact ⟨rfl, BB.out⟩
end Go.Proofs.Ytolnafpicfemnaa
