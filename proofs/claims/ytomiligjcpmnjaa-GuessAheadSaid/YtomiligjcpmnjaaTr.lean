/- MERGED of XTp XTq XTr -/
import Derived.Test.YtomiligjcpmnjaaTl
import Derived.Test.YtomiligjcpmnjaaXm
import Derived.Test.YtomiligjcpmnjaaVh
import Derived.Deep.CutBlock
import Derived.Deep.CutRange
/- XTp -/
namespace Go.Proofs.Ytomiligjcpmnjaa
set_option maxRecDepth 100000
open Go.RowKit
set_option linter.unusedVariables false
set_option linter.unusedSimpArgs false

/-- v is the call's own row of the rows ms, each with bytes of its own -/
structure YR (w : World) (base : Nat) (v : Value) (ms : List Rl) : Prop where
  row : w.ownsRow base 23 1 v ms.length (ms.map Rl.v)
  line : ∀ m ∈ ms, OB w base m.v m.l ∧ ∀ k, m.v.ownBlock = some k → v.ownBlock ≠ some k
section
variable {w w' : World} {base : Nat} {v : Value} {ms : List Rl}
theorem YR.nil (w : World) (base : Nat) : YR w base (.slice none 0 0) [] := ⟨World.ownsRow_nil _ _ _ _, fun m hm => (by cases hm)⟩
theorem YR.same (h : YR w base v ms) (hs : ∀ k, LB v ms k → w'.heap[k]? = w.heap[k]?) : YR w' base v ms :=
  ⟨ownsRow_same h.row fun k hk => hs k (.inl hk), fun m hm => ⟨(h.line m hm).1.same fun k hk => hs k (.inr ⟨m, hm, hk⟩), (h.line m hm).2⟩⟩
theorem YR.lt (h : YR w base v ms) {k : Nat} (hk : LB v ms k) : base ≤ k ∧ k < w.heap.size := by
  rcases hk with hk | ⟨m, hm, hk⟩
  · exact World.ownsRow.lt h.row k hk
  · exact (h.line m hm).1.lt k hk
theorem YR.belows (h : YR w base v ms) {B : Nat} (hb : Below B w w') (hB : w.heap.size ≤ B) : YR w' base v ms := h.same fun k hk => hb.block k (Nat.lt_of_lt_of_le (h.lt hk).2 hB)
theorem YR.mono (h : YR w base v ms) {b' : Nat} (hb : b' ≤ base) : YR w b' v ms := by
  refine ⟨⟨h.row.1, ?_⟩, fun m hm => ⟨(h.line m hm).1.less hb, (h.line m hm).2⟩⟩
  rcases h.row.2 with h0 | ⟨g, cap, cur, hv, hg, h2⟩
  · exact .inl h0
  · exact .inr ⟨g, cap, cur, hv, by omega, h2⟩
/-- a row more -/
theorem YR.snoc {w4 : World} {v2 : Value} (h : YR w base v ms) (m : Rl) (ho : OB w base m.v m.l) (hne : ∀ k, m.v.ownBlock = some k → v.ownBlock ≠ some k) (g : w.grownBy w4 v.ownBlock)
    (hr : w4.ownsRow base 23 1 v2 (ms.length + 1) (ms.map Rl.v ++ [m.v])) (e : v2.ownBlock = v.ownBlock ∨ v2.ownBlock = some w.heap.size) : YR w4 base v2 (ms ++ [m]) := by
  have hone : ∀ y ∈ ms ++ [m], OB w base y.v y.l ∧ ∀ k, y.v.ownBlock = some k → v.ownBlock ≠ some k := fun y hy => by
    rcases List.mem_append.1 hy with hy | hy
    · exact h.line y hy
    · obtain rfl := List.mem_singleton.1 hy
      exact ⟨ho, hne⟩
  refine ⟨by rw [List.length_append, List.map_append]; exact hr, fun y hy => ?_⟩
  obtain ⟨q0, q1⟩ := hone y hy
  refine ⟨q0.same fun k hk => g.block k (q0.lt k hk).2 (fun e => q1 k hk e.symm), fun k hk e3 => ?_⟩
  rcases e with e | e
  · exact q1 k hk (e.symm.trans e3)
  · have := Option.some.inj (e.symm.trans e3); have := (q0.lt k hk).2; omega
/-- what a caller reads -/
theorem YR.reads (h : YR w base v ms) (n : Nat) (hn : ms.length = n) : ∃ A c, v = .slice A n c ∧ RR w w.heap.size A (ms.map Rl.l) := by
  subst hn
  rcases h.row.2 with ⟨hv, h0⟩ | ⟨g, cap, cur, hv, h1, h2, h3, h4, h5, h6⟩
  · have h00 : ms.length = 0 := h0
    obtain rfl : ms = [] := List.eq_nil_of_length_eq_zero h00
    exact ⟨none, 0, hv, RR.nil _ _ _⟩
  · refine ⟨some ⟨g, 0, none⟩, cap, hv, fun j l hj => ?_⟩
    have hj2 : j < ms.length := by have := (List.getElem?_eq_some_iff.1 hj).1; simpa using this
    obtain ⟨A, c, hmv, -, -, hrb⟩ := (h.line ms[j] (List.getElem_mem hj2)).1.form_n ms[j].l.length rfl
    have hl : ms[j].l = l := by
      rw [List.getElem?_map, List.getElem?_eq_getElem hj2] at hj
      exact Option.some.inj hj
    rw [hl] at hmv hrb
    refine ⟨g, A, c, rfl, (Array.getElem?_eq_some_iff.1 h2).1, ?_, hrb⟩
    rw [cell_of_row w g j _ _ _ h2]
    have e := congrArg (·[j]?) h6
    simp only [Nat.mul_one, List.getElem?_take, hj2, if_true, List.getElem?_map, List.getElem?_eq_getElem hj2, Option.map_some] at e
    rw [← hmv]
    simpa using e
end
def sOne (u : Value) : Obj := .cells #[u] 23
theorem wpList_append_rows {w : World} {ops : Array Oper} {rest : List Oper} {o : Oper} {a : Act} {Q : Exit → Act → World → Prop} (hgd : o.guard = none) (s x : Operand)
    (ho : o.op = .call { callee := .builtin .append, args := #[s, x], argTypes := #[37, 37] })
    (base : Nat) (v : Value) (us : List Value) (u : Value) (hs : a.eval s = v) (hown : (w.alloc (sOne u)).ownsRow base 23 1 v us.length us) (h1 : u.oneCell' = true) (P : Nat) (hP : w.heap.size = P) (hx : a.eval x = .slice (some ⟨P, 0, none⟩) 1 1) (hlen : us.length ≤ 2000) (hbase : base ≤ w.heap.size)
    (h : ∀ v' w', w'.ownsRow base 23 1 v' (us.length + 1) (us ++ [u]) → (w.alloc (sOne u)).grownBy w' v.ownBlock → (v'.ownBlock = v.ownBlock ∨ v'.ownBlock = some (w.heap.size + 1)) → wpList Try.prog ops Q rest (a.put o.dst v') w') : wpList Try.prog ops Q (o :: rest) a (w.alloc (sOne u)) := by
  subst hP
  obtain ⟨i0, hi0, hz0, hz1, hz2⟩ := info_parts bs_info
  refine wpList_append_own_at (P := Try.prog) (w.alloc (sOne u)) hgd s x 37 ho base 23 i0 (.slice none 0 0) 1 24 Try.underlying37 hi0 hz0 hz1 hz2 rfl (by decide) v us.length _ hs hown ⟨w.heap.size, 0, none⟩ 1 1 [u] hx rfl (cell_one_new _ _ _) (by simp [h1]) (by unfold maxLen; omega) (by omega) (by rw [World.size_alloc]; omega) ?_
  intro v' w' h1 h2 _ h4
  exact h v' w' h1 h2 (by rw [World.size_alloc] at h4; exact h4)
/-- a row more, as a walk wants it: u lies in a block of its own, made behind the row's -/
theorem YR.push {W w4 : World} {base : Nat} {v v2 : Value} {ms : List Rl} (h : YR W base v ms) (u : Value) (l : List UInt8) (M : Nat) (hM : W.heap.size = M) (X : World) (hb : Below M W X) (ho : OB X M u l)
    (g : (X.alloc (sOne u)).grownBy w4 v.ownBlock) (hr : w4.ownsRow base 23 1 v2 ((ms.map Rl.v).length + 1) (ms.map Rl.v ++ [u])) (e : v2.ownBlock = v.ownBlock ∨ v2.ownBlock = some (X.heap.size + 1)) (hB : base ≤ M) : YR w4 base v2 (ms ++ [⟨u, l⟩]) ∧ Below M W X := by
  have hb2 : Below M W (X.alloc (sOne u)) := hb.alloc (by rw [← hM]; exact hb.size) _
  have h2 : YR (X.alloc (sOne u)) base v ms := h.belows hb2 (by rw [hM]; exact Nat.le_refl _)
  refine ⟨h2.snoc ⟨u, l⟩ ((ho.below ((Below.refl _ _).alloc (Nat.le_refl _) _) (Nat.le_refl _)).less hB) (fun k hk e2 => ?_) g (by rw [List.length_map] at hr; exact hr) (by rw [World.size_alloc]; exact e), hb⟩
  have := (ho.lt k hk).1
  have := (h.lt (.inl e2)).2
  omega
end Go.Proofs.Ytomiligjcpmnjaa

/- XTq -/
namespace Go.Proofs.Ytomiligjcpmnjaa
set_option maxRecDepth 100000
open Go.RowKit Go.Maps
set_option linter.unusedVariables false
set_option linter.unusedSimpArgs false

theorem fr_eq (ls : List (List UInt8)) : frontP ls = frP ls := rfl
theorem rby_box (w : World) (z o : Int) (A : Option Addr) (X c : Nat) : Box3 (w.alloc (.cells #[.int .i64 z, .int .i64 o, .slice A X c] 25)) w.heap.size z o A X c := box3 (heap_alloc_last w _)
/-- a line guessed on, as the document says it -/
def gP (b : Kd) (r t : Nat) (ls : List (List UInt8)) (p0 p : Nat) : List UInt8 := fullP b r t (decide (0 < r ∧ p = p0)) (ls.getD p [])
theorem gP_cel (b : Kd) (r t : Nat) {ls : List (List UInt8)} {F p0 : Nat} (h : First ls F p0) (hF : F < t) (i p : Nat) : (gP b r t ls p0 p).getD (F + i) 0 = celP b r t ls F p0 i p := by
  unfold gP
  by_cases h0 : 0 < r
  · unfold celP
    congr 2
    by_cases e : p = p0
    · rw [decide_eq_true ⟨h0, e⟩, decide_eq_true e]
    · rw [decide_eq_false (fun x => e x.2), decide_eq_false e]
  · obtain rfl : r = 0 := by omega
    rw [celP_zero b 0 t rfl ls F p0 i p h hF, decide_eq_false (fun x => h0 x.1)]
theorem gP_len (b : Kd) (r t : Nat) (ls : List (List UInt8)) (p0 p : Nat) : t ≤ (gP b r t ls p0 p).length := by
  unfold gP; rw [fullP_len]; omega
/-- does the odd press come here? -/
theorem odd_here {r : Nat} {ls : List (List UInt8)} {F p0 k L : Nat} (h : First ls F p0) (hL : (ls.getD k []).length = L) (hk : k ≤ p0 ∨ p0 < k) : (decide (0 < r) && !(decide (0 < r ∧ p0 < k)) && decide (L = F)) = decide (0 < r ∧ k = p0) := by
  by_cases h0 : 0 < r
  · by_cases h1 : p0 < k
    · have : ¬ k = p0 := by omega
      simp [h0, h1, this]
    · by_cases h2 : L = F
      · have : k = p0 := by
          rcases Nat.lt_or_ge k p0 with c | c
          · exact absurd (hL.trans h2) (h.2.2 k c)
          · omega
        subst this
        simp [h0, h2]
      · have : ¬ k = p0 := fun e => h2 (by rw [← hL, e]; exact h.2.1)
        simp [h0, h1, h2, this]
  · simp [h0]
set_option maxHeartbeats 2000000 in
theorem rahead_none (w : World) (base : Nat) (v : Value) (ms : List Rl) (h : LR w base v ms) (h0 : 0 < ms.length) (h8 : ms.length ≤ 8) (hl : ∀ m ∈ ms, m.l.length ≤ 1000) (F : Nat) (hF : frontP (ms.map Rl.l) = F) (z o : Int) (A : Option Addr) (X c : Nat) (hX : X ≤ maxLen) (r t : Int)
    (may : Bool) (hmay : mayB z o X = may) (hno : r < 0 ∨ t ≤ (F : Int) ∨ 1000 < t ∨ may = false) :
    Calls Try.prog 15 #[v, .agg #[.int .i64 z, .int .i64 o, .slice A X c], .int .i64 r, .int .i64 t] w fun e w' => e = .returned (.slice none 0 0) ∧ Below w.heap.size w w' := by
  obtain ⟨w2, hw2⟩ : ∃ w2, w.alloc (.cells #[.int .i64 z, .int .i64 o, .slice A X c] 25) = w2 := ⟨_, rfl⟩
  have b2 : Below w.heap.size w w2 := by rw [← hw2]; exact (Below.refl _ _).alloc (Nat.le_refl _) _
  have HFr := Lib.hid (rfront_any w2 base v ms (h.belows b2) h0 h8 hl F hF)
  have HM := Lib.hid (mayBy_at z o A X c w2 hX may hmay)
  have B2 := Lib.hid b2
  have HW := Lib.hid hw2
  rw [← hw2] at HFr HM
  clear h h0 h8 hl hF b2 hw2 hmay
  cases may with
  | false =>
    clear hno
    go_enter Try.func15, Try.ntmps15
    go_wp2_with (first
      | (go_at_call 17; with_reducible refine HFr.out.mono ?_; rintro e w3 ⟨rfl, rfl⟩)
      | (go_at_call 32; with_reducible refine HM.out.mono ?_; rintro e w3 ⟨rfl, hb⟩; rw [HW.out] at hb; have HB := Lib.hid (B2.out.trans (hb.mono B2.out.size)); clear hb))
    go_ret
    exact ⟨rfl, HB.out⟩
  | true =>
    by_cases h1 : r < 0
    · clear hno
      go_enter Try.func15, Try.ntmps15
      go_wp2_with (first
        | (go_at_call 17; with_reducible refine HFr.out.mono ?_; rintro e w3 ⟨rfl, rfl⟩)
        | (go_at_call 32; with_reducible refine HM.out.mono ?_; rintro e w3 ⟨rfl, hb⟩; rw [HW.out] at hb; have HB := Lib.hid (B2.out.trans (hb.mono B2.out.size)); clear hb))
      go_ret
      exact ⟨rfl, HB.out⟩
    by_cases h3 : 1000 < t
    · clear hno
      go_enter Try.func15, Try.ntmps15
      go_wp2_with (first
        | (go_at_call 17; with_reducible refine HFr.out.mono ?_; rintro e w3 ⟨rfl, rfl⟩)
        | (go_at_call 32; with_reducible refine HM.out.mono ?_; rintro e w3 ⟨rfl, hb⟩; rw [HW.out] at hb; have HB := Lib.hid (B2.out.trans (hb.mono B2.out.size)); clear hb))
      go_ret
      exact ⟨rfl, HB.out⟩
    · have h2 : t ≤ (F : Int) := by
        rcases hno with q | q | q | q
        · exact absurd q h1
        · exact q
        · exact absurd q h3
        · cases q
      clear hno
      go_enter Try.func15, Try.ntmps15
      go_wp2_with (first
        | (go_at_call 17; with_reducible refine HFr.out.mono ?_; rintro e w3 ⟨rfl, rfl⟩)
        | (go_at_call 32; with_reducible refine HM.out.mono ?_; rintro e w3 ⟨rfl, hb⟩; rw [HW.out] at hb; have HB := Lib.hid (B2.out.trans (hb.mono B2.out.size)); clear hb))
      go_ret
      exact ⟨rfl, HB.out⟩
end Go.Proofs.Ytomiligjcpmnjaa

/- XTr -/
namespace Go.Proofs.Ytomiligjcpmnjaa
set_option maxRecDepth 100000
open Go.RowKit Go.Maps
set_option linter.unusedVariables false
set_option linter.unusedSimpArgs false

set_option maxHeartbeats 2000000 in
theorem rahead_in (w : World) (base : Nat) (v : Value) (ms : List Rl) (h : LR w base v ms) (n : Nat) (hn : ms.length = n) (h0 : 0 < n) (h8 : n ≤ 8) (hl : ∀ m ∈ ms, m.l.length ≤ 1000) (F : Nat) (hF : frontP (ms.map Rl.l) = F) (b : Kd) (z o : Int) (hz : z = (b.k : Int)) (ho : o = (b.o : Int)) (A : Option Addr) (X c : Nat) (hk : KM w b A X c) (r t : Nat) (hFt : F < t) (ht : t ≤ 1000) (p0 : Nat) (hp0 : First (ms.map Rl.l) F p0) :
    Calls Try.prog 15 #[v, .agg #[.int .i64 z, .int .i64 o, .slice A X c], .int .i64 (r : Int), .int .i64 (t : Int)] w fun e w' => ∃ A' c', e = .returned (.slice A' (t - F) c') ∧ RR w' w'.heap.size A' (rowsP b r t (ms.map Rl.l) F p0) ∧ Below w.heap.size w w' := by
  obtain ⟨g, cap, cur, rfl, -, -, -, -⟩ := h.form (by omega) n hn
  obtain ⟨w2, hw2⟩ : ∃ w2, w.alloc (.cells #[.int .i64 z, .int .i64 o, .slice A X c] 25) = w2 := ⟨_, rfl⟩
  have b2 : Below w.heap.size w w2 := by rw [← hw2]; exact (Below.refl _ _).alloc (Nat.le_refl _) _
  have s2 : w2.heap.size = w.heap.size + 1 := by rw [← hw2]; simp
  have HBX : Hid (Box3 w2 w.heap.size z o A X c) := by rw [← hw2]; exact rby_box w z o A X c
  have HFr := Lib.hid (rfront_any w2 base _ ms (h.belows b2) (by omega) (by omega) hl F hF)
  have hmay : mayB z o X = true := by rw [hz, ho]; exact hk.may
  have HM := Lib.hid (mayBy_at z o A X c w2 hk.nm true hmay)
  have HK := Lib.hid (hk.then_ b2)
  have HL2 := Lib.hid (h.belows b2)
  have B2 := Lib.hid b2; have S2 := Lib.hid s2; have HW := Lib.hid hw2
  have HMN := Lib.hid hn; have HSM := Lib.hid hl
  obtain ⟨ls, hls⟩ : ∃ ls, ms.map Rl.l = ls := ⟨_, rfl⟩
  have HLS := Lib.hid hls
  rw [hls] at hp0 ⊢
  have HP0 := Lib.hid hp0
  have hlsn : Hid (ls.length = n) := by show _ = _; rw [← hls, List.length_map]; exact hn
  have HZ := Lib.hid hz; have HO := Lib.hid ho
  rw [← hw2] at HFr HM
  have hr0 : ¬ (r : Int) < 0 := by omega
  have hrd : decide ((r : Int) < 0) = false := decide_eq_false hr0
  have hFt1 : ¬ (t : Int) ≤ (F : Int) := by omega
  have ht1 : ¬ 1000 < (t : Int) := by omega
  have hd1 : decide (t ≤ F) = false := decide_eq_false (by omega)
  have hd2 : decide ((1000 : Int) < (t : Int)) = false := decide_eq_false ht1
  have hd3 : decide ((t : Int) ≤ (F : Int)) = false := decide_eq_false hFt1
  clear h hn hl hF b2 s2 hw2 hmay hk hls hp0 hz ho
  go_enter Try.func15, Try.ntmps15
  go_wp2_with (first
    | (go_at_call 17; with_reducible refine HFr.out.mono ?_; rintro e w3 ⟨rfl, rfl⟩)
    | (go_at_call 32; with_reducible refine HM.out.mono ?_; rintro e w3 ⟨rfl, hb⟩; rw [HW.out] at hb; have HB3 := Lib.hid hb; clear hb))
  obtain ⟨B3, hB3⟩ : ∃ B3, w3.heap.size = B3 := ⟨_, rfl⟩
  have BXA : Hid (∀ wx, Below B3 w3 wx → (wx.cell? ⟨w.heap.size, 0, none⟩ = some (.int .i64 z) ∧ wx.cell? ⟨w.heap.size, 1, none⟩ = some (.int .i64 o) ∧ wx.cell? ⟨w.heap.size, 2, none⟩ = some (.slice A X c)) ∧ Below w.heap.size w wx ∧ KM wx b A X c ∧ LR wx base (.slice (some ⟨g, 0, none⟩) n cap) ms) := fun wx hx => by
    have h1 : Below w2.heap.size w2 wx := HB3.out.trans (hx.mono (by rw [← hB3]; exact HB3.out.size))
    exact ⟨HBX.out wx (by rw [← S2.out]; exact h1), B2.out.trans (h1.mono B2.out.size), HK.out.then_ h1, HL2.out.belows h1⟩
  have HBB := Lib.hid hB3
  clear HBX HK HL2 B2 S2 HW HB3 HFr HM hr0 hrd hFt1 ht1 hd1 hd2 hd3 hB3
  go_loopw [10, 11, 12, 13] (fun v10 v11 v12 v13 wr => ∃ (k : Nat) (os : List Rl) (od : Bool), v12 = .int .i64 (k : Int) ∧ k ≤ n ∧ v11 = .bool od ∧ Hid (od = decide (0 < r ∧ p0 < k)) ∧ Hid (YR wr B3 v10 os) ∧ Hid (os.map Rl.l = (List.range k).map (gP b r t ls p0)) ∧ Hid (Below B3 w3 wr)) (fun _ _ v12 _ _ => n - (intOf v12).toNat)
  case atStart => exact ⟨0, [], false, rfl, by omega, rfl, (decide_eq_false (by omega)).symm, YR.nil _ _, rfl, Below.refl _ _⟩
  case round =>
    obtain ⟨k, os, od, rfl, hkn, rfl, HOD, HY, HOS, HB⟩ := hrel
    by_cases hlt : k < n
    · obtain ⟨⟨hc0, hc1, hc2⟩, -, hK, hLr⟩ := BXA.out wr HB.out
      obtain ⟨m, hm⟩ : ∃ m, ms[k]? = some m := ⟨_, List.getElem?_eq_getElem (by rw [HMN.out]; exact hlt)⟩
      obtain ⟨l, hl⟩ : ∃ l, m.l = l := ⟨_, rfl⟩
      obtain ⟨L, hL⟩ : ∃ L, l.length = L := ⟨_, rfl⟩
      obtain ⟨A1, c1, x1, -, y1⟩ := hLr.line_at k m hm L (by rw [hl]; exact hL)
      rw [hl] at y1
      have hL1 : L ≤ 1000 := by rw [← hL, ← hl]; exact HSM.out m (List.mem_of_getElem? hm)
      have hlk : Hid (ls.getD k [] = l) := by show _ = _; rw [← HLS.out, List.getD, List.getElem?_map, hm]; exact hl
      obtain ⟨Bk, hBk⟩ : ∃ Bk, wr.heap.size = Bk := ⟨_, rfl⟩
      have hB3k : Hid (B3 ≤ Bk) := by show _ ≤ _; rw [← hBk, ← HBB.out]; exact HB.out.size
      have HKk := Lib.hid hK
      have R1 := Lib.hid y1
      have ON := Lib.hid (OB.nil wr Bk)
      have hmm : Hid (([] : List UInt8).length + l.length ≤ 140737488355328) := by show _ ≤ _; rw [hL]; simp; omega
      have hBks : Hid (Bk ≤ wr.heap.size) := by show _ ≤ _; rw [hBk]; exact Nat.le_refl _
      have hkz : (k : Int) < (n : Int) := by omega
      have HLl := Lib.hid hL
      have HBk := Lib.hid hBk
      obtain ⟨l', hl'⟩ : ∃ l' : List UInt8, l' = l := ⟨_, rfl⟩
      subst hL
      clear hm hl y1 hK hLr hBk hl'
      go_upto_region 10 with (at_builtin; refine wpList_append_bytes rfl (.const (.slice none 0 0)) (.tmp 46) rfl Bk _ [] l rfl ON.out _ _ _ rfl R1.out hmm.out hBks.out ?_; intro v5 w5 o5 g5 e5; rw [List.nil_append] at o5; obtain ⟨A5, c5, rfl, -, -, -⟩ := o5.form_n l.length rfl; have O5 := Lib.hid o5; have hb5 : Below Bk wr w5 := (Below.refl _ _).grown g5 hBks.out (fun j e => by cases e); have HB5 := Lib.hid hb5; clear o5 g5 e5 hb5)
      obtain ⟨L, hL⟩ : ∃ L, l.length = L := ⟨_, rfl⟩
      have HLL := Lib.hid hL
      rw [hL] at hL1 O5 ⊢
      clear hL
      obtain ⟨cb, hcb⟩ : ∃ cb : Bool, decide (0 < r ∧ k = p0) = cb := ⟨_, rfl⟩
      have HCB := Lib.hid hcb
      have HOH : Hid ((decide (0 < r) && !od && decide (L = F)) = cb) := by
        show _ = _
        rw [← hcb, HOD.out]
        exact odd_here HP0.out (by rw [hlk.out]; exact HLL.out) (by omega)
      clear hcb
      go_cut [59] (fun s59 wx => s59 = .bool cb ∧ wx = w5)
      case first =>
        by_cases q0 : 0 < r
        · have q0z : (0 : Int) < (r : Int) := by omega
          cases od with
          | true =>
            have hc : Hid (cb = false) := by show _ = _; rw [← HOH.out]; simp
            go_wp2
            go_meet
            exact ⟨by rw [hc.out], rfl⟩
          | false =>
            by_cases q1 : L = F
            · have hc : Hid (cb = true) := by show _ = _; rw [← HOH.out]; simp [q0, q1]
              have q2 : ((L : Int) == (F : Int)) = true := by rw [q1]; simp
              clear q1
              go_wp2
              go_meet
              exact ⟨by rw [hc.out], rfl⟩
            · have hc : Hid (cb = false) := by show _ = _; rw [← HOH.out]; simp [q1]
              have q2 : ((L : Int) == (F : Int)) = false := by simp; omega
              go_wp2
              go_meet
              exact ⟨by rw [hc.out], rfl⟩
        · have q0z : ¬ (0 : Int) < (r : Int) := by omega
          have q0d : decide ((0 : Int) < (r : Int)) = false := decide_eq_false q0z
          have hc : Hid (cb = false) := by show _ = _; rw [← HOH.out]; simp [q0]
          go_wp2
          go_meet
          exact ⟨by rw [hc.out], rfl⟩
      case rest =>
        obtain ⟨rfl, hw⟩ := hcut
        subst wc
        obtain ⟨L1, hL1e⟩ : ∃ L1, begP b r cb l = L1 := ⟨_, rfl⟩
        obtain ⟨l1, hl1⟩ : ∃ l1, L1.length = l1 := ⟨_, rfl⟩
        have HL1e := Lib.hid hL1e; have Hl1 := Lib.hid hl1
        obtain ⟨od', hod'⟩ : ∃ od' : Bool, od' = decide (0 < r ∧ p0 < k + 1) := ⟨_, rfl⟩
        have HOD2 := Lib.hid hod'
        have HB3c : Hid (Below B3 w3 w5) := HB.out.trans (HB5.out.mono hB3k.out)
        obtain ⟨A5', c5', e5, hc5, hm5, r5⟩ := O5.form_n L HLL.out
        injection e5 with e5 e6 e7
        subst e5 e7
        have HP5 : Hid (PM w5 A5 l L c5) := PM.mk HLL.out hc5 hm5 r5
        have O5h := Lib.hid O5
        clear hL1e hl1 hod' r5 hc5 hm5 O5 R1 ON x1 hc0 hc1 hc2
        obtain ⟨⟨hc0, hc1, hc2⟩, -, hK, -⟩ := BXA.out w5 HB3c.out
        have HK5 := Lib.hid hK
        clear hK
        go_upto_if 59 with fail
        go_cut [11, 13] from 60 to 72 (fun s11 s13 wx => s11 = .bool od' ∧ ∃ A1 c1, s13 = .slice A1 l1 c1 ∧ Hid (OB wx Bk (.slice A1 l1 c1) L1) ∧ Hid (Below Bk wr wx))
        case first =>
          cases cb with
          | true =>
            have hcb := of_decide_eq_true HCB.out
            have hLe : Hid (l ++ [rkA b r l] = L1) := by rw [← HL1e.out]; rfl
            have hod2 : Hid (od' = true) := by show _ = _; rw [HOD2.out]; exact decide_eq_true ⟨hcb.1, by omega⟩
            obtain ⟨R, hRe⟩ : ∃ R, r % 256 = R := ⟨_, rfl⟩
            have hmod : (r : Int).tmod 256 = (R : Int) := by rw [← hRe]; rfl
            have hR : R < 256 := by omega
            obtain ⟨y, hy⟩ : ∃ y, rkA b r l = y := ⟨_, rfl⟩
            obtain ⟨S, hS⟩ : ∃ S, (rk (sc b l)).take (R + 1) = S := ⟨_, rfl⟩
            have HSl : Hid (S.length = R + 1) := by show _ = _; rw [← hS, List.length_take, rk_len]; omega
            have HSr : Hid (∀ hh : R < S.length, S[R] = y) := fun hh => by
              have e : S.getD R 0 = y := by
                rw [← hS, ← hy]
                unfold rkA
                rw [hRe]
                simp only [List.getD, List.getElem?_take, Nat.lt_succ_self, if_true]
              rw [List.getD, List.getElem?_eq_getElem hh] at e
              exact e
            have HRk : Hid (Calls Try.prog 33 #[.agg #[.int .i64 z, .int .i64 o, .slice A X c], .slice A5 L c5, .int .i64 ((R : Int) + 1)] w5 fun e w' => (∃ v, e = .returned v ∧ OB w' w5.heap.size v S) ∧ Below w5.heap.size w5 w') := by
              have := rrank_any b z o HZ.out HO.out A X c A5 l L c5 ((R : Int) + 1) w5 HK5.out HP5.out (by omega) (by omega) (R + 1) (by omega)
              rw [hS] at this
              exact this
            rw [hy] at hLe
            have hl1L : Hid (L + 1 = l1) := by show _ = _; rw [← Hl1.out, ← hLe.out, List.length_append, HLL.out]; rfl
            have hmm2 : Hid (l.length + [y].length ≤ 140737488355328) := by show _ ≤ _; rw [HLL.out]; simp; omega
            have hRz : (R : Int) < (R : Int) + 1 := by omega
            clear hRe hy hS hcb
            go_wp2_with fail
            (with_reducible refine HRk.out.mono ?_)
            rintro e w6 ⟨⟨v6, rfl, o6⟩, hb6⟩
            obtain ⟨g6, c6, rfl, -, -, -⟩ := o6.some_n (R + 1) HSl.out (by omega)
            have c7 := o6.cell_at HSl.out R (by rw [HSl.out]; omega)
            rw [HSr.out] at c7
            unfold vb at c7
            have hb7 := hb6.alloc hb6.size (.cells #[.int .u8 y.toNat] 5)
            have O6 := Lib.hid (O5h.out.below hb7 (Nat.le_refl _))
            have R6 := Lib.hid (rb_made w6 y 5 (w6.alloc (.cells #[.int .u8 y.toNat] 5)).heap.size (by simp))
            have HB7 := Lib.hid (HB5.out.trans (hb7.mono (by have := HB5.out.size; rw [HBk.out] at this; exact this)))
            have hB7s : Hid (Bk ≤ (w6.alloc (.cells #[.int .u8 y.toNat] 5)).heap.size) := by have := HB7.out.size; rw [HBk.out] at this; exact this
            clear hb6 hb7 HRk o6
            go_wp2_with (at_builtin; refine wpList_append_bytes rfl (.tmp 60) (.tmp 71) rfl Bk _ l [y] rfl O6.out _ _ _ rfl R6.out hmm2.out hB7s.out ?_; intro v8 w8 o8 g8 e8; rw [hLe.out] at o8; have HB8 := Lib.hid (HB7.out.grown g8 hB7s.out O6.out.ge); obtain ⟨A8, c8, rfl, -, -, -⟩ := o8.form_n l1 Hl1.out; have O8 := Lib.hid o8; clear o8 g8 e8)
            go_meet
            exact ⟨by rw [hod2.out], A8, c8, rfl, O8, HB8⟩
          | false =>
            have hcb := of_decide_eq_false HCB.out
            have hLe : Hid (l = L1) := by rw [← HL1e.out]; rfl
            have hl1L : Hid (L = l1) := by show _ = _; rw [← Hl1.out, ← hLe.out, HLL.out]
            have hod2 : Hid (od = od') := by
              show _ = _
              rw [HOD2.out, HOD.out]
              have e : (0 < r ∧ p0 < k) ↔ (0 < r ∧ p0 < k + 1) := ⟨fun x => ⟨x.1, by omega⟩, fun x => ⟨x.1, by
                have : ¬ k = p0 := fun e => hcb ⟨x.1, e⟩
                omega⟩⟩
              exact decide_eq_decide.2 e
            have O5' : Hid (OB w5 Bk (.slice A5 l1 c5) L1) := by rw [← hl1L.out, ← hLe.out]; exact O5h.out
            clear hcb
            go_wp2_with fail
            go_meet
            exact ⟨by rw [hod2.out], A5, c5, by rw [hl1L.out], O5', HB5⟩
        case rest =>
          obtain ⟨rfl, A1', c1', rfl, HO1, HB1⟩ := hcut
          obtain ⟨w9, hw9⟩ : ∃ w9, wc = w9 := ⟨_, rfl⟩
          rw [hw9] at HO1 HB1 ⊢
          have hl1t : Hid (l1 ≤ 1000) := by
            show _ ≤ _
            rw [← Hl1.out, ← HL1e.out, begP_len, HLL.out]
            cases cb with
            | true =>
              have hcb := of_decide_eq_true HCB.out
              have := HP0.out.2.1
              rw [← hcb.2, hlk.out, HLL.out] at this
              simp; omega
            | false => simp; omega
          have HB3c2 : Hid (Below B3 w3 w9) := HB.out.trans (HB1.out.mono hB3k.out)
          clear hw9 hc0 hc1 hc2 HB5 O5h HP5 HK5 HB3c HOH HOD
          obtain ⟨⟨hc0, hc1, hc2⟩, -, hK6, -⟩ := BXA.out w9 HB3c2.out
          obtain ⟨m9, hm9⟩ : ∃ m, t - l1 = m := ⟨_, rfl⟩
          obtain ⟨d, hd⟩ : ∃ d, chN b m9 L1 = d := ⟨_, rfl⟩
          have hdl : Hid (d.length = m9) := by rw [← hd]; exact chN_len b m9 L1
          obtain ⟨fl, hfl⟩ : ∃ fl, L1 ++ d = fl := ⟨_, rfl⟩
          have hfull : Hid (gP b r t ls p0 k = fl) := by
            show _ = _
            unfold gP
            rw [hlk.out, HCB.out, ← hfl, ← hd, ← hm9]
            unfold fullP
            rw [HL1e.out, Hl1.out]
          obtain ⟨N, hN⟩ : ∃ N, fl.length = N := ⟨_, rfl⟩
          have hNl : Hid (l1 + m9 = N) := by show _ = _; rw [← hN, ← hfl, List.length_append, Hl1.out, hdl.out]
          have HFL := Lib.hid hfl; have HN1 := Lib.hid hN; have HD := Lib.hid hd; have HM9 := Lib.hid hm9
          obtain ⟨Ax, cx, e1, hcx1, hmx1, rx1⟩ := HO1.out.form_n l1 Hl1.out
          injection e1 with e1 e2 e3
          subst e1 e3
          have HKx := Lib.hid hK6
          have HPx : Hid (PM w9 A1' L1 l1 c1') := PM.mk Hl1.out hcx1 hmx1 rx1
          clear hd hm9 hfl hN hK6 rx1 hcx1 hmx1
          obtain ⟨lb, hlb⟩ : ∃ lb : Bool, decide (l1 < t) = lb := ⟨_, rfl⟩
          have HLB := Lib.hid hlb
          clear hlb
          go_upto_region 13 with fail
          go_cut [76] (fun s76 wx => s76 = .bool lb ∧ wx = w9)
          case first =>
            by_cases q4 : l1 < t
            · have q4z : (l1 : Int) < (t : Int) := by omega
              have hq : Hid (lb = true) := by show _ = _; rw [← HLB.out]; exact decide_eq_true q4
              go_wp2
              go_meet
              exact ⟨by rw [hq.out] <;> simp, rfl⟩
            · have q4z : ¬ (l1 : Int) < (t : Int) := by omega
              have q4d : decide ((l1 : Int) < (t : Int)) = false := decide_eq_false q4z
              have hq : Hid (lb = false) := by show _ = _; rw [← HLB.out]; exact decide_eq_false q4
              go_wp2
              go_meet
              exact ⟨by rw [hq.out] <;> simp, rfl⟩
          case rest =>
          obtain ⟨rfl, hw⟩ := hcut
          subst wc
          go_upto_if 76 with fail
          go_cut [13] from 77 to 85 (fun s13 wx => ∃ A2 c2, s13 = .slice A2 N c2 ∧ Hid (OB wx Bk (.slice A2 N c2) fl) ∧ Hid (Below Bk wr wx))
          case first =>
            have hl1o : l1 ≤ 1000 := hl1t.out
            cases lb with
            | true =>
              have q4 : l1 < t := of_decide_eq_true HLB.out
              have q4z : (l1 : Int) < (t : Int) := by omega
              have hsub : (t : Int) - (l1 : Int) = (m9 : Int) := by have := HM9.out; omega
              have HCH : Hid (Calls Try.prog 34 #[.agg #[.int .i64 z, .int .i64 o, .slice A X c], .slice A1' l1 c1', .int .i64 (m9 : Int)] w9 fun e w' => (∃ v, e = .returned v ∧ OB w' w9.heap.size v d) ∧ Below w9.heap.size w9 w') := by
                have := rchain_any b z o HZ.out HO.out A X c A1' L1 l1 c1' (m9 : Int) w9 HKx.out HPx.out hl1o m9 (by have := HM9.out; omega)
                rw [HD.out] at this
                exact this
              have hmm2 : Hid (L1.length + d.length ≤ 140737488355328) := by show _ ≤ _; rw [Hl1.out, hdl.out]; have := HM9.out; omega
              have hB9s : Hid (Bk ≤ w9.heap.size) := by have := HB1.out.size; rw [HBk.out] at this; exact this
              go_wp2_with fail
              (with_reducible refine HCH.out.mono ?_)
              rintro e w10 ⟨⟨v10, rfl, o10⟩, hb10⟩
              obtain ⟨A10, c10, rfl, -, -, r10⟩ := o10.form_n d.length rfl
              have O10 := Lib.hid (HO1.out.below hb10 (Nat.le_refl _))
              have R10 := Lib.hid r10
              have HB10 := Lib.hid (HB1.out.trans (hb10.mono hB9s.out))
              have hB10s : Hid (Bk ≤ w10.heap.size) := Nat.le_trans hB9s.out hb10.size
              clear hb10 o10 r10 HCH hc0 hc1 hc2
              go_wp2_with (at_builtin; refine wpList_append_bytes rfl (.tmp 77) (.tmp 84) rfl Bk _ L1 d rfl O10.out _ _ _ rfl R10.out hmm2.out hB10s.out ?_; intro v11 w11 o11 g11 e11; rw [HFL.out] at o11; have HB11 := Lib.hid (HB10.out.grown g11 hB10s.out O10.out.ge); obtain ⟨A11, c11, rfl, -, -, -⟩ := o11.form_n N HN1.out; have O11 := Lib.hid o11; clear o11 g11 e11)
              go_meet
              exact ⟨A11, c11, rfl, O11, HB11⟩
            | false =>
              have q4 : ¬ l1 < t := of_decide_eq_false HLB.out
              have q4z : ¬ (l1 : Int) < (t : Int) := by omega
              have hN2 : Hid (l1 = N) := by have := hNl.out; have := HM9.out; show _ = _; omega
              have hd0 : d = [] := List.eq_nil_of_length_eq_zero (by rw [hdl.out]; have := HM9.out; omega)
              have hL1f : Hid (L1 = fl) := by show _ = _; rw [← HFL.out, hd0, List.append_nil]
              have O2 : Hid (OB w9 Bk (.slice A1' N c1') fl) := by rw [← hN2.out, ← hL1f.out]; exact HO1.out
              clear hd0
              go_wp2_with fail
              go_meet
              exact ⟨A1', c1', by rw [hN2.out], O2, HB1⟩
          case rest =>
            obtain ⟨A2, c2, rfl, HO2, HB2⟩ := hcut
            obtain ⟨wX, hwX⟩ : ∃ wX, wc = wX := ⟨_, rfl⟩
            rw [hwX] at HO2 HB2 ⊢
            clear hwX HO1 HB1 hc0 hc1 hc2 HKx HPx HB3c2
            have hbX : Hid (Bk ≤ wX.heap.size) := by have := HB2.out.size; rw [HBk.out] at this; exact this
            have hal : Hid (Below Bk wr (wX.alloc (sOne (.slice A2 N c2)))) := HB2.out.alloc hbX.out _
            have HRow : Hid ((wX.alloc (sOne (.slice A2 N c2))).ownsRow B3 23 1 u10 (os.map Rl.v).length (os.map Rl.v)) := by
              rw [List.length_map]
              exact (HY.out.belows hal.out (by rw [HBk.out]; exact Nat.le_refl _)).row
            have hol : Hid ((os.map Rl.v).length ≤ 2000) := by
              show _ ≤ _
              have h1 := congrArg List.length HOS.out
              rw [List.length_map, List.length_map, List.length_range] at h1
              rw [List.length_map, h1]; omega
            have H1c : Hid (Value.oneCell' (.slice A2 N c2) = true) := rfl
            have hB3X : Hid (B3 ≤ wX.heap.size) := Nat.le_trans hB3k.out hbX.out
            have hkn2 : Hid (k + 1 ≤ n) := hlt
            have hms : Hid (n - (k + 1) < n - k) := by show _ < _; omega
            go_wp2_with (at_builtin; (refine wpList_append_rows rfl (.tmp 86) (.tmp 88) rfl B3 _ (os.map Rl.v) (.slice A2 N c2) rfl HRow.out H1c.out wX.heap.size rfl rfl hol.out hB3X.out ?_; intro v12 w12 r12 g12 e12; have HYn := Lib.hid (HY.out.push (.slice A2 N c2) fl Bk HBk.out wX HB2.out HO2.out g12 r12 e12 hB3k.out).1; have HBn : Hid (Below B3 w3 w12) := (HB.out.trans (hal.out.mono hB3k.out)).grown g12 (by have := hB3X.out; rw [World.size_alloc]; omega) (fun j e => (HY.out.lt (.inl e)).1); clear r12 g12 e12))
            have hosn : Hid ((os ++ [(⟨.slice A2 N c2, fl⟩ : Rl)]).map Rl.l = (List.range (k + 1)).map (gP b r t ls p0)) := by
              show _ = _
              rw [List.map_append, HOS.out, List.range_succ, List.map_append]
              show _ ++ [fl] = _ ++ [gP b r t ls p0 k]
              rw [hfull.out]
            go_roundw
            case rel => exact ⟨k + 1, _, od', by go_num, hkn2.out, rfl, HOD2, HYn, hosn, HBn⟩
            case measure => simp [intOf]; have := hms.out; omega
    · obtain rfl : k = n := by omega
      obtain ⟨w4, rfl⟩ : ∃ w4, w4 = wr := ⟨wr, rfl⟩
      obtain ⟨B4, hB4⟩ : ∃ B4, w4.heap.size = B4 := ⟨_, rfl⟩
      have hosl : os.length = k := by have := congrArg List.length HOS.out; rw [List.length_map, List.length_map, List.length_range] at this; exact this
      obtain ⟨Af, cf, rfl, hrr⟩ := HY.out.reads k hosl
      rw [HOS.out, hB4] at hrr
      obtain ⟨gf, af0, cf0, rfl, -, -⟩ := hrr.at 0 (gP b r t ls p0 0) (by rw [List.getElem?_map, List.getElem?_range h0]; rfl) _ rfl
      have HRR := Lib.hid hrr
      have HB4 := Lib.hid hB4
      have hwB : Hid (Below w.heap.size w w4) := (BXA.out w4 HB.out).2.1
      have YN : Hid (YR w4 B4 (.slice none 0 0) []) := YR.nil _ _
      have hRefl : Hid (Below B4 w4 w4) := Below.refl _ _
      clear hrr hosl HY HOS HB BXA hB4 HOD hlt hkn
      go_wp2_with fail
      go_loopw [14, 15, 16, 17] (fun v14 v15 v16 v17 wr => ∃ (fi : Nat) (outs : List Rl), v15 = .int .i64 (fi : Int) ∧ F ≤ fi ∧ fi ≤ t ∧ Hid (YR wr B4 v14 outs) ∧ Hid (outs.map Rl.l = (List.range (fi - F)).map (rowP b r t ls F p0)) ∧ Hid (Below B4 w4 wr)) (fun _ v15 _ _ _ => t - (intOf v15).toNat)
      case atStart => exact ⟨F, [], rfl, Nat.le_refl _, by omega, YN, by show _ = _; rw [Nat.sub_self]; rfl, hRefl⟩
      case round =>
        clear YN hRefl
        obtain ⟨fi, outs, rfl, hF1, hF2, HY, HOU, HB⟩ := hrel
        by_cases hlt : fi < t
        · obtain ⟨wo, rfl⟩ : ∃ wo, wo = wr := ⟨wr, rfl⟩
          obtain ⟨Bi, hBi⟩ : ∃ Bi, wo.heap.size = Bi := ⟨_, rfl⟩
          obtain ⟨i, hi⟩ : ∃ i, F + i = fi := ⟨fi - F, by omega⟩
          have HI := Lib.hid hi
          have HBi := Lib.hid hBi
          have hB4i : Hid (B4 ≤ Bi) := by show _ ≤ _; rw [← hBi, ← HB4.out]; exact HB.out.size
          have ON : Hid (OB wo Bi (.slice none 0 0) []) := OB.nil _ _
          have hRefl : Hid (Below Bi wo wo) := Below.refl _ _
          have hfz : (fi : Int) < (t : Int) := by omega
          clear hi hBi
          go_wp2_with fail
          go_loopw [16, 17] (fun v16 v17 wr => ∃ p : Nat, v17 = .int .i64 (p : Int) ∧ p ≤ k ∧ Hid (OB wr Bi v16 ((List.range p).map (celP b r t ls F p0 i))) ∧ Hid (Below Bi wo wr)) (fun _ v17 _ => k - (intOf v17).toNat)
          case atStart => exact ⟨0, rfl, by omega, ON, hRefl⟩
          case round =>
            clear ON hRefl
            obtain ⟨p, rfl, hp, HO, HBo⟩ := hrel
            by_cases hlt2 : p < k
            · have HB4w : Hid (Below B4 w4 wr) := HB.out.trans (HBo.out.mono hB4i.out)
              obtain ⟨N', hN'⟩ : ∃ N', (gP b r t ls p0 p).length = N' := ⟨_, rfl⟩
              have hNt : t ≤ N' := by rw [← hN']; exact gP_len b r t ls p0 p
              obtain ⟨g', a1, c1, e1, x1, y1⟩ := (HRR.out.below HB4w.out).at p (gP b r t ls p0 p) (by rw [List.getElem?_map, List.getElem?_range hlt2]; rfl) N' hN'
              obtain rfl : g' = gf := by injection e1 with e; injection e with e; exact e.symm
              obtain ⟨b1, o1, rfl, -, -⟩ := y1 (by omega)
              have z1 := y1.cell_ fi (by omega)
              have hce : (gP b r t ls p0 p).getD fi 0 = celP b r t ls F p0 i p := by rw [← HI.out]; exact gP_cel b r t HP0.out hFt i p
              obtain ⟨y, hy⟩ : ∃ y, celP b r t ls F p0 i p = y := ⟨_, rfl⟩
              rw [hce, hy] at z1
              have hBis : Hid (Bi ≤ wr.heap.size) := by have := HBo.out.size; rw [HBi.out] at this; exact this
              have O6 : Hid (OB (wr.alloc (.cells #[.int .u8 y.toNat] 5)) Bi u16 ((List.range p).map (celP b r t ls F p0 i))) := HO.out.below ((Below.refl _ _).alloc (Nat.le_refl _) _) (Nat.le_refl _)
              have R6 := Lib.hid (rb_made wr y 5 (wr.alloc (.cells #[.int .u8 y.toNat] 5)).heap.size (by simp))
              have hB7s : Hid (Bi ≤ (wr.alloc (.cells #[.int .u8 y.toNat] 5)).heap.size) := by show _ ≤ _; rw [World.size_alloc]; have := hBis.out; omega
              have HB7 : Hid (Below Bi wo (wr.alloc (.cells #[.int .u8 y.toNat] 5))) := HBo.out.alloc hBis.out _
              have hmm : Hid (((List.range p).map (celP b r t ls F p0 i)).length + [y].length ≤ 140737488355328) := by show _ ≤ _; rw [List.length_map, List.length_range]; simp; omega
              have hnx : Hid ((List.range p).map (celP b r t ls F p0 i) ++ [y] = (List.range (p + 1)).map (celP b r t ls F p0 i)) := by show _ = _; rw [List.range_succ, List.map_append, ← hy]; rfl
              have hpz : (p : Int) < (k : Int) := by omega
              have hfN : (fi : Int) < (N' : Int) := by omega
              have hp2 : Hid (p + 1 ≤ k) := hlt2
              have hms : Hid (k - (p + 1) < k - p) := by show _ < _; omega
              clear y1 hN' hce hy e1
              go_wp2_with (at_builtin; refine wpList_append_bytes rfl (.tmp 102) (.tmp 110) rfl Bi _ _ [y] rfl O6.out _ _ _ rfl R6.out hmm.out hB7s.out ?_; intro v8 w8 o8 g8 e8; rw [hnx.out] at o8; have HB8 := Lib.hid (HB7.out.grown g8 hB7s.out O6.out.ge); have O8 := Lib.hid o8; clear o8 g8 e8)
              go_roundw
              case rel => exact ⟨p + 1, by go_num, hp2.out, O8, HB8⟩
              case measure => simp [intOf]; have := hms.out; omega
            · obtain rfl : p = k := by omega
              have hrow : Hid ((List.range p).map (celP b r t ls F p0 i) = rowP b r t ls F p0 i) := by show _ = _; unfold rowP; rw [hlsn.out]
              rw [hrow.out] at HO
              obtain ⟨Aj, cj, rfl, -, -, -⟩ := HO.out.form_n p ((rowP_len ..).trans hlsn.out)
              have hbX : Hid (Bi ≤ wr.heap.size) := by have := HBo.out.size; rw [HBi.out] at this; exact this
              have hal : Hid (Below Bi wo (wr.alloc (sOne (.slice Aj p cj)))) := HBo.out.alloc hbX.out _
              have HRow : Hid ((wr.alloc (sOne (.slice Aj p cj))).ownsRow B4 23 1 u14 (outs.map Rl.v).length (outs.map Rl.v)) := by
                rw [List.length_map]
                exact (HY.out.belows hal.out (by rw [HBi.out]; exact Nat.le_refl _)).row
              have hol : Hid ((outs.map Rl.v).length ≤ 2000) := by
                show _ ≤ _
                have h1 := congrArg List.length HOU.out
                rw [List.length_map, List.length_map, List.length_range] at h1
                rw [List.length_map, h1]; omega
              have H1c : Hid (Value.oneCell' (.slice Aj p cj) = true) := rfl
              have hB4X : Hid (B4 ≤ wr.heap.size) := Nat.le_trans hB4i.out hbX.out
              have hf2 : Hid (fi + 1 ≤ t) := hlt
              have hms : Hid (t - (fi + 1) < t - fi) := by show _ < _; omega
              go_wp2_with (at_builtin; (refine wpList_append_rows rfl (.tmp 112) (.tmp 114) rfl B4 _ (outs.map Rl.v) (.slice Aj p cj) rfl HRow.out H1c.out wr.heap.size rfl rfl hol.out hB4X.out ?_; intro v12 w12 r12 g12 e12; have HYn := Lib.hid (HY.out.push (.slice Aj p cj) (rowP b r t ls F p0 i) Bi HBi.out wr HBo.out HO.out g12 r12 e12 hB4i.out).1; have HBn : Hid (Below B4 w4 w12) := (HB.out.trans (hal.out.mono hB4i.out)).grown g12 (by have := hB4X.out; rw [World.size_alloc]; omega) (fun j e => (HY.out.lt (.inl e)).1); clear r12 g12 e12))
              have hosn : Hid ((outs ++ [(⟨.slice Aj p cj, rowP b r t ls F p0 i⟩ : Rl)]).map Rl.l = (List.range (fi + 1 - F)).map (rowP b r t ls F p0)) := by
                show _ = _
                rw [List.map_append, HOU.out, show fi + 1 - F = (fi - F) + 1 by omega, List.range_succ, List.map_append]
                show _ ++ [rowP b r t ls F p0 i] = _ ++ [rowP b r t ls F p0 (fi - F)]
                rw [show fi - F = i by have := HI.out; omega]
              go_roundw
              case rel => exact ⟨fi + 1, _, by go_num, by omega, hf2.out, HYn, hosn, HBn⟩
              case measure => simp [intOf]; have := hms.out; omega
        · obtain rfl : fi = t := by omega
          have hol : outs.length = fi - F := by have := congrArg List.length HOU.out; rw [List.length_map, List.length_map, List.length_range] at this; exact this
          obtain ⟨Ae, ce, rfl, hre⟩ := HY.out.reads (fi - F) hol
          have e : outs.map Rl.l = rowsP b r fi ls F p0 := by rw [HOU.out]; rfl
          rw [e] at hre
          have HRE := Lib.hid hre
          have HBE := Lib.hid (hwB.out.trans (HB.out.mono (by rw [← HB4.out]; exact hwB.out.size)))
          clear hre e hol HY HOU
          go_wp2
          go_ret
          exact ⟨Ae, ce, rfl, HRE.out, HBE.out⟩
end Go.Proofs.Ytomiligjcpmnjaa
