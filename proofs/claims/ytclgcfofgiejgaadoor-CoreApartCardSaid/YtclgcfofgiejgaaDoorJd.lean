/- THE WALK of runs.Decode. -/
import Derived.Test.YtclgcfofgiejgaaDoorJc
namespace Go.Proofs.YtclgcfofgiejgaaDoor
set_option maxRecDepth 100000
open Go.RowKit Go.Shelf
attribute [local go_sem] Oper.semAt_some
set_option linter.unusedVariables false

theorem wpListIn_append_bytes {F : Fence} {n : Nat} {w : World} {ops : Array Oper} {rest : List Oper} {o : Oper} {a : Act} {Q : Exit → Act → World → Prop} (hgd : o.guard = none) (s x : Operand)
    (ho : o.op = .call { callee := .builtin .append, args := #[s, x], argTypes := #[29, 29] })
    (base : Nat) (v : Value) (xs l : List UInt8) (hs : a.eval s = v) (hown : OB w base v xs)
    (B : Nat) (A : Option Addr) (c : Nat) (hx : a.eval x = .slice A l.length c) (hr : RB w B A l) (hlen : xs.length + l.length ≤ 140737488355328) (hbase : base ≤ w.heap.size)
    (h : ∀ v' w', OB w' base v' (xs ++ l) → w.grownBy w' v.ownBlock → (v'.ownBlock = v.ownBlock ∨ v'.ownBlock = some w.heap.size) → wpListIn F n Tryd.prog ops Q rest (a.put o.dst v') w') : wpListIn F n Tryd.prog ops Q (o :: rest) a w := by
  refine wpListIn_plain hgd fun K hK => ?_
  obtain ⟨v', w', hrun, h2, h3, h4⟩ := run_append_bytes w base o.type v xs l hown B A c hr hlen hbase
  unfold Oper.wpIn
  refine ⟨by simp [Oper.about, ho, resolve, Target.leads, Sem.run_pure], ?_⟩
  rw [Oper.semAt_plain F _ _ (by rw [ho]; intro c hc'; cases hc')]
  simp [execOp, ho, resolve, invoke, builtin, hs, hx, hrun, Result.andThen]
  exact hK _ _ (h v' w' h2 h3 h4)

theorem expand_le (T : Int) (pre : List (ItT T)) : ∀ a, (expand a (vals pre)).length ≤ pre.length * T.toNat := by
  induction pre with
  | nil => intro a; simp [vals, expand]
  | cons x r ih =>
    intro a
    have h := ih (a ^^^ x.1.2.1)
    show (List.replicate x.1.1.toNat _ ++ expand _ (vals r)).length ≤ _
    rw [List.length_append, List.length_replicate, List.length_cons, Nat.add_mul, Nat.one_mul]
    have h2 : x.1.1.toNat ≤ T.toNat := by have := x.2; omega
    omega

theorem Pair.not_row {W : World} {B : Nat} {t e : TypeId} {u u' : Value} (h : Pair W B t u u') (hte : t ≠ e) {base size k : Nat} {v : Value} {xs : List Value} (hr : W.ownsRow base e size v k xs) : some B ≠ v.ownBlock := by
  rcases hr.2 with ⟨rfl, _⟩ | ⟨g, cap, cur, rfl, _, hgb, _⟩
  · simp [Value.ownBlock]
  · intro e'
    obtain rfl : B = g := by simpa [Value.ownBlock] using e'
    have := (show W.heap[B]? = _ from h).symm.trans hgb
    simp at this
    exact hte this.2
/-- an append by way of box B leaves another block -/
theorem app_other {wr w3 : World} {o : Obj} {v x : Value} {q B : Nat} (hq : q < wr.heap.size) (hqB : q ≠ B) (hqv : some q ≠ v.ownBlock) (hg : (wr.alloc o).grownBy w3 v.ownBlock) : (w3.setCell ⟨B, 0, none⟩ x).heap[q]? = wr.heap[q]? :=
  (Below.heap_setCell _ _ _ q hqB).trans ((hg.block q (by rw [World.size_alloc]; omega) hqv).trans (Below.heap_alloc wr o q hq))
/-- v's row is none of the three boxes from q on -/
def Far (v : Value) (q : Nat) : Prop := ∀ k, v.ownBlock = some k → k ≠ q ∧ k ≠ q + 1 ∧ k ≠ q + 1 + 1
def DI (w : World) (q : Nat) {T : Int} (pre : List (ItT T)) (W : World) : Prop :=
  (∃ v, Boxed W q 29 v ∧ OB W w.heap.size v (expand 0 (vals pre)) ∧ Far v q) ∧ Boxed W (q + 1) 5 (.int .u8 ((lastV 0 (vals pre)).toNat : Int)) ∧ q + 3 ≤ W.heap.size ∧ Below w.heap.size w W
theorem di_own (w : World) (q : Nat) {T : Int} (B : Nat) (hB : w.heap.size ≤ B) : OwnFrom B (DI w q (T := T)) := fun s X Y row hs hg hr => by
  obtain ⟨h1, h2, h3, h4⟩ := hs
  exact ⟨holdsRow_own w.heap.size q 29 5 1 (fun s : List (ItT T) => (expand 0 (vals s)).length) (fun s => (expand 0 (vals s)).map vb) (fun _ v => Far v q) s X Y row h1 hg (fun r e => (hr r e).2),
    boxed_own (q + 1) 5 (fun s : List (ItT T) => Value.int .u8 ((lastV 0 (vals s)).toNat : Int)) s X Y row h2 hg (fun r e => (hr r e).2), Nat.le_trans h3 hg.size,
    ownFrom_below (β := Unit) (n₀ := w.heap.size) (w₀ := w) (B := B) (Nat.le_refl _) hB () X Y row h4 hg hr⟩
theorem rep_snoc (k : Nat) (x : UInt8) : List.replicate k x ++ [x] = List.replicate (k + 1) x := by rw [List.replicate_succ', ]

theorem app_len (L : List UInt8) (k nn : Nat) (x : UInt8) (h1 : L.length ≤ 8796093018112) (h2 : k < nn) (h3 : nn ≤ 2147483647) : (L ++ List.replicate k x).length + [x].length ≤ 140737488355328 := by
  rw [List.length_append, List.length_replicate]
  show L.length + k + 1 ≤ 140737488355328
  omega
theorem app_pos (L : List UInt8) (k : Nat) (x : UInt8) : 0 < (L ++ List.replicate k x ++ [x]).length := by simp; omega
theorem pre_len {T : Int} (pre : List (ItT T)) (a : UInt8) (h1 : pre.length ≤ 4096) (h2 : T ≤ 2147483647) : (expand a (vals pre)).length ≤ 8796093018112 := by
  have h := expand_le T pre a
  have h3 : pre.length * T.toNat ≤ 4096 * 2147483647 := Nat.mul_le_mul h1 (by omega)
  omega
set_option maxHeartbeats 4000000 in
theorem dec_err (A : Option Addr) (l : List UInt8) (cap : Nat) (m M er : Int) (w : World) (hM : (m < 0 ∧ M = 0) ∨ (0 ≤ m ∧ M = m)) (hM1 : M ≤ 9223372036854775807) (hr : RB w w.heap.size A l) (hc : l.length ≤ cap) (hm : cap ≤ maxLen)
    (h : cntV (cnt M 0 (items true l)) = .tuple #[.int .i64 0, .int .i64 er]) (her : er = 1 ∨ er = 4) :
    Calls Tryd.prog 80 #[.slice A l.length cap, .int .i64 m] w fun e w' => e = .returned (.tuple #[.slice none 0 0, .int .i64 er]) ∧ Below w.heap.size w w' := by
  have HC : Hid (∀ n, CallsIn Fence.wide n Tryd.prog 85 #[.slice A l.length cap, .int .i64 M] w fun e w' => e = .returned (.tuple #[.int .i64 0, .int .i64 er]) ∧ Below w.heap.size w w') := fun n => by
    have := count_any A l cap M w (by omega) hM1 hr hc hm
    rw [h] at this
    exact callsIn_wide.2 this
  clear h hr hM1
  refine (callsIn_wide (n := 6)).1 ?_
  rcases her with rfl | rfl <;> rcases hM with ⟨hM, rfl⟩ | ⟨hM, rfl⟩
  all_goals
    refine callsIn_of_wp_marks Tryd.func80 rfl trivial ?_ rfl
    simp only [Tryd.ntmps80, List.size_toArray, List.length_cons, List.length_nil, Nat.reduceAdd, Nat.reduceSub, Array.replicate_succ, Array.replicate_zero, List.push_toArray, List.append_toArray, List.nil_append, List.cons_append]
    gi_wp2_with (refine ⟨trivial, ?_⟩; gi_at_call 85; (with_reducible refine (HC.out _).mono ?_); rintro e w' ⟨rfl, hb⟩)
    exact ⟨_, by simp [results, Tryd.f80, go_sem], rfl, hb⟩
set_option maxHeartbeats 4000000 in
theorem dec_ok (A : Option Addr) (l : List UInt8) (cap : Nat) (m M t : Int) (w : World) (hM : (m < 0 ∧ M = 0) ∨ (0 ≤ m ∧ M = m)) (hM1 : M ≤ 9223372036854775807) (hr : RB w w.heap.size A l) (hc : l.length ≤ cap) (hm : cap ≤ maxLen)
    (h : cnt M 0 (items true l) = .ok t) (ht : t ≤ 2147483647) (hl : l.length ≤ 4096) :
    Calls Tryd.prog 80 #[.slice A l.length cap, .int .i64 m] w fun e w' => ∃ v, e = .returned (.tuple #[v, .int .i64 0]) ∧ OB w' w.heap.size v (expand 0 (items true l)) ∧ Below w.heap.size w w' := by
  have HC : Hid (∀ n, CallsIn Fence.wide n Tryd.prog 85 #[.slice A l.length cap, .int .i64 M] w fun e w' => e = .returned (.tuple #[.int .i64 t, .int .i64 0]) ∧ Below w.heap.size w w') := fun n => by
    have := count_any A l cap M w (by omega) hM1 hr hc hm
    rw [h] at this
    exact callsIn_wide.2 this
  have hpos : ∀ x ∈ items true l, 0 ≤ x.1 := fun x hx => (items_in l true x hx).1
  have ht0 : 0 ≤ t := (cnt_le M _ 0 t (by omega) hpos h).1
  have hT : ∀ x ∈ items true l, x.1 ≤ t := fun x hx => by have := (cnt_each M _ 0 t hpos h x hx).1; omega
  have HT := Lib.hid hT; have HR := Lib.hid hr; have HL := Lib.hid hl; have HM := Lib.hid hm; have HM1 := Lib.hid hM1
  clear h hr hpos hT hl hm hM1
  obtain ⟨tn, htn⟩ : ∃ tn : Nat, t = (tn : Int) := ⟨t.toNat, by omega⟩
  obtain ⟨i0, hi0, hz0, hz1, hz2⟩ := info_parts byte_info
  refine (callsIn_wide (n := 6)).1 ?_
  have HTN := Lib.hid htn; clear htn
  have hdec : decide ((2147483647 : Int) < t) = false := by simp; omega
  rcases hM with ⟨hM, rfl⟩ | ⟨hM, hMm⟩
  · refine callsIn_of_wp_marks Tryd.func80 rfl trivial ?_ rfl
    simp only [Tryd.ntmps80, List.size_toArray, List.length_cons, List.length_nil, Nat.reduceAdd, Nat.reduceSub, Array.replicate_succ, Array.replicate_zero, List.push_toArray, List.append_toArray, List.nil_append, List.cons_append]
    gi_wp2_with first
      | (refine ⟨trivial, ?_⟩; gi_at_call 85; (with_reducible refine (HC.out _).mono ?_); rintro e w1 ⟨rfl, hb1⟩)
      | (refine ⟨trivial, ?_⟩; gi_at_call 86; (with_reducible refine (callsIn_wide.2 (read_any _ _ _ _)).mono ?_); rintro e w' ⟨rfl, rfl⟩)
      | (gi_at_make; refine wpListIn_make_own _ rfl _ _ 29 rfl w.heap.size 5 i0 (.int .u8 0) 1 Tryd.underlying29 hi0 hz0 hz1 .i64 .i64 t tn rfl rfl HTN.out (by rw [hz2]; have := HTN.out; omega) (by unfold maxLen; have := HTN.out; omega) hb1.size ?_; intro w2 o2 g2)
    have o2' : OB w2 w.heap.size (.slice (some ⟨w1.heap.size, 0, none⟩) 0 tn) [] := o2
    have hb2 : Below w.heap.size w w2 := hb1.grown g2 hb1.size (by simp)
    have hs2 := hb2.size
    have hlow : w1.heap.size < w2.heap.size := o2'.low _ rfl
    clear o2 g2
    have b8 := ((Boxed.new w2 29 (.slice (some ⟨w1.heap.size, 0, none⟩) 0 tn)).alloc (.cells #[.int .u8 0] 5)).alloc (.cells #[.slice A l.length cap] 29)
    have b9 := (Boxed.new (w2.alloc (.cells #[.slice (some ⟨w1.heap.size, 0, none⟩) 0 tn] 29)) 5 (.int .u8 0)).alloc (.cells #[.slice A l.length cap] 29)
    have b10 := Boxed.new ((w2.alloc (.cells #[.slice (some ⟨w1.heap.size, 0, none⟩) 0 tn] 29)).alloc (.cells #[.int .u8 0] 5)) 29 (.slice A l.length cap)
    have o3 : OB (((w2.alloc (.cells #[.slice (some ⟨w1.heap.size, 0, none⟩) 0 tn] 29)).alloc (.cells #[.int .u8 0] 5)).alloc (.cells #[.slice A l.length cap] 29)) w.heap.size (.slice (some ⟨w1.heap.size, 0, none⟩) 0 tn) [] := ((o2'.alloc _).alloc _).alloc _
    simp only [World.size_alloc] at b9 b10
    have hB0 : Below w.heap.size w (((w2.alloc (.cells #[.slice (some ⟨w1.heap.size, 0, none⟩) 0 tn] 29)).alloc (.cells #[.int .u8 0] 5)).alloc (.cells #[.slice A l.length cap] 29)) := ((hb2.alloc hs2 _).alloc (by simp; omega) _).alloc (by simp; omega) _
    have hsz : (((w2.alloc (.cells #[.slice (some ⟨w1.heap.size, 0, none⟩) 0 tn] 29)).alloc (.cells #[.int .u8 0] 5)).alloc (.cells #[.slice A l.length cap] 29)).heap.size = w2.heap.size + 3 := by simp
    obtain ⟨q, hq⟩ : ∃ q, w2.heap.size = q := ⟨_, rfl⟩
    obtain ⟨W0, hW0⟩ : ∃ W0, (((w2.alloc (.cells #[.slice (some ⟨w1.heap.size, 0, none⟩) 0 tn] 29)).alloc (.cells #[.int .u8 0] 5)).alloc (.cells #[.slice A l.length cap] 29)) = W0 := ⟨_, rfl⟩
    rw [hW0] at b8 b9 b10 o3 hB0 hsz ⊢
    rw [hq] at b8 b9 b10 hsz hs2 hlow ⊢
    clear hW0 o2' hb2 hq
    have hfar : Far (.slice (some ⟨w1.heap.size, 0, none⟩) 0 tn) q := fun k e => by
      have e : w1.heap.size = k := Option.some.inj e
      have hk : k < q := by rw [← e]; exact hlow
      exact ⟨by omega, by omega, by omega⟩
    refine wpIn_rangeFunc_ownH rfl (by omega) (gf := 88) (lb := #[.pointer (some ⟨q + 1 + 1, 0, none⟩)]) rfl trivial (enters_of Tryd.func88 (by kernel_rfl) rfl)
      (read_stops 5 (by omega) t (q + 1 + 1) w.heap.size A l cap HT.out hc HM.out W0 (by omega) (by omega) b10 (HR.out.below hB0)) (fun h k => KR.trans h k) (krB (by omega) (by omega)) (Below.refl _ _) (fun _ => rfl)
      (DI w q) (fun _ _ _ => False) (di_own w q _ (by omega)) (fun _ _ _ _ _ hs _ _ => hs)
      ⟨⟨_, b8, o3, hfar⟩, b9, by omega, hB0⟩
      (fun x a' W => ∃ Bx, q + 1 + 1 < Bx ∧ Pair W Bx 138 (.int .i64 x.1.1) (.int .u8 (x.1.2.1.toNat : Int)) ∧ a' = { tmps := #[.slice A l.length cap, .int .i64 m, undef, undef, .slice none 0 0, .int .i64 0, .int .i64 t, .int .i64 0, .pointer (some ⟨q, 0, none⟩), .pointer (some ⟨q + 1, 0, none⟩), .pointer (some ⟨Bx, 0, none⟩), .tuple #[.int .i64 t, .int .i64 0], .slice A l.length cap, .int .i64 m, .int .i64 0, .tuple #[.int .i64 t, .int .i64 0], .int .i64 t, .int .i64 0, .int .i64 0, .bool false, undef, .int .i64 t, .bool false, .int .i64 t, .slice (some ⟨w1.heap.size, 0, none⟩) 0 tn, .slice A l.length cap, .func (.func 88) #[] #[.pointer (some ⟨q + 1 + 1, 0, none⟩)], .agg #[.int .i64 x.1.1, .int .u8 (x.1.2.1.toNat : Int)], .bool x.1.2.2, undef, undef, undef, undef, undef, undef, undef, undef, undef, undef, undef, undef, undef, undef], defers := [] })
      (fun x a' _ X Y row hs hg hr => by obtain ⟨Bx, h1, h2, h3⟩ := hs; exact ⟨Bx, h1, pair_own Bx 138 (fun _ : Unit => Value.int .i64 x.1.1) (fun _ => Value.int .u8 (x.1.2.1.toNat : Int)) () X Y row h2 hg (fun r e => (hr r e).2), h3⟩)
      ?assign ?body ?done ?stop
    case assign =>
      rintro lo pre ⟨⟨n, c, ok⟩, hx0, hx1⟩ W K ⟨⟨v, hv, ho, hf⟩, h9, hz, hB⟩ hK
      have hsW := hB.size
      dsimp only [encI, itV]
      gi_wp2
      exact hK _ _ ((KeepsOthers.alloc _ _).from _) ⟨(Below.refl _ W).alloc hsW _, Below.heap_alloc W _ _ (by omega)⟩ ⟨⟨v, hv.alloc _, ho.alloc _, hf⟩, h9.alloc _, by simp; omega, hB.alloc hsW _⟩ ⟨W.heap.size, by omega, World.alloc_heap_new W _, rfl⟩
    case body =>
      rintro lo pre ⟨⟨n, c, ok⟩, hx0, hx1⟩ a' W hl ⟨r, hr⟩ ⟨⟨v, hv, ho, hf⟩, h9, hz, hB⟩ ⟨Bx, hBx, bX, rfl⟩ hlt
      have hsW := hB.size
      have hx0 : 0 ≤ n := hx0
      have hx1 : n ≤ t := hx1
      obtain ⟨nn, hnn⟩ : ∃ nn : Nat, n = (nn : Int) := ⟨n.toNat, by omega⟩
      have hnn' : n.toNat = nn := by omega
      -- the list's length, and the value that is written
      obtain ⟨L, hL⟩ : ∃ L, Hid (expand 0 (vals pre) = L) := ⟨_, rfl⟩
      have hLl : L.length ≤ 8796093018112 := by
        rw [← hL.out]
        have h1 := items_len l true
        have h2 := HL.out
        exact pre_len pre 0 (by omega) ht
      obtain ⟨x, hx⟩ : ∃ x, Hid (lastV 0 (vals pre) ^^^ c = x) := ⟨_, rfl⟩
      have hxor := b8_xor (lastV 0 (vals pre)) c
      rw [hx.out] at hxor
      rw [hL.out] at ho
      obtain ⟨y, hy⟩ : ∃ y : Int, ((lastV 0 (vals pre)).toNat : Int) = y := ⟨_, rfl⟩
      obtain ⟨z, hz'⟩ : ∃ z : Int, Hid ((x.toNat : Int) = z) := ⟨_, rfl⟩
      rw [hy, hz'.out] at hxor
      rw [hy] at h9
      clear hy
      have hE : Hid (expand 0 (vals (pre ++ [⟨(n, c, ok), hx0, hx1⟩])) = L ++ List.replicate nn x) := by
        show _ = _
        rw [vals_snoc, expand_app, expand_one, hL.out, ← hx.out]
        show L ++ List.replicate n.toNat _ = _
        rw [hnn']
      have hV : Hid (lastV 0 (vals (pre ++ [⟨(n, c, ok), hx0, hx1⟩])) = x) := by
        show _ = _
        rw [vals_snoc, lastV_app]
        exact hx.out
      obtain ⟨ci, hci⟩ : ∃ ci : Int, Hid ((c.toNat : Int) = ci) := ⟨_, rfl⟩
      have hci' := hci.out
      rw [hci'] at hxor bX
      dsimp only
      rw [hci']
      clear hci'
      have hrow := bX.not_row (by decide) ho
      have c9 := h9.cell
      have f9 := h9.frozen
      have cX := bX.cell1
      have bX1 := bX.other (show Bx ≠ q + 1 by omega) (.int .u8 z)
      have cX0 := bX1.cell0
      have g8 := hv.other (show q ≠ q + 1 by omega) (.int .u8 z)
      have g9 := h9.set (.int .u8 z)
      have go := (ho.kept (grownBy_setCell' W (q + 1) (.int .u8 z)) (by
        cases hvb : v.ownBlock with
        | none => exact .inl rfl
        | some k => exact .inr (by have := (hf k hvb).2.1; intro e; exact this (Option.some.inj e))) : OB (W.setCell ⟨q + 1, 0, none⟩ (.int .u8 z)) w.heap.size v L)
      have gf : ∀ k, v.ownBlock = some k → (k ≠ q ∧ k ≠ q + 1 ∧ k ≠ q + 1 + 1) ∧ k ≠ Bx := fun k e => ⟨hf k e, fun h => hrow (by rw [e, h])⟩
      have gk : KeepsFrom W0.heap.size W (W.setCell ⟨q + 1, 0, none⟩ (.int .u8 z)) := (KeepsOthers.setCell _ _ _).from _
      have gb : Below w.heap.size W (W.setCell ⟨q + 1, 0, none⟩ (.int .u8 z)) := (Below.refl w.heap.size W).setCell (p := ⟨q + 1, 0, none⟩) (by simp; omega) _
      have gh : (W.setCell ⟨q + 1, 0, none⟩ (.int .u8 z)).heap[q + 1 + 1]? = W.heap[q + 1 + 1]? := Below.heap_setCell _ _ _ _ (by simp)
      have gz : W.heap.size ≤ (W.setCell ⟨q + 1, 0, none⟩ (.int .u8 z)).heap.size := by rw [World.size_setCell]; exact Nat.le_refl _
      have G8 := Lib.hid g8; have G9 := Lib.hid g9; have GO := Lib.hid go; have GF := Lib.hid gf; have GK := Lib.hid gk; have GB := Lib.hid gb; have GH := Lib.hid gh; have GX := Lib.hid bX1; have GZ := Lib.hid gz
      have HB := Lib.hid hB; have HLl := Lib.hid hLl; have HN' := Lib.hid hnn'
      have hbl := bX.lt
      have HSZ := Lib.hid hsz; clear hsz
      clear g8 g9 go gf gk gb gh gz bX1 hv ho hf h9 bX hrow hB hLl hr hnn'
      have HNN := Lib.hid hnn; clear hnn
      gi_wp2
      gi_loopw [35] (fun i wr => ∃ (k : Nat) (y : Int) (v : Value), i = .int .i64 y ∧ Hid (y = (k : Int)) ∧ 0 ≤ y ∧ y ≤ n ∧ Hid (Boxed wr q 29 v) ∧ Hid (OB wr w.heap.size v (L ++ List.replicate k x)) ∧ Hid (∀ k, v.ownBlock = some k → (k ≠ q ∧ k ≠ q + 1 ∧ k ≠ q + 1 + 1) ∧ k ≠ Bx) ∧ Hid (Boxed wr (q + 1) 5 (.int .u8 z)) ∧ Hid (KeepsFrom W0.heap.size W wr) ∧ Hid (Below w.heap.size W wr) ∧ Hid (wr.heap[q + 1 + 1]? = W.heap[q + 1 + 1]?) ∧ Hid (W.heap.size ≤ wr.heap.size))
        (fun i _ => nn - (intOf i).toNat)
      case atStart => exact ⟨0, 0, v, rfl, rfl, by omega, by omega, G8, by show OB _ _ _ _; rw [List.replicate_zero, List.append_nil]; exact GO.out, GF, G9, GK, GB, GH, GZ⟩
      case round =>
        obtain ⟨k, y, v, rfl, hyk, hy0, hyn, i8, io, jf, i9, ik, ib, ih, iz⟩ := hrel
        clear G8 GO GF G9 GK GB GH GZ GX
        by_cases hlt3 : y < n
        · have HLT2 : Hid (k < nn) := by have := hyk.out; have := HNN.out; show _ < _; omega
          have cv := i8.out.cell
          have cx := i9.out.cell
          have hyk2 : Hid (y + 1 = ((k + 1 : Nat) : Int)) := by have := hyk.out; show _ = _; omega
          have hone := one_reads wr z x hz'.out
          have HONE := Lib.hid hone; clear hone
          have hlen : (L ++ List.replicate k x).length + [x].length ≤ 140737488355328 := app_len L k nn x HLl.out HLT2.out (by have := HNN.out; omega)
          have HLEN := Lib.hid hlen; clear hlen
          have hba : w.heap.size ≤ (wr.alloc (bOne z)).heap.size := by rw [World.size_alloc]; have := iz.out; omega
          have HBA := Lib.hid hba; clear hba
          gi_wp2_with (gi_at_builtin; refine wpListIn_append_bytes rfl _ _ rfl w.heap.size v (L ++ List.replicate k x) [x] rfl (io.out.alloc _) (wr.heap.size + 1) (some ⟨wr.heap.size, 0, none⟩) 1 rfl HONE.out HLEN.out HBA.out ?_; intro v2 w3 o4 g4 e4; obtain ⟨gg, cap2, rfl, _⟩ := OB.some_ o4 (app_pos L k x); obtain ⟨n2, hn2⟩ : ∃ n2, Hid ((L ++ List.replicate k x ++ [x]).length = n2) := ⟨_, rfl⟩; rw [hn2.out] at o4 e4 ⊢; obtain ⟨hv1, hv2, hr2, hk2, hb2⟩ := i8.out.appended (by decide) io.out (Nat.le_trans hsW iz.out) hs2 o4 g4; have hc1 := hv1.cell; have hf1 := hv1.frozen)
          have hqw : q + 1 + 1 < wr.heap.size := by have := iz.out; omega
          have ne1 : some (q + 1) ≠ v.ownBlock := fun e => (jf.out _ e.symm).1.2.1 rfl
          have ne2 : some (q + 1 + 1) ≠ v.ownBlock := fun e => (jf.out _ e.symm).1.2.2 rfl
          have p9 := (app_other (x := .slice (some ⟨gg, 0, none⟩) n2 cap2) (by omega) (show q + 1 ≠ q by omega) ne1 g4).trans i9.out
          have p10 := (app_other (x := .slice (some ⟨gg, 0, none⟩) n2 cap2) hqw (show q + 1 + 1 ≠ q by omega) ne2 g4).trans ih.out
          have hsz4 : W.heap.size ≤ (w3.setCell ⟨q, 0, none⟩ (.slice (some ⟨gg, 0, none⟩) n2 cap2)).heap.size := by
            have h1 := g4.size
            rw [World.size_alloc] at h1
            rw [World.size_setCell]
            have := iz.out
            omega
          have hfar2 : ∀ j, (Value.slice (some ⟨gg, 0, none⟩) n2 cap2).ownBlock = some j → (j ≠ q ∧ j ≠ q + 1 ∧ j ≠ q + 1 + 1) ∧ j ≠ Bx := fun j ej => by
            rcases e4 with e | e
            · exact jf.out j (e.symm.trans ej)
            · have e5 := Option.some.inj (e.symm.trans ej)
              rw [World.size_alloc] at e5
              have := iz.out
              exact ⟨⟨by omega, by omega, by omega⟩, by omega⟩
          have hfin : OB (w3.setCell ⟨q, 0, none⟩ (.slice (some ⟨gg, 0, none⟩) n2 cap2)) w.heap.size (.slice (some ⟨gg, 0, none⟩) n2 cap2) (L ++ List.replicate (k + 1) x) := by
            rw [← rep_snoc, ← List.append_assoc]; exact hr2
          go_roundw
          case rel => exact ⟨k + 1, y + 1, _, rfl, hyk2, by omega, by omega, hv2, hfin, hfar2, p9, ik.out.trans (hk2.from _), ib.out.trans hb2, p10, hsz4⟩
          case measure => have := hyk.out; have := HNN.out; simp only [intOf]; omega
        · have hke : k = nn := by have := hyk.out; have := HNN.out; omega
          subst hke
          gi_wp2
          exact ⟨ik.out, ⟨ib.out, ih.out⟩, ⟨v, i8.out, by rw [hE.out]; exact io.out, fun k e => (jf.out k e).1⟩, by rw [hV.out, hz'.out]; exact i9.out, Nat.le_trans hz iz.out, HB.out.trans ib.out⟩
    case done =>
      rintro D ys W hD hys ⟨⟨v, hv, ho, hf⟩, h9, hz, hB⟩ hK
      rw [hys] at ho
      have hc8 := hv.cell
      gi_wp2
      refine ⟨by simp, .inl ⟨_, _, rfl, run_takeDeferred hK, ?_⟩⟩
      refine ⟨.tuple #[v, .int .i64 0], ?_, v, rfl, ownsRow_putObj ho _ hK rfl, hB.trans (belowK_b (w := w) (Nat.le_refl _) _ D _ _ (by omega) hK rfl rfl)⟩
      simp [results, Tryd.f80, go_sem]
    case stop =>
      rintro D c pre W _ _ h _
      exact h.elim
  · obtain rfl := hMm.symm
    refine callsIn_of_wp_marks Tryd.func80 rfl trivial ?_ rfl
    simp only [Tryd.ntmps80, List.size_toArray, List.length_cons, List.length_nil, Nat.reduceAdd, Nat.reduceSub, Array.replicate_succ, Array.replicate_zero, List.push_toArray, List.append_toArray, List.nil_append, List.cons_append]
    gi_wp2_with first
      | (refine ⟨trivial, ?_⟩; gi_at_call 85; (with_reducible refine (HC.out _).mono ?_); rintro e w1 ⟨rfl, hb1⟩)
      | (refine ⟨trivial, ?_⟩; gi_at_call 86; (with_reducible refine (callsIn_wide.2 (read_any _ _ _ _)).mono ?_); rintro e w' ⟨rfl, rfl⟩)
      | (gi_at_make; refine wpListIn_make_own _ rfl _ _ 29 rfl w.heap.size 5 i0 (.int .u8 0) 1 Tryd.underlying29 hi0 hz0 hz1 .i64 .i64 t tn rfl rfl HTN.out (by rw [hz2]; have := HTN.out; omega) (by unfold maxLen; have := HTN.out; omega) hb1.size ?_; intro w2 o2 g2)
    have o2' : OB w2 w.heap.size (.slice (some ⟨w1.heap.size, 0, none⟩) 0 tn) [] := o2
    have hb2 : Below w.heap.size w w2 := hb1.grown g2 hb1.size (by simp)
    have hs2 := hb2.size
    have hlow : w1.heap.size < w2.heap.size := o2'.low _ rfl
    clear o2 g2
    have b8 := ((Boxed.new w2 29 (.slice (some ⟨w1.heap.size, 0, none⟩) 0 tn)).alloc (.cells #[.int .u8 0] 5)).alloc (.cells #[.slice A l.length cap] 29)
    have b9 := (Boxed.new (w2.alloc (.cells #[.slice (some ⟨w1.heap.size, 0, none⟩) 0 tn] 29)) 5 (.int .u8 0)).alloc (.cells #[.slice A l.length cap] 29)
    have b10 := Boxed.new ((w2.alloc (.cells #[.slice (some ⟨w1.heap.size, 0, none⟩) 0 tn] 29)).alloc (.cells #[.int .u8 0] 5)) 29 (.slice A l.length cap)
    have o3 : OB (((w2.alloc (.cells #[.slice (some ⟨w1.heap.size, 0, none⟩) 0 tn] 29)).alloc (.cells #[.int .u8 0] 5)).alloc (.cells #[.slice A l.length cap] 29)) w.heap.size (.slice (some ⟨w1.heap.size, 0, none⟩) 0 tn) [] := ((o2'.alloc _).alloc _).alloc _
    simp only [World.size_alloc] at b9 b10
    have hB0 : Below w.heap.size w (((w2.alloc (.cells #[.slice (some ⟨w1.heap.size, 0, none⟩) 0 tn] 29)).alloc (.cells #[.int .u8 0] 5)).alloc (.cells #[.slice A l.length cap] 29)) := ((hb2.alloc hs2 _).alloc (by simp; omega) _).alloc (by simp; omega) _
    have hsz : (((w2.alloc (.cells #[.slice (some ⟨w1.heap.size, 0, none⟩) 0 tn] 29)).alloc (.cells #[.int .u8 0] 5)).alloc (.cells #[.slice A l.length cap] 29)).heap.size = w2.heap.size + 3 := by simp
    obtain ⟨q, hq⟩ : ∃ q, w2.heap.size = q := ⟨_, rfl⟩
    obtain ⟨W0, hW0⟩ : ∃ W0, (((w2.alloc (.cells #[.slice (some ⟨w1.heap.size, 0, none⟩) 0 tn] 29)).alloc (.cells #[.int .u8 0] 5)).alloc (.cells #[.slice A l.length cap] 29)) = W0 := ⟨_, rfl⟩
    rw [hW0] at b8 b9 b10 o3 hB0 hsz ⊢
    rw [hq] at b8 b9 b10 hsz hs2 hlow ⊢
    clear hW0 o2' hb2 hq
    have hfar : Far (.slice (some ⟨w1.heap.size, 0, none⟩) 0 tn) q := fun k e => by
      have e : w1.heap.size = k := Option.some.inj e
      have hk : k < q := by rw [← e]; exact hlow
      exact ⟨by omega, by omega, by omega⟩
    refine wpIn_rangeFunc_ownH rfl (by omega) (gf := 88) (lb := #[.pointer (some ⟨q + 1 + 1, 0, none⟩)]) rfl trivial (enters_of Tryd.func88 (by kernel_rfl) rfl)
      (read_stops 5 (by omega) t (q + 1 + 1) w.heap.size A l cap HT.out hc HM.out W0 (by omega) (by omega) b10 (HR.out.below hB0)) (fun h k => KR.trans h k) (krB (by omega) (by omega)) (Below.refl _ _) (fun _ => rfl)
      (DI w q) (fun _ _ _ => False) (di_own w q _ (by omega)) (fun _ _ _ _ _ hs _ _ => hs)
      ⟨⟨_, b8, o3, hfar⟩, b9, by omega, hB0⟩
      (fun x a' W => ∃ Bx, q + 1 + 1 < Bx ∧ Pair W Bx 138 (.int .i64 x.1.1) (.int .u8 (x.1.2.1.toNat : Int)) ∧ a' = { tmps := #[.slice A l.length cap, .int .i64 m, undef, undef, .slice none 0 0, .int .i64 0, .int .i64 t, .int .i64 0, .pointer (some ⟨q, 0, none⟩), .pointer (some ⟨q + 1, 0, none⟩), .pointer (some ⟨Bx, 0, none⟩), .tuple #[.int .i64 t, .int .i64 0], .slice A l.length cap, .int .i64 m, .int .i64 m, .tuple #[.int .i64 t, .int .i64 0], .int .i64 t, .int .i64 0, .int .i64 0, .bool false, undef, .int .i64 t, .bool false, .int .i64 t, .slice (some ⟨w1.heap.size, 0, none⟩) 0 tn, .slice A l.length cap, .func (.func 88) #[] #[.pointer (some ⟨q + 1 + 1, 0, none⟩)], .agg #[.int .i64 x.1.1, .int .u8 (x.1.2.1.toNat : Int)], .bool x.1.2.2, undef, undef, undef, undef, undef, undef, undef, undef, undef, undef, undef, undef, undef, undef], defers := [] })
      (fun x a' _ X Y row hs hg hr => by obtain ⟨Bx, h1, h2, h3⟩ := hs; exact ⟨Bx, h1, pair_own Bx 138 (fun _ : Unit => Value.int .i64 x.1.1) (fun _ => Value.int .u8 (x.1.2.1.toNat : Int)) () X Y row h2 hg (fun r e => (hr r e).2), h3⟩)
      ?assign ?body ?done ?stop
    case assign =>
      rintro lo pre ⟨⟨n, c, ok⟩, hx0, hx1⟩ W K ⟨⟨v, hv, ho, hf⟩, h9, hz, hB⟩ hK
      have hsW := hB.size
      dsimp only [encI, itV]
      gi_wp2
      exact hK _ _ ((KeepsOthers.alloc _ _).from _) ⟨(Below.refl _ W).alloc hsW _, Below.heap_alloc W _ _ (by omega)⟩ ⟨⟨v, hv.alloc _, ho.alloc _, hf⟩, h9.alloc _, by simp; omega, hB.alloc hsW _⟩ ⟨W.heap.size, by omega, World.alloc_heap_new W _, rfl⟩
    case body =>
      rintro lo pre ⟨⟨n, c, ok⟩, hx0, hx1⟩ a' W hl ⟨r, hr⟩ ⟨⟨v, hv, ho, hf⟩, h9, hz, hB⟩ ⟨Bx, hBx, bX, rfl⟩ hlt
      have hsW := hB.size
      have hx0 : 0 ≤ n := hx0
      have hx1 : n ≤ t := hx1
      obtain ⟨nn, hnn⟩ : ∃ nn : Nat, n = (nn : Int) := ⟨n.toNat, by omega⟩
      have hnn' : n.toNat = nn := by omega
      -- the list's length, and the value that is written
      obtain ⟨L, hL⟩ : ∃ L, Hid (expand 0 (vals pre) = L) := ⟨_, rfl⟩
      have hLl : L.length ≤ 8796093018112 := by
        rw [← hL.out]
        have h1 := items_len l true
        have h2 := HL.out
        exact pre_len pre 0 (by omega) ht
      obtain ⟨x, hx⟩ : ∃ x, Hid (lastV 0 (vals pre) ^^^ c = x) := ⟨_, rfl⟩
      have hxor := b8_xor (lastV 0 (vals pre)) c
      rw [hx.out] at hxor
      rw [hL.out] at ho
      obtain ⟨y, hy⟩ : ∃ y : Int, ((lastV 0 (vals pre)).toNat : Int) = y := ⟨_, rfl⟩
      obtain ⟨z, hz'⟩ : ∃ z : Int, Hid ((x.toNat : Int) = z) := ⟨_, rfl⟩
      rw [hy, hz'.out] at hxor
      rw [hy] at h9
      clear hy
      have hE : Hid (expand 0 (vals (pre ++ [⟨(n, c, ok), hx0, hx1⟩])) = L ++ List.replicate nn x) := by
        show _ = _
        rw [vals_snoc, expand_app, expand_one, hL.out, ← hx.out]
        show L ++ List.replicate n.toNat _ = _
        rw [hnn']
      have hV : Hid (lastV 0 (vals (pre ++ [⟨(n, c, ok), hx0, hx1⟩])) = x) := by
        show _ = _
        rw [vals_snoc, lastV_app]
        exact hx.out
      obtain ⟨ci, hci⟩ : ∃ ci : Int, Hid ((c.toNat : Int) = ci) := ⟨_, rfl⟩
      have hci' := hci.out
      rw [hci'] at hxor bX
      dsimp only
      rw [hci']
      clear hci'
      have hrow := bX.not_row (by decide) ho
      have c9 := h9.cell
      have f9 := h9.frozen
      have cX := bX.cell1
      have bX1 := bX.other (show Bx ≠ q + 1 by omega) (.int .u8 z)
      have cX0 := bX1.cell0
      have g8 := hv.other (show q ≠ q + 1 by omega) (.int .u8 z)
      have g9 := h9.set (.int .u8 z)
      have go := (ho.kept (grownBy_setCell' W (q + 1) (.int .u8 z)) (by
        cases hvb : v.ownBlock with
        | none => exact .inl rfl
        | some k => exact .inr (by have := (hf k hvb).2.1; intro e; exact this (Option.some.inj e))) : OB (W.setCell ⟨q + 1, 0, none⟩ (.int .u8 z)) w.heap.size v L)
      have gf : ∀ k, v.ownBlock = some k → (k ≠ q ∧ k ≠ q + 1 ∧ k ≠ q + 1 + 1) ∧ k ≠ Bx := fun k e => ⟨hf k e, fun h => hrow (by rw [e, h])⟩
      have gk : KeepsFrom W0.heap.size W (W.setCell ⟨q + 1, 0, none⟩ (.int .u8 z)) := (KeepsOthers.setCell _ _ _).from _
      have gb : Below w.heap.size W (W.setCell ⟨q + 1, 0, none⟩ (.int .u8 z)) := (Below.refl w.heap.size W).setCell (p := ⟨q + 1, 0, none⟩) (by simp; omega) _
      have gh : (W.setCell ⟨q + 1, 0, none⟩ (.int .u8 z)).heap[q + 1 + 1]? = W.heap[q + 1 + 1]? := Below.heap_setCell _ _ _ _ (by simp)
      have gz : W.heap.size ≤ (W.setCell ⟨q + 1, 0, none⟩ (.int .u8 z)).heap.size := by rw [World.size_setCell]; exact Nat.le_refl _
      have G8 := Lib.hid g8; have G9 := Lib.hid g9; have GO := Lib.hid go; have GF := Lib.hid gf; have GK := Lib.hid gk; have GB := Lib.hid gb; have GH := Lib.hid gh; have GX := Lib.hid bX1; have GZ := Lib.hid gz
      have HB := Lib.hid hB; have HLl := Lib.hid hLl; have HN' := Lib.hid hnn'
      have hbl := bX.lt
      have HSZ := Lib.hid hsz; clear hsz
      clear g8 g9 go gf gk gb gh gz bX1 hv ho hf h9 bX hrow hB hLl hr hnn'
      have HNN := Lib.hid hnn; clear hnn
      gi_wp2
      gi_loopw [35] (fun i wr => ∃ (k : Nat) (y : Int) (v : Value), i = .int .i64 y ∧ Hid (y = (k : Int)) ∧ 0 ≤ y ∧ y ≤ n ∧ Hid (Boxed wr q 29 v) ∧ Hid (OB wr w.heap.size v (L ++ List.replicate k x)) ∧ Hid (∀ k, v.ownBlock = some k → (k ≠ q ∧ k ≠ q + 1 ∧ k ≠ q + 1 + 1) ∧ k ≠ Bx) ∧ Hid (Boxed wr (q + 1) 5 (.int .u8 z)) ∧ Hid (KeepsFrom W0.heap.size W wr) ∧ Hid (Below w.heap.size W wr) ∧ Hid (wr.heap[q + 1 + 1]? = W.heap[q + 1 + 1]?) ∧ Hid (W.heap.size ≤ wr.heap.size))
        (fun i _ => nn - (intOf i).toNat)
      case atStart => exact ⟨0, 0, v, rfl, rfl, by omega, by omega, G8, by show OB _ _ _ _; rw [List.replicate_zero, List.append_nil]; exact GO.out, GF, G9, GK, GB, GH, GZ⟩
      case round =>
        obtain ⟨k, y, v, rfl, hyk, hy0, hyn, i8, io, jf, i9, ik, ib, ih, iz⟩ := hrel
        clear G8 GO GF G9 GK GB GH GZ GX
        by_cases hlt3 : y < n
        · have HLT2 : Hid (k < nn) := by have := hyk.out; have := HNN.out; show _ < _; omega
          have cv := i8.out.cell
          have cx := i9.out.cell
          have hyk2 : Hid (y + 1 = ((k + 1 : Nat) : Int)) := by have := hyk.out; show _ = _; omega
          have hone := one_reads wr z x hz'.out
          have HONE := Lib.hid hone; clear hone
          have hlen : (L ++ List.replicate k x).length + [x].length ≤ 140737488355328 := app_len L k nn x HLl.out HLT2.out (by have := HNN.out; omega)
          have HLEN := Lib.hid hlen; clear hlen
          have hba : w.heap.size ≤ (wr.alloc (bOne z)).heap.size := by rw [World.size_alloc]; have := iz.out; omega
          have HBA := Lib.hid hba; clear hba
          gi_wp2_with (gi_at_builtin; refine wpListIn_append_bytes rfl _ _ rfl w.heap.size v (L ++ List.replicate k x) [x] rfl (io.out.alloc _) (wr.heap.size + 1) (some ⟨wr.heap.size, 0, none⟩) 1 rfl HONE.out HLEN.out HBA.out ?_; intro v2 w3 o4 g4 e4; obtain ⟨gg, cap2, rfl, _⟩ := OB.some_ o4 (app_pos L k x); obtain ⟨n2, hn2⟩ : ∃ n2, Hid ((L ++ List.replicate k x ++ [x]).length = n2) := ⟨_, rfl⟩; rw [hn2.out] at o4 e4 ⊢; obtain ⟨hv1, hv2, hr2, hk2, hb2⟩ := i8.out.appended (by decide) io.out (Nat.le_trans hsW iz.out) hs2 o4 g4; have hc1 := hv1.cell; have hf1 := hv1.frozen)
          have hqw : q + 1 + 1 < wr.heap.size := by have := iz.out; omega
          have ne1 : some (q + 1) ≠ v.ownBlock := fun e => (jf.out _ e.symm).1.2.1 rfl
          have ne2 : some (q + 1 + 1) ≠ v.ownBlock := fun e => (jf.out _ e.symm).1.2.2 rfl
          have p9 := (app_other (x := .slice (some ⟨gg, 0, none⟩) n2 cap2) (by omega) (show q + 1 ≠ q by omega) ne1 g4).trans i9.out
          have p10 := (app_other (x := .slice (some ⟨gg, 0, none⟩) n2 cap2) hqw (show q + 1 + 1 ≠ q by omega) ne2 g4).trans ih.out
          have hsz4 : W.heap.size ≤ (w3.setCell ⟨q, 0, none⟩ (.slice (some ⟨gg, 0, none⟩) n2 cap2)).heap.size := by
            have h1 := g4.size
            rw [World.size_alloc] at h1
            rw [World.size_setCell]
            have := iz.out
            omega
          have hfar2 : ∀ j, (Value.slice (some ⟨gg, 0, none⟩) n2 cap2).ownBlock = some j → (j ≠ q ∧ j ≠ q + 1 ∧ j ≠ q + 1 + 1) ∧ j ≠ Bx := fun j ej => by
            rcases e4 with e | e
            · exact jf.out j (e.symm.trans ej)
            · have e5 := Option.some.inj (e.symm.trans ej)
              rw [World.size_alloc] at e5
              have := iz.out
              exact ⟨⟨by omega, by omega, by omega⟩, by omega⟩
          have hfin : OB (w3.setCell ⟨q, 0, none⟩ (.slice (some ⟨gg, 0, none⟩) n2 cap2)) w.heap.size (.slice (some ⟨gg, 0, none⟩) n2 cap2) (L ++ List.replicate (k + 1) x) := by
            rw [← rep_snoc, ← List.append_assoc]; exact hr2
          go_roundw
          case rel => exact ⟨k + 1, y + 1, _, rfl, hyk2, by omega, by omega, hv2, hfin, hfar2, p9, ik.out.trans (hk2.from _), ib.out.trans hb2, p10, hsz4⟩
          case measure => have := hyk.out; have := HNN.out; simp only [intOf]; omega
        · have hke : k = nn := by have := hyk.out; have := HNN.out; omega
          subst hke
          gi_wp2
          exact ⟨ik.out, ⟨ib.out, ih.out⟩, ⟨v, i8.out, by rw [hE.out]; exact io.out, fun k e => (jf.out k e).1⟩, by rw [hV.out, hz'.out]; exact i9.out, Nat.le_trans hz iz.out, HB.out.trans ib.out⟩
    case done =>
      rintro D ys W hD hys ⟨⟨v, hv, ho, hf⟩, h9, hz, hB⟩ hK
      rw [hys] at ho
      have hc8 := hv.cell
      gi_wp2
      refine ⟨by simp, .inl ⟨_, _, rfl, run_takeDeferred hK, ?_⟩⟩
      refine ⟨.tuple #[v, .int .i64 0], ?_, v, rfl, ownsRow_putObj ho _ hK rfl, hB.trans (belowK_b (w := w) (Nat.le_refl _) _ D _ _ (by omega) hK rfl rfl)⟩
      simp [results, Tryd.f80, go_sem]
    case stop =>
      rintro D c pre W _ _ h _
      exact h.elim
end Go.Proofs.YtclgcfofgiejgaaDoor
