/- THE WALK of readOps. -/
import Derived.Test.YtjjhdbcekkmjfaaOd
import Derived.Laws.MakeOwn
import Derived.Outline
namespace Go.Proofs.Ytjjhdbcekkmjfaa
open Go.RowKit
set_option linter.unusedVariables false

theorem op_info : (Try.prog.info? 37).map (fun i => (i.zero, i.size, i.bytes)) = some (some (opV zeroO), 4, 32) := by kernel_rfl
/-- the cells of a row of operations -/
def opsF (os : List O4) (i : Nat) : Value := match os[i / 4]? with
  | some o => opF o (i % 4)
  | none => .int .i64 0
theorem opsF_nil (i : Nat) : opsF [] i = .int .i64 0 := rfl
theorem opsF_at (os : List O4) (j c : Nat) (h : j < os.length) (hc : c < 4) : opsF os (j * 4 + c) = opF os[j] c := by
  unfold opsF
  rw [show (j * 4 + c) / 4 = j by omega, show (j * 4 + c) % 4 = c by omega, List.getElem?_eq_getElem h]
theorem opsF_snoc (os : List O4) (o : O4) (i : Nat) : opsF (os ++ [o]) i = if i / 4 = os.length then opF o (i % 4) else opsF os i := by
  unfold opsF
  by_cases h : i / 4 = os.length
  · rw [if_pos h, h, List.getElem?_append_right (Nat.le_refl _)]; simp
  · rw [if_neg h]
    by_cases h2 : i / 4 < os.length
    · rw [List.getElem?_append_left h2]
    · rw [List.getElem?_eq_none (by rw [List.length_append]; simp; omega), List.getElem?_eq_none (by omega)]
def OpRow (w : World) (g n : Nat) (os : List O4) : Prop := w.rowIs g 37 (n * 4) (opsF os)
theorem OpRow.reads {w : World} {g n : Nat} {os : List O4} (h : OpRow w g n os) (hn : os.length ≤ n) (B : Nat) (hB : g < B) : RO w B (some ⟨g, 0, none⟩) os := fun _ => by
  refine ⟨g, 0, rfl, hB, fun j hj => ?_⟩
  have e : ∀ c, c < 4 → w.cell? ⟨g, 0 + j * 4 + c, none⟩ = some (opF os[j] c) := fun c hc => by
    rw [Nat.zero_add, World.rowIs.cell h (i := j * 4 + c) (by omega), opsF_at os j c hj hc]
  exact ⟨e 0 (by omega), e 1 (by omega), e 2 (by omega), e 3 (by omega)⟩
theorem OpRow.put {w : World} {g n : Nat} {os : List O4} (h : OpRow w g n os) (o : O4) (k : Nat) (hk : k = os.length) :
    OpRow ((((w.setCell ⟨g, k * 4, none⟩ (.int .i64 o.k)).setCell ⟨g, k * 4 + 1, none⟩ (.int .i64 o.a)).setCell ⟨g, k * 4 + 2, none⟩ (.int .i64 o.b)).setCell ⟨g, k * 4 + 3, none⟩ (.int .i64 o.c)) g n (os ++ [o]) := by
  subst hk
  refine ((((World.rowIs.set h (os.length * 4) (.int .i64 o.k)).set (os.length * 4 + 1) (.int .i64 o.a)).set (os.length * 4 + 2) (.int .i64 o.b)).set (os.length * 4 + 3) (.int .i64 o.c)).congr (fun i _ => ?_)
  rw [opsF_snoc]
  by_cases hq : i / 4 = os.length
  · rw [if_pos hq]
    obtain h0 | h0 | h0 | h0 : i = os.length * 4 ∨ i = os.length * 4 + 1 ∨ i = os.length * 4 + 2 ∨ i = os.length * 4 + 3 := by omega
    all_goals
      subst h0
      simp
    · rfl
    · rfl
    · rfl
    · rfl
  · rw [if_neg hq, if_neg (by omega), if_neg (by omega), if_neg (by omega), if_neg (by omega)]
theorem run_make_rowN {P : Program} (t e : TypeId) (i : TypeInfo) (z : Value) (ht : P.underlying t = some (.slice e)) (hi : P.info? e = some i) (hz : i.zero = some z)
    (kl kc : IntKind) (n c : Nat) (hnc : n ≤ c) (hbytes : i.bytes * c ≤ 281474976710656) (h63 : c ≤ 9223372036854775807) (w : World) :
    (Instr.makeSlice t (.int kl (n : Int)) (.int kc (c : Int))).run P w = .ok (.slice (some ⟨w.heap.size, 0, none⟩) n c) (w.alloc (.cells (madeCells z.cells (c * i.size)) e)) := by
  have hb : (i.bytes : Int) * (c : Int) ≤ 281474976710656 := by
    have h : ((i.bytes * c : Nat) : Int) ≤ 281474976710656 := by omega
    rwa [Int.natCast_mul] at h
  have hr := run_make (P := P) w t e i z ht hi hz kl kc n c (by omega) (by omega) hb (by omega)
  simp only [Int.toNat_natCast] at hr
  exact hr
def madeOps (n : Nat) : Obj := .cells (madeCells (opV zeroO).cells (n * 4)) 37
theorem make_ops (n : Nat) (hn : n ≤ 65536) (w : World) : (Instr.makeSlice 22 (.int .i64 (n : Int)) (.int .i64 (n : Int))).run Try.prog w = .ok (.slice (some ⟨w.heap.size, 0, none⟩) n n) (w.alloc (madeOps n)) := by
  obtain ⟨i0, hi0, hz0, hz1, hz2⟩ := info_parts op_info
  have h := run_make_rowN (P := Try.prog) 22 37 i0 (opV zeroO) Try.underlying22 hi0 hz0 .i64 .i64 n n (Nat.le_refl _) (by rw [hz2]; omega) (by omega) w
  rw [hz1] at h
  exact h
theorem made_ops (w : World) (n : Nat) : OpRow (w.alloc (madeOps n)) w.heap.size n [] := by
  refine ⟨_, heap_alloc_new w (madeOps n), size_madeCells _ _, fun i hi => ?_⟩
  have h4 : i % 4 < 4 := by omega
  have e : (opV zeroO).cells = #[.int .i64 0, .int .i64 0, .int .i64 0, .int .i64 0] := rfl
  rw [e, opsF_nil]
  unfold madeCells
  rw [Array.getElem?_map, Array.getElem?_range, if_pos hi]
  simp only [Option.map_some, Option.some.injEq]
  obtain h0 | h0 | h0 | h0 : i % 4 = 0 ∨ i % 4 = 1 ∨ i % 4 = 2 ∨ i % 4 = 3 := by omega
  all_goals
    show (#[Value.int .i64 0, .int .i64 0, .int .i64 0, .int .i64 0] : Array Value)[i % 4]! = _
    rw [h0]; rfl

/-- readOps' answer -/
def ReadOps (l : List UInt8) (w : World) (e : Ending) (w' : World) : Prop := match rowsN l with
  | none => (∃ A n c, e = .returned (.tuple #[.slice A n c, .bool false])) ∧ Below w.heap.size w w'
  | some os => ∃ g, e = .returned (.tuple #[.slice (some ⟨g, 0, none⟩) os.length os.length, .bool true]) ∧ w.heap.size ≤ g ∧ OpRow w' g os.length os ∧ Below w.heap.size w w'
theorem ReadOps.no {l : List UInt8} {w w' : World} {A : Option Addr} {n c : Nat} (h : rowsN l = none) (hb : Below w.heap.size w w') : ReadOps l w (.returned (.tuple #[.slice A n c, .bool false])) w' := by
  unfold ReadOps; rw [h]; exact ⟨⟨A, n, c, rfl⟩, hb⟩
theorem rowsN_none {l : List UInt8} (h : numN l = none) : rowsN l = none := by unfold rowsN; rw [h]
theorem rowsN_bad {l r : List UInt8} {m : Int} (h : numN l = some (m, r)) (hm : m < 1 ∨ 64 < m) : rowsN l = none := by unfold rowsN; rw [h]; simp only; rw [if_pos hm]
theorem rowsN_stop {l r : List UInt8} {m : Nat} (h : numN l = some ((m : Int), r)) (h1 : 1 ≤ m) (h2 : m ≤ 64) (h3 : opsN m r = none) : rowsN l = none := by
  unfold rowsN; rw [h]; simp only; rw [if_neg (by omega), Int.toNat_natCast, h3]
theorem rowsN_end {l r r' : List UInt8} {m : Nat} {os : List O4} (h : numN l = some ((m : Int), r)) (h1 : 1 ≤ m) (h2 : m ≤ 64) (h3 : opsN m r = some (os, r')) : rowsN l = if r' = [] then some os else none := by
  unfold rowsN; rw [h]; simp only; rw [if_neg (by omega), Int.toNat_natCast, h3]
  cases r' with
  | nil => rfl
  | cons a b => rfl
set_option maxHeartbeats 2000000 in
theorem readOps_any (A : Option Addr) (l : List UInt8) (cap B : Nat) (w : World) (hr : RB w B A l) (hB : B ≤ w.heap.size) (hc : l.length ≤ cap) (hm : cap ≤ maxLen) :
    Calls Try.prog 27 #[.slice A l.length cap] w (ReadOps l w) := by
  cases hn : numN l with
  | none =>
    have HT := Lib.hid (take_none A l cap B w hr hc hm hn)
    have HN := Lib.hid (rowsN_none hn)
    clear hn hr
    go_enter Try.func27, Try.ntmps27
    go_wp2_with fail
    refine HT.out.mono ?_
    rintro e w1 ⟨rfl, hb1⟩
    go_wp2
    go_ret2
    exact ReadOps.no HN.out hb1
  | some q =>
    obtain ⟨n, r⟩ := q
    have HT := Lib.hid (take_some A l cap B w hr hc hm n r hn)
    clear hr
    by_cases hbad : n < 1 ∨ 64 < n
    · have HN := Lib.hid (rowsN_bad hn hbad)
      clear hn
      have HB := Lib.hid hbad; clear hbad
      by_cases h1 : n < 1
      · go_enter Try.func27, Try.ntmps27
        go_wp2_with fail
        refine HT.out.mono ?_
        rintro e w1 ⟨A2, cap2, rfl, _, _, _, hb1⟩
        go_wp2
        go_ret2
        exact ReadOps.no HN.out hb1
      · have h2 : 64 < n := by have := HB.out; omega
        go_enter Try.func27, Try.ntmps27
        go_wp2_with fail
        refine HT.out.mono ?_
        rintro e w1 ⟨A2, cap2, rfl, _, _, _, hb1⟩
        go_wp2
        go_ret2
        exact ReadOps.no HN.out hb1
    · obtain ⟨m, rfl⟩ : ∃ m : Nat, n = m := ⟨n.toNat, by omega⟩
      have m1 : 1 ≤ m := by omega
      have m2 : m ≤ 64 := by omega
      clear hbad
      have HN := Lib.hid hn; clear hn
      have hmk := make_ops m (by omega)
      go_enter Try.func27, Try.ntmps27
      go_wp2_with fail
      refine HT.out.mono ?_
      rintro e w1 ⟨A2, cap2, rfl, h1, h2, h3, hb1⟩
      have hR := Lib.hid (made_ops w1 m)
      have h4 := h1.below (((Below.refl _ _).alloc (Nat.le_refl _) (madeOps m)).mono (Nat.le_trans hB hb1.size))
      have H4 := Lib.hid h4
      have hb2 := hb1.alloc hb1.size (madeOps m)
      clear h1 h4
      go_wp2
      go_loopw [0, 28] (fun s i wr => ∃ (os : List O4) (k : Nat) (A1 : Option Addr) (l1 : List UInt8) (cap1 : Nat), i = .int .i64 k ∧ k ≤ m ∧ Hid (k = os.length) ∧ s = .slice A1 l1.length cap1 ∧ l1.length ≤ cap1 ∧ cap1 ≤ maxLen ∧ Hid (RB wr B A1 l1) ∧
          Hid (OpRow wr w1.heap.size m os) ∧ Below w.heap.size w wr ∧ Hid (opsN k r = some (os, l1))) (fun _ i _ => m - (intOf i).toNat)
      case atStart => exact ⟨[], 0, A2, r, cap2, rfl, by omega, rfl, rfl, h2, h3, H4, hR, hb2, rfl⟩
      case round =>
        obtain ⟨os, k, A1, l1, cap1, rfl, hk, hko, rfl, hc1, hm1, hrb, hrow, hb, hp⟩ := hrel
        clear hb2 H4 hR h2 h3
        have hw1 := hb1.size
        have hgl : w1.heap.size < wr.heap.size := World.rowIs.lt hrow.out
        by_cases hlt : k < m
        · have hT := takeOp_any A1 l1 cap1 B wr hrb.out (Nat.le_trans hB hb.size) hc1 hm1
          unfold TakenOp at hT
          cases ho : opN l1 with
          | none =>
            rw [ho] at hT
            have HT2 := Lib.hid hT; clear hT
            have HN2 := Lib.hid (rowsN_stop HN.out m1 m2 (opsN_stop hp.out hlt ho))
            clear ho
            go_wp2_with fail
            refine HT2.out.mono ?_
            rintro e w2 ⟨rfl, hb3⟩
            have c1 := rowIs_below hrow.out hb3 hgl
            unfold opV
            have c10 := c1.cell (i := k * 4) (by omega); have c11 := c1.cell (i := k * 4 + 1) (by omega); have c12 := c1.cell (i := k * 4 + 2) (by omega); have c13 := c1.cell (i := k * 4 + 3) (by omega)
            have f0 := c1.frozen (k * 4); have f1 := c1.frozen (k * 4 + 1); have f2 := c1.frozen (k * 4 + 2); have f3 := c1.frozen (k * 4 + 3)
            have hb4 := hb.trans (hb3.mono hb.size)
            clear c1
            go_wp2
            go_ret2
            refine ReadOps.no HN2.out ?_
            exact (((hb4.setCell hw1 _).setCell hw1 _).setCell hw1 _).setCell hw1 _
          | some q =>
            obtain ⟨o, r2⟩ := q
            rw [ho] at hT
            have HT2 := Lib.hid hT; clear hT
            have HN2 := Lib.hid (opsN_snoc hp.out ho)
            clear ho
            go_wp2_with fail
            refine HT2.out.mono ?_
            rintro e w2 ⟨A3, cap3, rfl, h5, h6, h7, hb3⟩
            have c1 : OpRow w2 w1.heap.size m os := rowIs_below hrow.out hb3 hgl
            unfold opV
            have c10 := World.rowIs.cell c1 (i := k * 4) (by omega); have c11 := World.rowIs.cell c1 (i := k * 4 + 1) (by omega); have c12 := World.rowIs.cell c1 (i := k * 4 + 2) (by omega); have c13 := World.rowIs.cell c1 (i := k * 4 + 3) (by omega)
            have f0 := World.rowIs.frozen c1 (k * 4); have f1 := World.rowIs.frozen c1 (k * 4 + 1); have f2 := World.rowIs.frozen c1 (k * 4 + 2); have f3 := World.rowIs.frozen c1 (k * 4 + 3)
            have hb4 := hb.trans (hb3.mono hb.size)
            have hz : Below w.heap.size w2 ((((w2.setCell ⟨w1.heap.size, k * 4, none⟩ (.int .i64 o.k)).setCell ⟨w1.heap.size, k * 4 + 1, none⟩ (.int .i64 o.a)).setCell ⟨w1.heap.size, k * 4 + 2, none⟩ (.int .i64 o.b)).setCell ⟨w1.heap.size, k * 4 + 3, none⟩ (.int .i64 o.c)) :=
              ((((Below.refl _ _).setCell hw1 _).setCell hw1 _).setCell hw1 _).setCell hw1 _
            have C1 := Lib.hid (c1.put o k hko.out)
            have H5 := Lib.hid (h5.below (hz.mono hB))
            have hb5 := hb4.trans hz
            clear c1 h5 hb4 hz
            go_wp2
            go_roundw
            case rel => exact ⟨os ++ [o], k + 1, A3, r2, cap3, by go_num, by omega, by have := hko.out; unfold Hid; rw [List.length_append]; simp; omega, rfl, h6, h7, H5, C1, hb5, HN2⟩
            case measure => simp [intOf]; omega
        · obtain rfl : k = m := by omega
          have HN2 := Lib.hid (rowsN_end HN.out m1 m2 hp.out)
          by_cases hl : l1 = []
          · subst hl
            have HN3 := Lib.hid (show rowsN l = some os by rw [HN2.out, if_pos rfl])
            go_wp2
            go_ret2
            unfold ReadOps
            rw [HN3.out]
            have hk := hko.out
            refine ⟨w1.heap.size, ?_, hw1, ?_, hb⟩
            · rw [← hk]; rfl
            · rw [← hk]; exact hrow.out
          · have HN3 := Lib.hid (show rowsN l = none by rw [HN2.out, if_neg hl])
            have hq : decide (l1.length = 0) = false := by
              have : l1.length ≠ 0 := fun h => hl (List.eq_nil_of_length_eq_zero h)
              simpa using this
            have hq2 : ((l1.length : Int) == 0) = false := by
              have : l1.length ≠ 0 := fun h => hl (List.eq_nil_of_length_eq_zero h)
              simp; exact hl
            have HL := Lib.hid hl; clear hl
            go_wp2
            go_ret2
            exact ReadOps.no HN3.out hb
end Go.Proofs.Ytjjhdbcekkmjfaa
