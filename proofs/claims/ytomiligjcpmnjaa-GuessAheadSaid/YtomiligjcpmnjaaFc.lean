/- MEMORY: a row of 256 bytes as a function, an array of 256 numbers as a function; the sort's own comparison. -/
import Derived.Test.YtomiligjcpmnjaaKd
import Derived.Test.YtomiligjcpmnjaaKr
import Derived.Test.YtomiligjcpmnjaaFa
import Derived.Deep.MidRow
import Derived.Deep.WholeRow
import Derived.Laws.CopyOwn
import Derived.Laws.ResultCell
import Derived.BigRegion
import Derived.BigQuiet
namespace Go.Proofs.Ytomiligjcpmnjaa
set_option maxRecDepth 100000
open Go.RowKit
set_option linter.unusedVariables false
set_option linter.unusedSimpArgs false

/-! ### arrays of 256 numbers -/
def nI (x : Int) : Value := .int .i64 x
def aL (S : Nat → Int) : List Value := (List.range 256).map fun i => nI (S i)
def aN (S : Nat → Int) : Array Value := (aL S).toArray
theorem aL_len (S : Nat → Int) : (aL S).length = 256 := by unfold aL; simp
theorem aN_size (S : Nat → Int) : (aN S).size = 256 := by unfold aN; simp [aL_len]
theorem aL_get (S : Nat → Int) (k : Nat) (hk : k < 256) : (aL S)[k]? = some (.int .i64 (S k)) := by
  unfold aL; simp [hk, nI]
theorem aN_get (S : Nat → Int) (k : Nat) (hk : k < 256) : (aN S)[k]? = some (.int .i64 (S k)) := by
  unfold aN; simpa using aL_get S k hk
theorem aN_one (S : Nat → Int) : (aN S).all (·.oneCell') = true := by
  unfold aN aL
  exact all_oneCell_toArray (fun v hv => by obtain ⟨x, _, rfl⟩ := List.mem_map.1 hv; rfl)
theorem aN_congr {S T : Nat → Int} (h : ∀ k, k < 256 → S k = T k) : aN S = aN T := by
  unfold aN aL
  congr 1
  exact List.map_congr_left (fun k hk => by rw [h k (List.mem_range.1 hk)])
def putS (S : Nat → Int) (k : Nat) (x : Int) : Nat → Int := fun j => if j = k then x else S j
/-- block b holds the numbers S -/
def GN (w : World) (b : Nat) (S : Nat → Int) : Prop := w.heap[b]? = some (.cells (aN S) 70 (0, 0))
theorem GN.cell {w : World} {b : Nat} {S : Nat → Int} (h : GN w b S) (k : Nat) (hk : k < 256) : w.cell? ⟨b, k, none⟩ = some (.int .i64 (S k)) := by
  rw [cell_of_row w b k _ _ _ h, aN_get S k hk]
theorem GN.lt {w : World} {b : Nat} {S : Nat → Int} (h : GN w b S) : b < w.heap.size := (Array.getElem?_eq_some_iff.1 h).1
theorem GN.frozen {w : World} {b : Nat} {S : Nat → Int} (h : GN w b S) (k : Nat) : w.frozen? ⟨b, k, none⟩ = false := by
  unfold GN at h
  simp [World.frozen?, h]
theorem GN.new (w : World) (S : Nat → Int) : GN (w.alloc (.cells (aN S) 70)) w.heap.size S := heap_alloc_last w _
theorem GN.alloc {w : World} {b : Nat} {S : Nat → Int} (h : GN w b S) (o : Obj) : GN (w.alloc o) b S := (Below.heap_alloc w o b h.lt).trans h
theorem GN.below {w w' : World} {b B : Nat} {S : Nat → Int} (h : GN w b S) (hb : Below B w w') (hB : b < B) : GN w' b S := (hb.block b hB).trans h
theorem GN.then_ {w w' : World} {b : Nat} {S : Nat → Int} (h : GN w b S) (hb : Below w.heap.size w w') : GN w' b S := h.below hb h.lt
theorem GN.grown {w w' : World} {b : Nat} {row : Option Nat} {S : Nat → Int} (h : GN w b S) (hg : w.grownBy w' row) (hr : some b ≠ row) : GN w' b S := (hg.block b h.lt hr).trans h
theorem GN.other {w : World} {b : Nat} {S : Nat → Int} (h : GN w b S) (a : Addr) (v : Value) (hne : b ≠ a.block) : GN (w.setCell a v) b S := (Below.heap_setCell w a v b hne).trans h
theorem GN.drew {w : World} {b : Nat} {S : Nat → Int} (h : GN w b S) : GN w.drew b S := h
theorem GN.set {w : World} {b : Nat} {S : Nat → Int} (h : GN w b S) (k : Nat) (x : Int) : GN (w.setCell ⟨b, k, none⟩ (.int .i64 x)) b (putS S k x) := by
  unfold GN at *
  have hs : aN (putS S k x) = (aN S).setIfInBounds k (.int .i64 x) := by
    unfold aN aL
    apply Array.ext'
    simp only [Array.toList_setIfInBounds]
    apply List.ext_getElem
    · simp
    · intro i h1 h2
      rw [List.getElem_set]
      simp [putS, nI]
      by_cases e : k = i
      · simp [e]
      · simp [e, Ne.symm e]
  rw [hs]
  simp [World.setCell, Array.getElem?_modify, h]
theorem GN.range {w : World} {b : Nat} {S : Nat → Int} (h : GN w b S) : w.rangeAt b 0 (aL S) := fun j v hv => by
  rw [Nat.zero_add, cell_of_row w b j _ _ _ h]; unfold aN; simpa using hv
theorem arr_size : (Try.prog.info? 70).map (·.size) = some 256 := by kernel_rfl
theorem wpList_load_n {ops : Array Oper} {rest : List Oper} {op : Oper} {a : Act} {w : World} {Q : Exit → Act → World → Prop} (hgd : op.guard = none) (x : Operand) (ho : op.op = .load 70 x)
    (b : Nat) (hx : a.eval x = .pointer (some ⟨b, 0, none⟩)) (S : Nat → Int) (h : GN w b S)
    (hk : wpList Try.prog ops Q rest (a.put op.dst (.agg (aN S))) w) : wpList Try.prog ops Q (op :: rest) a w :=
  wpList_load_mid hgd 70 x ho b 0 hx (aL S) _ h.range Try.underlying70 rfl (by rw [arr_size, aL_len]) hk
theorem wpList_store_n {ops : Array Oper} {rest : List Oper} {op : Oper} {a : Act} {w : World} {Q : Exit → Act → World → Prop} (hgd : op.guard = none) (x y : Operand) (ho : op.op = .store 70 x y)
    (b : Nat) (hx : a.eval x = .pointer (some ⟨b, 0, none⟩)) (S T : Nat → Int) (h : GN w b S) (hy : a.eval y = .agg (aN T))
    (hk : ∀ w', GN w' b T → w'.heap.size = w.heap.size → w.grownBy w' (some b) → wpList Try.prog ops Q rest (a.put op.dst undef) w') : wpList Try.prog ops Q (op :: rest) a w := by
  refine wpList_plain hgd fun K hK => ?_
  have hrun := run_storeVar_row (P := Try.prog) w b 70 70 (aN S) (aN T) h (by rw [arr_size, aN_size]) (by rw [aN_size, aN_size]) (aN_one T)
  unfold Oper.wp execOp
  simp only [ho, hx, hy, Instr.storeAt, Instr.sureAddr, Sem.run_bind, Sem.run_pure, Result.andThen_ok, hrun]
  refine hK _ _ ?_
  refine hk _ ?_ ?_ ?_
  · exact setRow_heap w b _ _ 70 _ h
  · simp [World.setRow]
  · exact ⟨rfl, rfl, rfl, by simp [World.setRow], fun k hk hne => setRow_other w b k _ (fun e => hne (by rw [e]))⟩
theorem index_n (S : Nat → Int) (k : Nat) (hk : k < 256) (w : World) : (Instr.index 70 (.agg (aN S)) (.int .i64 (k : Int))).run Try.prog w = .ok (.int .i64 (S k)) w := by
  have hsz : (sizeOf 3).run Try.prog w = .ok 1 w := by
    have hq : (Try.prog.info? 3).map (·.size) = some 1 := by kernel_rfl
    cases hq2 : Try.prog.info? 3 with
    | none => simp [hq2] at hq
    | some i =>
      have : i.size = 1 := by simpa [hq2] using hq
      simp [sizeOf, typeInfo, hq2, this]
  have hagg : (isAgg 3).run Try.prog w = .ok false w := by
    unfold isAgg
    rw [Sem.run_bind, run_underlying Try.underlying3 w]
    rfl
  simp [Instr.index, asIntOf, run_underlying Try.underlying70, hk, hsz, part, hagg, aN_get S k hk]
theorem results_n {fn : Func} {p : Tmp} (h : fn.results = #[.cell p 70]) {tmps : Array Value} {w : World} {b : Nat} {S : Nat → Int} (hg : GN w b S) (hp : tmps.getD p undef = .pointer (some ⟨b, 0, none⟩)) :
    (results fn tmps).run Try.prog w = .ok (.agg (aN S)) w :=
  results_cell_row h tmps w b 70 (aN S) (0, 0) _ hp hg Try.underlying70 rfl (by rw [arr_size, aN_size])

/-! ### rows of 256 bytes -/
def rL (f : Nat → UInt8) : List UInt8 := (List.range 256).map f
theorem rL_len (f : Nat → UInt8) : (rL f).length = 256 := by unfold rL; simp
theorem rL_get? (f : Nat → UInt8) (k : Nat) (hk : k < 256) : (rL f)[k]? = some (f k) := by unfold rL; simp [hk]
theorem rL_get (f : Nat → UInt8) (k : Nat) (hk : k < (rL f).length) : (rL f)[k] = f k := by
  have h := rL_get? f k (by rw [rL_len] at hk; exact hk)
  rw [List.getElem?_eq_getElem hk] at h
  exact Option.some.inj h
theorem rL_set (f : Nat → UInt8) (k : Nat) (v : UInt8) : rL (upd f k v) = (rL f).set k v := by
  apply List.ext_getElem
  · simp [rL_len]
  · intro i h1 h2
    rw [List.getElem_set, rL_get, rL_get]
    unfold upd
    by_cases e : k = i
    · simp [e]
    · simp [e, Ne.symm e]
def sV (g : Nat) : Value := .slice (some ⟨g, 0, none⟩) 256 256
/-- block g is a row of the bytes f -/
def OF (w : World) (g : Nat) (f : Nat → UInt8) : Prop := OB w g (sV g) (rL f)
theorem OF.cell {w : World} {g : Nat} {f : Nat → UInt8} (h : OF w g f) (k : Nat) (hk : k < 256) : w.cell? ⟨g, k, none⟩ = some (.int .u8 ((f k).toNat : Int)) := by
  have := OB.cell_at (w := w) h (rL_len f) k (by rw [rL_len]; exact hk)
  rw [rL_get] at this
  exact this
theorem OF.frozen {w : World} {g : Nat} {f : Nat → UInt8} (h : OF w g f) (k : Nat) : w.frozen? ⟨g, k, none⟩ = false := OB.frozen_at (w := w) h (rL_len f) k
theorem OF.lt {w : World} {g : Nat} {f : Nat → UInt8} (h : OF w g f) : g < w.heap.size := cell_lt (h.cell 0 (by omega))
theorem OF.set {w : World} {g : Nat} {f : Nat → UInt8} (h : OF w g f) (k : Nat) (y : UInt8) : OF (w.setCell ⟨g, k, none⟩ (.int .u8 (y.toNat : Int))) g (upd f k y) := by
  unfold OF at h ⊢
  rw [rL_set]
  exact OB.set (w := w) h (rL_len f) k y
theorem OF.drew {w : World} {g : Nat} {f : Nat → UInt8} (h : OF w g f) : OF w.drew g f := OB.drew h
theorem OF.then_ {w w' : World} {g : Nat} {f : Nat → UInt8} (h : OF w g f) (hb : Below w.heap.size w w') : OF w' g f := OB.below h hb (Nat.le_refl _)
theorem grown_set (w : World) (g k : Nat) (v : Value) : w.grownBy (w.setCell ⟨g, k, none⟩ v) (some g) :=
  ⟨rfl, rfl, rfl, by simp [World.setCell], fun i hi hne => Below.heap_setCell w _ v i (fun e => hne (by rw [e]))⟩
theorem grown_trans_ {a b c : World} {r : Option Nat} (h : a.grownBy b r) (h2 : b.grownBy c r) : a.grownBy c r :=
  ⟨h2.os.trans h.os, h2.tape.trans h.tape, h2.output.trans h.output, Nat.le_trans h.size h2.size, fun i hi hne => (h2.block i (Nat.lt_of_lt_of_le hi h.size) hne).trans (h.block i hi hne)⟩
theorem grown_drew (w : World) (r : Option Nat) : w.grownBy w.drew r := ⟨rfl, rfl, rfl, Nat.le_refl _, fun _ _ _ => rfl⟩
/-- what the sort holds: the scores in block s, the row in block g; all else is as in w0 -/
structure SO (w0 w : World) (s g : Nat) (S : Nat → Int) (f : Nat → UInt8) : Prop where
  gn : GN w s S
  of : OF w g f
  ne : s ≠ g
  gr : w0.grownBy w (some g)
theorem SO.then_ {w0 w w' : World} {s g : Nat} {S : Nat → Int} {f : Nat → UInt8} (h : SO w0 w s g S f) (hb : Below w.heap.size w w') : SO w0 w' s g S f :=
  ⟨h.gn.then_ hb, h.of.then_ hb, h.ne, grown_trans_ h.gr (only_of_below hb _)⟩
theorem SO.swap {w0 w : World} {s g : Nat} {S : Nat → Int} {f : Nat → UInt8} (h : SO w0 w s g S f) (i j : Nat) (x y : UInt8) :
    SO w0 (((w.drew).setCell ⟨g, i, none⟩ (.int .u8 (x.toNat : Int))).setCell ⟨g, j, none⟩ (.int .u8 (y.toNat : Int))) s g S (upd (upd f i x) j y) :=
  ⟨(h.gn.drew.other _ _ h.ne).other _ _ h.ne, (h.of.drew.set i x).set j y, h.ne, grown_trans_ (grown_trans_ (grown_trans_ h.gr (grown_drew w _)) (grown_set _ g i _)) (grown_set _ g j _)⟩
theorem SO.again {w0 w w2 : World} {s g : Nat} {S : Nat → Int} {f f2 : Nat → UInt8} (h : SO w0 w s g S f) (h2 : SO w w2 s g S f2) : SO w0 w2 s g S f2 := ⟨h2.gn, h2.of, h2.ne, grown_trans_ h.gr h2.gr⟩
theorem SO.self {w0 w : World} {s g : Nat} {S : Nat → Int} {f : Nat → UInt8} (h : SO w0 w s g S f) : SO w w s g S f := ⟨h.gn, h.of, h.ne, ⟨rfl, rfl, rfl, Nat.le_refl _, fun _ _ _ => rfl⟩⟩

/-! ### the comparison -/
def cI (a b : Int) : Int := if a < b then -1 else if b < a then 1 else 0
theorem cI_neg (a b : Int) : (cI a b < 0) ↔ a < b := by unfold cI; split <;> (try split) <;> omega
set_option maxHeartbeats 1000000 in
theorem isnan_any (x : Int) (w : World) : Calls Try.prog 48 #[.int .i64 x] w fun e w' => e = .returned (.bool false) ∧ w = w' := by
  go_enter Try.func48, Try.ntmps48
  go_wp2_with fail
  go_ret
  exact ⟨by simp, rfl⟩
set_option maxHeartbeats 1000000 in
theorem compare_any (x y : Int) (w : World) : Calls Try.prog 39 #[.int .i64 x, .int .i64 y] w fun e w' => e = .returned (.int .i64 (cI x y)) ∧ w = w' := by
  have HX := Lib.hid (isnan_any x w)
  have HY := Lib.hid (isnan_any y w)
  rcases Int.lt_trichotomy x y with h | h | h
  · have hc : cI x y = -1 := by unfold cI; rw [if_pos h]
    rw [hc]
    go_enter Try.func39, Try.ntmps39
    go_wp2_with fail
    (with_reducible refine HX.out.mono ?_)
    rintro e w1 ⟨rfl, rfl⟩
    go_wp2_with fail
    (with_reducible refine HY.out.mono ?_)
    rintro e w2 ⟨rfl, rfl⟩
    go_wp2_with fail
    go_ret
    exact ⟨rfl, rfl⟩
  · have hc : cI x y = 0 := by unfold cI; rw [if_neg (by omega), if_neg (by omega)]
    subst h
    rw [hc]
    go_enter Try.func39, Try.ntmps39
    go_wp2_with fail
    (with_reducible refine HX.out.mono ?_)
    rintro e w1 ⟨rfl, rfl⟩
    go_wp2_with fail
    (with_reducible refine HY.out.mono ?_)
    rintro e w2 ⟨rfl, rfl⟩
    go_wp2_with fail
    go_ret
    exact ⟨rfl, rfl⟩
  · have hc : cI x y = 1 := by unfold cI; rw [if_neg (by omega), if_pos h]
    have h2 : ¬ x < y := by omega
    rw [hc]
    go_enter Try.func39, Try.ntmps39
    go_wp2_with fail
    (with_reducible refine HX.out.mono ?_)
    rintro e w1 ⟨rfl, rfl⟩
    go_wp2_with fail
    (with_reducible refine HY.out.mono ?_)
    rintro e w2 ⟨rfl, rfl⟩
    go_wp2_with fail
    go_ret
    exact ⟨rfl, rfl⟩
def cmpV (s : Nat) : Value := .func (.func 38) #[] #[.pointer (some ⟨s, 0, none⟩)]
theorem GN.drewN {w : World} {b : Nat} {S : Nat → Int} (h : GN w b S) (n : Nat) : GN (w.drewN n) b S := h
theorem OF.drewN {w : World} {g : Nat} {f : Nat → UInt8} (h : OF w g f) (n : Nat) : OF (w.drewN n) g f := h.then_ (below_drewN (Below.refl _ _) n)
theorem SO.drewN {w0 w : World} {s g : Nat} {S : Nat → Int} {f : Nat → UInt8} (h : SO w0 w s g S f) (n : Nat) : SO w0 (w.drewN n) s g S f := h.then_ (below_drewN (Below.refl _ _) n)
set_option maxHeartbeats 1000000 in
theorem less_any (x y : UInt8) (s : Nat) (S : Nat → Int) (w : World) (h : GN w s S) :
    Calls Try.prog 38 #[.int .u8 (x.toNat : Int), .int .u8 (y.toNat : Int), .pointer (some ⟨s, 0, none⟩)] w fun e w' => e = .returned (.int .i64 (cI (S y.toNat) (S x.toNat))) ∧ ∃ n, w' = w.drewN n := by
  have hx := x.toNat_lt
  have hy := y.toNat_lt
  obtain ⟨X, hX⟩ : ∃ X, x.toNat = X := ⟨_, rfl⟩
  obtain ⟨Y, hY⟩ : ∃ Y, y.toNat = Y := ⟨_, rfl⟩
  rw [hX] at hx ⊢
  rw [hY] at hy ⊢
  have cx := h.cell X hx
  have cy := h.cell Y hy
  have HC := Lib.hid (fun W => compare_any (S Y) (S X) W)
  clear h hX hY
  go_enter Try.func38, Try.ntmps38
  go_wp2_with fail
  go_quiet ((go_at_call 39; with_reducible exact same_left (HC.out _)))
  go_wp2_with fail
  go_ret
  exact ⟨rfl, _, rfl⟩
theorem less_q (x y : UInt8) (s : Nat) (S : Nat → Int) (w : World) (h : GN w s S) (n : Nat) :
    Calls Try.prog 38 #[.int .u8 (x.toNat : Int), .int .u8 (y.toNat : Int), .pointer (some ⟨s, 0, none⟩)] (w.drewN n) fun e w' => e = .returned (.int .i64 (cI (S y.toNat) (S x.toNat))) ∧ ∃ m, w' = w.drewN m :=
  (less_any x y s S (w.drewN n) (h.drewN n)).mono fun e w' ⟨he, m, hm⟩ => ⟨he, n + m, by rw [hm, World.drewN_drewN]⟩
end Go.Proofs.Ytomiligjcpmnjaa
