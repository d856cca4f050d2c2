/- MEMORY: an array of 256 truths as a function; a kind's box stored anew; Cut. -/
import Derived.Test.YtomiligjcpmnjaaFs
import Derived.Test.YtomiligjcpmnjaaKs
namespace Go.Proofs.Ytomiligjcpmnjaa
set_option maxRecDepth 100000
open Go.RowKit Go.Maps
set_option linter.unusedVariables false
set_option linter.unusedSimpArgs false

def bL (S : Nat → Bool) : List Value := (List.range 256).map fun i => .bool (S i)
def bN (S : Nat → Bool) : Array Value := (bL S).toArray
theorem bL_len (S : Nat → Bool) : (bL S).length = 256 := by unfold bL; simp
theorem bL_get (S : Nat → Bool) (k : Nat) (hk : k < 256) : (bL S)[k]? = some (.bool (S k)) := by
  unfold bL; simp [hk]
theorem bN_get (S : Nat → Bool) (k : Nat) (hk : k < 256) : (bN S)[k]? = some (.bool (S k)) := by
  unfold bN; simpa using bL_get S k hk
def putB (S : Nat → Bool) (k : Nat) (x : Bool) : Nat → Bool := fun j => if j = k then x else S j
/-- block b holds the truths S -/
def GB (w : World) (b : Nat) (S : Nat → Bool) : Prop := w.heap[b]? = some (.cells (bN S) 83 (0, 0))
theorem GB.cell {w : World} {b : Nat} {S : Nat → Bool} (h : GB w b S) (k : Nat) (hk : k < 256) : w.cell? ⟨b, k, none⟩ = some (.bool (S k)) := by
  rw [cell_of_row w b k _ _ _ h, bN_get S k hk]
theorem GB.lt {w : World} {b : Nat} {S : Nat → Bool} (h : GB w b S) : b < w.heap.size := (Array.getElem?_eq_some_iff.1 h).1
theorem GB.frozen {w : World} {b : Nat} {S : Nat → Bool} (h : GB w b S) (k : Nat) : w.frozen? ⟨b, k, none⟩ = false := by
  unfold GB at h
  simp [World.frozen?, h]
theorem GB.new (w : World) (S : Nat → Bool) : GB (w.alloc (.cells (bN S) 83)) w.heap.size S := heap_alloc_last w _
theorem GB.alloc {w : World} {b : Nat} {S : Nat → Bool} (h : GB w b S) (o : Obj) : GB (w.alloc o) b S := (Below.heap_alloc w o b h.lt).trans h
theorem GB.below {w w' : World} {b B : Nat} {S : Nat → Bool} (h : GB w b S) (hb : Below B w w') (hB : b < B) : GB w' b S := (hb.block b hB).trans h
theorem GB.then_ {w w' : World} {b : Nat} {S : Nat → Bool} (h : GB w b S) (hb : Below w.heap.size w w') : GB w' b S := h.below hb h.lt
theorem GB.other {w : World} {b : Nat} {S : Nat → Bool} (h : GB w b S) (a : Addr) (v : Value) (hne : b ≠ a.block) : GB (w.setCell a v) b S := (Below.heap_setCell w a v b hne).trans h
theorem GB.set {w : World} {b : Nat} {S : Nat → Bool} (h : GB w b S) (k : Nat) (x : Bool) : GB (w.setCell ⟨b, k, none⟩ (.bool x)) b (putB S k x) := by
  unfold GB at *
  have hs : bN (putB S k x) = (bN S).setIfInBounds k (.bool x) := by
    unfold bN bL
    apply Array.ext'
    simp only [Array.toList_setIfInBounds]
    apply List.ext_getElem
    · simp
    · intro i h1 h2
      rw [List.getElem_set]
      simp [putB]
      by_cases e : k = i
      · simp [e]
      · simp [e, Ne.symm e]
  rw [hs]
  simp [World.setCell, Array.getElem?_modify, h]
def f256 : Nat → Bool := fun _ => false
theorem zeroB (w : World) : (zeroValue 83).run Try.prog w = .ok (.agg (bN f256)) w :=
  (zero_of_info (P := Try.prog) (t := 83) (v := .agg (bN f256)) (n := 256) (by kernel_rfl)).1 w
/-- which values stand among the first i -/
def sn (r : List UInt8) (i : Nat) : Nat → Bool := fun v => (r.take i).any fun x => x.toNat == v
theorem sn_zero (r : List UInt8) : sn r 0 = f256 := by funext v; unfold sn; simp [f256]
theorem sn_step (r : List UInt8) (i : Nat) (h : i < r.length) : putB (sn r i) (r.getD i 0).toNat true = sn r (i + 1) := by
  funext v
  unfold putB sn
  have e : r.take (i + 1) = r.take i ++ [r.getD i 0] := by
    rw [List.take_add_one, List.getD, List.getElem?_eq_getElem h]; rfl
  rw [e, List.any_append]
  by_cases c : v = (r.getD i 0).toNat
  · rw [if_pos c]; simp [c]
  · rw [if_neg c]
    have : ((r.getD i 0).toNat == v) = false := by simpa using fun x => c x.symm
    simp only [List.any_cons, this, List.any_nil, Bool.or_false]
theorem rk_get_ah (S : Nat → Int) (i j : Nat) (h : i < j) (hj : j < 256) : ah S ((rk S).getD i 0) ((rk S).getD j 0) := by
  have hp := List.pairwise_iff_getElem.1 (rk_pair S) i j (by rw [rk_len]; omega) (by rw [rk_len]; exact hj) h
  rw [List.getD, List.getElem?_eq_getElem (by rw [rk_len]; omega), List.getD, List.getElem?_eq_getElem (by rw [rk_len]; exact hj)]
  exact hp
theorem sn_mem (r : List UInt8) (i v : Nat) (h : i ≤ r.length) : sn r i v = true ↔ ∃ j, j < i ∧ (r.getD j 0).toNat = v := by
  unfold sn
  rw [List.any_eq_true]
  constructor
  · rintro ⟨x, hx, hv⟩
    obtain ⟨j, hj, e⟩ := List.getElem_of_mem hx
    rw [List.length_take] at hj
    rw [List.getElem_take] at e
    exact ⟨j, by omega, by rw [List.getD, List.getElem?_eq_getElem (by omega)]; simpa [e] using hv⟩
  · rintro ⟨j, hj, e⟩
    refine ⟨r.getD j 0, ?_, by simpa using e⟩
    rw [List.getD, List.getElem?_eq_getElem (by omega)]
    have : (r.take i)[j]'(by rw [List.length_take]; omega) = r[j] := List.getElem_take
    exact this ▸ List.getElem_mem _
theorem sn_fresh (S : Nat → Int) (i : Nat) (h : i < 256) : sn (rk S) i ((rk S).getD i 0).toNat = false := by
  cases hs : sn (rk S) i ((rk S).getD i 0).toNat with
  | false => rfl
  | true =>
    obtain ⟨j, hj, e⟩ := (sn_mem _ _ _ (by rw [rk_len]; omega)).1 hs
    have := rk_get_ah S j i hj h
    rw [UInt8.toNat_inj.1 e] at this
    exact absurd (ah_irr this) id

/-- a kind's box stored anew -/
theorem wpList_store_by {w : World} {ops : Array Oper} {rest : List Oper} {op : Oper} {a : Act} {Q : Exit → Act → World → Prop} (hgd : op.guard = none) (x y : Operand) (ho : op.op = .store 25 x y)
    (b : Nat) (hx : a.eval x = .pointer (some ⟨b, 0, none⟩)) (z o z' o' : Int) (A A' : Option Addr) (n c n' c' : Nat) (h : w.heap[b]? = some (.cells #[.int .i64 z, .int .i64 o, .slice A n c] 25 (0, 0))) (hy : a.eval y = .agg #[.int .i64 z', .int .i64 o', .slice A' n' c'])
    (hk : ∀ w', w'.heap[b]? = some (.cells #[.int .i64 z', .int .i64 o', .slice A' n' c'] 25 (0, 0)) → w'.heap.size = w.heap.size → w.grownBy w' (some b) → wpList Try.prog ops Q rest (a.put op.dst undef) w') : wpList Try.prog ops Q (op :: rest) a w := by
  have hs : (Try.prog.info? 25).map (·.size) = some 3 := by kernel_rfl
  refine wpList_plain hgd fun K hK => ?_
  have hrun := run_storeVar_row (P := Try.prog) w b 25 25 #[.int .i64 z, .int .i64 o, .slice A n c] #[.int .i64 z', .int .i64 o', .slice A' n' c'] h (by rw [hs]; rfl) rfl (by simp [Value.oneCell'])
  unfold Oper.wp execOp
  simp only [ho, hx, hy, Instr.storeAt, Instr.sureAddr, Sem.run_bind, Sem.run_pure, Result.andThen_ok, hrun]
  refine hK _ _ ?_
  refine hk _ ?_ ?_ ?_
  · exact setRow_heap w b _ _ 25 _ h
  · simp [World.setRow]
  · exact ⟨rfl, rfl, rfl, by simp [World.setRow], fun k hk hne => setRow_other w b k _ (fun e => hne (by rw [e]))⟩
set_option maxHeartbeats 1000000 in
theorem cut_any (z o : Int) (A : Option Addr) (l : List UInt8) (n c X : Nat) (w : World) (hl : l.length = n) (hc : n ≤ c) (hm : c ≤ maxLen) (hX : (l.take 40).length = X) :
    Calls Try.prog 9 #[.agg #[.int .i64 z, .int .i64 o, .slice A n c]] w fun e w' => e = .returned (.agg #[.int .i64 z, .int .i64 o, .slice A X c]) ∧ Below w.heap.size w w' := by
  have hz := Try.zeroValue25
  have HS := Lib.hid (fun W => short_n A l n c 40 W hl (by omega) hc hm X hX 40 rfl)
  clear hl hc hm hX
  go_enter Try.func9, Try.ntmps9
  go_wp2_with fail
  (with_reducible refine (HS.out _).mono ?_)
  rintro e w3 ⟨rfl, rfl⟩
  go_wp2_with fail
  have hs : (Try.prog.info? 25).map (·.size) = some 3 := by kernel_rfl
  have hh : ((w.alloc (.cells #[.int .i64 z, .int .i64 o, .slice A X c] 25)).alloc (.cells #[.int .i64 z, .int .i64 o, .slice A X c] 25)).heap[w.heap.size + 1]? = some (.cells #[.int .i64 z, .int .i64 o, .slice A X c] 25 (0, 0)) := by
    have h0 := heap_alloc_last (w.alloc (.cells #[.int .i64 z, .int .i64 o, .slice A X c] 25)) (.cells #[.int .i64 z, .int .i64 o, .slice A X c] 25)
    simpa using h0
  exact bodyPost_ret (results_cell_row rfl _ _ (w.heap.size + 1) 25 #[.int .i64 z, .int .i64 o, .slice A X c] (0, 0) _ rfl hh Try.underlying25 rfl (by rw [hs]; rfl)) rfl
    ⟨rfl, ((Below.refl _ _).alloc (Nat.le_refl _) _).alloc (by simp) _⟩
end Go.Proofs.Ytomiligjcpmnjaa
