/- MEMORY: a queue: its struct, its row of pointers, its lines. Package input: New of any delay, At; Put below 0. -/
import Derived.Test.YtomiligjcpmnjaaIg
import Derived.Deep.OwnRows
import Derived.Deep.DeepCutAuto
namespace Go.Proofs.Ytomiligjcpmnjaa
set_option maxRecDepth 100000
open Go.RowKit
set_option linter.unusedVariables false
set_option linter.unusedSimpArgs false

def zB (n : Nat) : List UInt8 := List.replicate n 0
theorem zB_len (n : Nat) : (zB n).length = n := by unfold zB; simp
theorem built_n (n : Int) : Try.prog.built 69 [(0, .int .i64 n)] = some (Array.mk (.int .i64 n :: List.replicate 1000 (.int .u8 0))) := by kernel_rfl
theorem inew_any (w : World) (d : Int) (k : Nat) (hk : (k : Int) = min (max d 0) 8) : Calls Try.prog 23 #[.int .i64 d] w fun e w' => e = .returned (pB w.heap.size) ∧ LM w' w.heap.size k (zB k) ∧ Below w.heap.size w w' ∧ w'.heap.size = w.heap.size + 1 := by
  have hk8 : k ≤ 8 := by omega
  have hN := Lib.hid (LM.new w k k (by omega))
  by_cases h0 : d < 0
  · obtain rfl : k = 0 := by omega
    clear hk
    have e1 : max d 0 = 0 := by omega
    go_enter Try.func23, Try.ntmps23
    go_wp2_with (first
      | (with_reducible refine wpList_build_line rfl (.tmp 5) rfl 0 (built_n 0) (by with_unfolding_all rfl) ?_)
      | (with_reducible refine wpList_box_line rfl (.tmp 6) rfl _ (by with_unfolding_all rfl) ?_))
    go_ret
    exact ⟨rfl, hN.out, (Below.refl _ _).alloc (Nat.le_refl _) _, by simp⟩
  · by_cases h8 : 8 < d
    · obtain rfl : k = 8 := by omega
      clear hk
      have h0' : 0 ≤ d := by omega
      have e1 : max d 0 = d := by omega
      have e2 : min d 8 = 8 := by omega
      go_enter Try.func23, Try.ntmps23
      go_wp2_with (first
        | (with_reducible refine wpList_build_line rfl (.tmp 5) rfl 8 (built_n 8) (by with_unfolding_all rfl) ?_)
        | (with_reducible refine wpList_box_line rfl (.tmp 6) rfl _ (by with_unfolding_all rfl) ?_))
      go_ret
      exact ⟨rfl, hN.out, (Below.refl _ _).alloc (Nat.le_refl _) _, by simp⟩
    · obtain rfl : d = (k : Int) := by omega
      clear hk
      have e1 : max (k : Int) 0 = (k : Int) := by omega
      have e2 : min (k : Int) 8 = (k : Int) := by omega
      go_enter Try.func23, Try.ntmps23
      go_wp2_with (first
        | (with_reducible refine wpList_build_line rfl (.tmp 5) rfl (k : Int) (built_n (k : Int)) (by with_unfolding_all rfl) ?_)
        | (with_reducible refine wpList_box_line rfl (.tmp 6) rfl _ (by with_unfolding_all rfl) ?_))
      go_ret
      exact ⟨rfl, hN.out, (Below.refl _ _).alloc (Nat.le_refl _) _, by simp⟩
theorem at_in (w : World) (b L : Nat) (l : List UInt8) (h : LM w b L l) (hL : l.length = L) (hl : L ≤ 1000) (f : Int) (j : Nat) (hf : f = (j : Int)) (hj : j < l.length) (x : UInt8) (hx : l[j] = x) : Calls Try.prog 40 #[pB b, .int .i64 f] w fun e w' => e = .returned (.tuple #[vb x, .bool true]) ∧ w = w' := by
  subst hf
  have HL := Lib.hid (len_any w b L l h)
  have c2 := h.byte j hj (by omega)
  rw [hx] at c2
  have hjL : j < L := by omega
  have hj1 : j < 1000 := by omega
  clear h hL hj hx
  go_enter Try.func40, Try.ntmps40
  go_wp2_with (go_at_call 35; with_reducible refine (HL.out).mono ?_; rintro e w1 ⟨rfl, rfl⟩)
  go_ret2
  exact ⟨rfl, rfl⟩
theorem at_out (w : World) (b L : Nat) (l : List UInt8) (h : LM w b L l) (f : Int) (hf : ¬ (0 ≤ f ∧ f < (L : Int))) : Calls Try.prog 40 #[pB b, .int .i64 f] w fun e w' => e = .returned (.tuple #[.int .u8 0, .bool false]) ∧ w = w' := by
  have HL := Lib.hid (len_any w b L l h)
  clear h
  by_cases h0 : f < 0
  · clear hf
    go_enter Try.func40, Try.ntmps40
    go_wp2_with (go_at_call 35; with_reducible refine (HL.out).mono ?_; rintro e w1 ⟨rfl, rfl⟩)
    go_ret2
    exact ⟨rfl, rfl⟩
  · have h1 : (L : Int) ≤ f := by omega
    clear hf
    go_enter Try.func40, Try.ntmps40
    go_wp2_with (go_at_call 35; with_reducible refine (HL.out).mono ?_; rintro e w1 ⟨rfl, rfl⟩)
    go_ret2
    exact ⟨rfl, rfl⟩
theorem put_neg (w : World) (b n : Nat) (l : List UInt8) (h : LM w b n l) (f : Int) (v : Value) (hf : f < 0) : Calls Try.prog 21 #[pB b, .int .i64 f, v] w fun e w' => e = .returned (.tuple #[.int .i64 0, .int .i64 1]) ∧ w = w' := by
  have c0 := h.known
  have hfn : ¬ (n : Int) < f := by omega
  clear h
  go_enter Try.func21, Try.ntmps21
  go_wp2
  go_ret2
  exact ⟨rfl, rfl⟩

/-! ### a queue -/
/-- a player's line: its block, its presses -/
structure Ln where
  b : Nat
  l : List UInt8
/-- a row's cells: pointers to the lines, nil behind -/
def ptrF (xs : List Ln) (i : Nat) : Value := .pointer ((xs[i]?).map fun x => ⟨x.b, 0, none⟩)
/-- one of the queue's blocks -/
def QB (q r : Nat) (xs : List Ln) (k : Nat) : Prop := k = q ∨ k = r ∨ ∃ x ∈ xs, x.b = k
/-- the lines xs lie in memory, each in a block of its own -/
structure LS (w : World) (r : Nat) (xs : List Ln) : Prop where
  line : ∀ x ∈ xs, LM w x.b x.l.length x.l ∧ x.l.length ≤ 1000 ∧ x.b ≠ r
  nd : (xs.map Ln.b).Nodup
/-- block q is a queue: its row at block r holds the lines xs -/
structure QM (w : World) (q r : Nat) (xs : List Ln) : Prop where
  row : w.heap[q]? = some (.cells #[.slice (some ⟨r, 0, none⟩) xs.length xs.length] 58 (0, 0))
  ptr : w.rowIs r 50 xs.length (ptrF xs)
  ls : LS w r xs
  ne : q ≠ r ∧ ∀ x ∈ xs, x.b ≠ q
section
variable {w w' : World} {q r : Nat} {xs : List Ln}
theorem LS.same (h : LS w r xs) (hs : ∀ x ∈ xs, w'.heap[x.b]? = w.heap[x.b]?) : LS w' r xs :=
  ⟨fun x hx => ⟨World.rowIs.of_block (h.line x hx).1 (hs x hx), (h.line x hx).2⟩, h.nd⟩
theorem LS.nil (w : World) (r : Nat) : LS w r [] := ⟨fun x hx => (by cases hx), List.nodup_nil⟩
/-- a line more -/
theorem LS.snoc (h : LS w r xs) (x : Ln) (hx : LM w x.b x.l.length x.l) (h1 : x.l.length ≤ 1000) (hr : x.b ≠ r) (hn : ∀ y ∈ xs, y.b ≠ x.b) : LS w r (xs ++ [x]) := by
  refine ⟨fun y hy => ?_, ?_⟩
  · rcases List.mem_append.1 hy with hy | hy
    · exact h.line y hy
    · obtain rfl := List.mem_singleton.1 hy; exact ⟨hx, h1, hr⟩
  · rw [List.map_append, List.nodup_append]
    refine ⟨h.nd, by simp, fun a ha b hb => ?_⟩
    obtain ⟨y, hy, rfl⟩ := List.mem_map.1 ha
    obtain rfl : b = x.b := by simpa using hb
    exact hn y hy
theorem QM.c0 (h : QM w q r xs) : w.cell? ⟨q, 0, none⟩ = some (.slice (some ⟨r, 0, none⟩) xs.length xs.length) := by rw [cell_of_row w q 0 _ _ _ h.row]; rfl
theorem QM.at (h : QM w q r xs) (p : Nat) (x : Ln) (hx : xs[p]? = some x) : w.cell? ⟨r, p, none⟩ = some (pB x.b) := by
  have hp := (List.getElem?_eq_some_iff.1 hx).1
  rw [World.rowIs.cell h.ptr hp]
  unfold ptrF
  rw [hx]; rfl
theorem QM.line (h : QM w q r xs) (p : Nat) (x : Ln) (hx : xs[p]? = some x) : LM w x.b x.l.length x.l ∧ x.l.length ≤ 1000 := by
  have := h.ls.line x (List.mem_of_getElem? hx)
  exact ⟨this.1, this.2.1⟩
theorem QM.lt (h : QM w q r xs) {k : Nat} (hk : QB q r xs k) : k < w.heap.size := by
  rcases hk with rfl | rfl | ⟨x, hx, rfl⟩
  · exact cell_lt h.c0
  · exact World.rowIs.lt h.ptr
  · exact (h.ls.line x hx).1.lt
theorem QM.same (h : QM w q r xs) (hs : ∀ k, QB q r xs k → w'.heap[k]? = w.heap[k]?) : QM w' q r xs :=
  ⟨(hs q (.inl rfl)).trans h.row, World.rowIs.of_block h.ptr (hs r (.inr (.inl rfl))), h.ls.same fun x hx => hs x.b (.inr (.inr ⟨x, hx, rfl⟩)), h.ne⟩
theorem QM.belows (h : QM w q r xs) (hb : Below w.heap.size w w') : QM w' q r xs := h.same fun k hk => hb.block k (h.lt hk)
theorem QM.drew (h : QM w q r xs) : QM w.drew q r xs := h.same fun k _ => rfl
theorem nodup_at {xs : List Ln} (hn : (xs.map Ln.b).Nodup) {p : Nat} {x y : Ln} (hx : xs[p]? = some x) {j : Nat} (hy : xs[j]? = some y) (e : y.b = x.b) : j = p := by
  have hp := (List.getElem?_eq_some_iff.1 hx).1
  have hj := (List.getElem?_eq_some_iff.1 hy).1
  refine (List.getElem_inj (xs := xs.map Ln.b) (h₀ := by simpa using hj) (h₁ := by simpa using hp) hn).1 ?_
  rw [List.getElem_map, List.getElem_map, (List.getElem?_eq_some_iff.1 hx).2, (List.getElem?_eq_some_iff.1 hy).2]
  exact e
theorem set_b (xs : List Ln) (p : Nat) (x : Ln) (hx : xs[p]? = some x) (l : List UInt8) : (xs.set p ⟨x.b, l⟩).map Ln.b = xs.map Ln.b := by
  rw [List.map_set]
  refine List.ext_getElem? fun i => ?_
  rw [List.getElem?_set]
  by_cases e : p = i
  · subst e
    have hp := (List.getElem?_eq_some_iff.1 hx).1
    rw [if_pos rfl, if_pos (by simpa using hp), List.getElem?_map, hx]; rfl
  · rw [if_neg e]
theorem set_ptr (xs : List Ln) (p : Nat) (x : Ln) (hx : xs[p]? = some x) (l : List UInt8) (i : Nat) : ptrF (xs.set p ⟨x.b, l⟩) i = ptrF xs i := by
  unfold ptrF
  have h := congrArg (·[i]?) (set_b xs p x hx l)
  simp only [List.getElem?_map] at h
  have h2 := congrArg (Option.map fun (b : Nat) => (⟨b, 0, none⟩ : Addr)) h
  simp only [Option.map_map] at h2
  exact congrArg Value.pointer h2
theorem mem_set (xs : List Ln) (p : Nat) (x : Ln) (hx : xs[p]? = some x) (l : List UInt8) {y : Ln} (hy : y ∈ xs.set p ⟨x.b, l⟩) : y = ⟨x.b, l⟩ ∨ (∃ j, j ≠ p ∧ xs[j]? = some y) := by
  obtain ⟨j, hj⟩ := List.mem_iff_getElem?.1 hy
  rw [List.getElem?_set] at hj
  by_cases e : p = j
  · rw [if_pos e] at hj
    split at hj
    · exact .inl (Option.some.inj hj).symm
    · cases hj
  · rw [if_neg e] at hj
    exact .inr ⟨j, fun e2 => e e2.symm, hj⟩
/-- a line that grew -/
theorem QM.put (h : QM w q r xs) (p : Nat) (x : Ln) (hx : xs[p]? = some x) (l : List UInt8) (n : Nat) (hn : l.length = n) (hl : LM w' x.b n l) (h1 : n ≤ 1000) (hg : w.grownBy w' (some x.b)) : QM w' q r (xs.set p ⟨x.b, l⟩) := by
  subst hn
  have hm := List.mem_of_getElem? hx
  have hxl := h.ls.line x hm
  refine ⟨?_, ?_, ⟨fun y hy => ?_, by rw [set_b xs p x hx]; exact h.ls.nd⟩, h.ne.1, fun y hy => ?_⟩
  · rw [List.length_set]
    exact (hg.block q (h.lt (.inl rfl)) (fun e => h.ne.2 x hm (Option.some.inj e).symm)).trans h.row
  · rw [List.length_set]
    exact (World.rowIs.of_block h.ptr (hg.block r (h.lt (.inr (.inl rfl))) (fun e => hxl.2.2 (Option.some.inj e).symm))).congr fun i _ => (set_ptr xs p x hx l i).symm
  · rcases mem_set xs p x hx l hy with rfl | ⟨j, hj, hyj⟩
    · exact ⟨hl, h1, hxl.2.2⟩
    · have hym := h.ls.line y (List.mem_of_getElem? hyj)
      exact ⟨World.rowIs.of_block hym.1 (hg.block y.b hym.1.lt (fun e => hj (nodup_at h.ls.nd hx hyj (Option.some.inj e)))), hym.2⟩
  · rcases mem_set xs p x hx l hy with rfl | ⟨j, hj, hyj⟩
    · exact h.ne.2 x hm
    · exact h.ne.2 y (List.mem_of_getElem? hyj)
theorem QB.set (xs : List Ln) (p : Nat) (x : Ln) (hx : xs[p]? = some x) (l : List UInt8) {k : Nat} (hk : QB q r (xs.set p ⟨x.b, l⟩) k) : QB q r xs k := by
  rcases hk with h | h | ⟨y, hy, rfl⟩
  · exact .inl h
  · exact .inr (.inl h)
  · refine .inr (.inr ?_)
    rcases mem_set xs p x hx l hy with rfl | ⟨j, hj, hyj⟩
    · exact ⟨x, List.mem_of_getElem? hx, rfl⟩
    · exact ⟨y, List.mem_of_getElem? hyj, rfl⟩
end
end Go.Proofs.Ytomiligjcpmnjaa
