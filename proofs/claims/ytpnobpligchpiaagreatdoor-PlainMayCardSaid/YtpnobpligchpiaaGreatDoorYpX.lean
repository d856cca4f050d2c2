/- texts of YpX -/
import Derived.Deep.DeepCutAuto
import Derived.Deep.OwnRows
import Derived.Test.YtpnobpligchpiaaGreatDoorYpI
import Derived.Test.YtpnobpligchpiaaGreatDoorYpK
namespace Go.Proofs.YtpnobpligchpiaaGreatDoor
set_option maxRecDepth 100000
open Go.RowKit
set_option linter.unusedVariables false
set_option linter.unusedSimpArgs false
def zB (n : Nat) : List UInt8 := List.replicate n 0
theorem zB_len (n : Nat) : (zB n).length = n := by unfold zB; simp
theorem built_n (n : Int) : Tryz.prog.built 209 [(0, .int .i64 n)] = some (Array.mk (.int .i64 n :: List.replicate 1000 (.int .u8 0))) := by kernel_rfl
theorem inew_any (w : World) (d : Int) (k : Nat) (hk : (k : Int) = min (max d 0) 8) : Calls Tryz.prog 117 #[.int .i64 d] w fun e w' => e = .returned (pB w.heap.size) ∧ LM w' w.heap.size k (zB k) ∧ Below w.heap.size w w' ∧ w'.heap.size = w.heap.size + 1 := by
 have hk8 : k ≤ 8 := by omega
 have hN := qh (LM.new w k k (by omega))
 by_cases h0 : d < 0
 · obtain rfl : k = 0 := by omega
   clear hk
   have e1 : max d 0 = 0 := by omega
   go_enter Tryz.func117, Tryz.ntmps117
   go_wp2_with (first
    | (with_reducible refine wpList_build_line rfl (.tmp 5) rfl 0 (built_n 0) (by with_unfolding_all rfl) ?_)
    | (with_reducible refine wpList_box_line rfl (.tmp 6) rfl _ (by with_unfolding_all rfl) ?_))
   go_ret
   exact ⟨rfl, hN.out, (bR _ _).alloc (nl _) _, by simp⟩
 · by_cases h8 : 8 < d
   · obtain rfl : k = 8 := by omega
     clear hk
     have h0' : 0 ≤ d := by omega
     have e1 : max d 0 = d := by omega
     have e2 : min d 8 = 8 := by omega
     go_enter Tryz.func117, Tryz.ntmps117
     go_wp2_with (first
      | (with_reducible refine wpList_build_line rfl (.tmp 5) rfl 8 (built_n 8) (by with_unfolding_all rfl) ?_)
      | (with_reducible refine wpList_box_line rfl (.tmp 6) rfl _ (by with_unfolding_all rfl) ?_))
     go_ret
     exact ⟨rfl, hN.out, (bR _ _).alloc (nl _) _, by simp⟩
   · obtain rfl : d = (k : Int) := by omega
     clear hk
     have e1 : max (k : Int) 0 = (k : Int) := by omega
     have e2 : min (k : Int) 8 = (k : Int) := by omega
     go_enter Tryz.func117, Tryz.ntmps117
     go_wp2_with (first
      | (with_reducible refine wpList_build_line rfl (.tmp 5) rfl (k : Int) (built_n (k : Int)) (by with_unfolding_all rfl) ?_)
      | (with_reducible refine wpList_box_line rfl (.tmp 6) rfl _ (by with_unfolding_all rfl) ?_))
     go_ret
     exact ⟨rfl, hN.out, (bR _ _).alloc (nl _) _, by simp⟩
theorem at_in (w : World) (b L : Nat) (l : List UInt8) (h : LM w b L l) (hL : l.length = L) (hl : L ≤ 1000) (f : Int) (j : Nat) (hf : f = (j : Int)) (hj : j < l.length) (x : UInt8) (hx : l[j] = x) : Calls Tryz.prog 166 #[pB b, .int .i64 f] w fun e w' => e = .returned (.tuple #[vb x, .bool true]) ∧ w = w' := by
 subst hf
 have HL := qh (len_any w b L l h)
 have c2 := h.byte j hj (by omega)
 rw [hx] at c2
 have hjL : j < L := by omega
 have hj1 : j < 1000 := by omega
 clear h hL hj hx
 go_enter Tryz.func166, Tryz.ntmps166
 go_wp2_with (go_at_call 115; with_reducible refine (HL.out).mono ?_; rintro e w1 ⟨rfl, rfl⟩)
 go_ret2
 exact ⟨rfl, rfl⟩
theorem at_out (w : World) (b L : Nat) (l : List UInt8) (h : LM w b L l) (f : Int) (hf : ¬ (0 ≤ f ∧ f < (L : Int))) : Calls Tryz.prog 166 #[pB b, .int .i64 f] w fun e w' => e = .returned (.tuple #[.int .u8 0, .bool false]) ∧ w = w' := by
 have HL := qh (len_any w b L l h)
 clear h
 by_cases h0 : f < 0
 · clear hf
   go_enter Tryz.func166, Tryz.ntmps166
   go_wp2_with (go_at_call 115; with_reducible refine (HL.out).mono ?_; rintro e w1 ⟨rfl, rfl⟩)
   go_ret2
   exact ⟨rfl, rfl⟩
 · have h1 : (L : Int) ≤ f := by omega
   clear hf
   go_enter Tryz.func166, Tryz.ntmps166
   go_wp2_with (go_at_call 115; with_reducible refine (HL.out).mono ?_; rintro e w1 ⟨rfl, rfl⟩)
   go_ret2
   exact ⟨rfl, rfl⟩
theorem put_neg (w : World) (b n : Nat) (l : List UInt8) (h : LM w b n l) (f : Int) (v : Value) (hf : f < 0) : Calls Tryz.prog 118 #[pB b, .int .i64 f, v] w fun e w' => e = .returned (.tuple #[.int .i64 0, .int .i64 1]) ∧ w = w' := by
 have c0 := h.known
 have hfn : ¬ (n : Int) < f := by omega
 clear h
 go_enter Tryz.func118, Tryz.ntmps118
 go_wp2
 go_ret2
 exact ⟨rfl, rfl⟩
structure Ln where
 b : Nat
 l : List UInt8
def ptrF (xs : List Ln) (i : Nat) : Value := .pointer ((xs[i]?).map fun x => ⟨x.b, 0, none⟩)
def QB (q r : Nat) (xs : List Ln) (k : Nat) : Prop := k = q ∨ k = r ∨ ∃ x ∈ xs, x.b = k
structure LS (w : World) (r : Nat) (xs : List Ln) : Prop where
 line : ∀ x ∈ xs, LM w x.b x.l.length x.l ∧ x.l.length ≤ 1000 ∧ x.b ≠ r
 nd : (xs.map Ln.b).Nodup
structure QM (w : World) (q r : Nat) (xs : List Ln) : Prop where
 row : w.heap[q]? = some (.cells #[.slice (some ⟨r, 0, none⟩) xs.length xs.length] 171 (0, 0))
 ptr : w.rowIs r 112 xs.length (ptrF xs)
 ls : LS w r xs
 ne : q ≠ r ∧ ∀ x ∈ xs, x.b ≠ q
section
variable {w w' : World} {q r : Nat} {xs : List Ln}
theorem LS.same (h : LS w r xs) (hs : ∀ x ∈ xs, w'.heap[x.b]? = w.heap[x.b]?) : LS w' r xs :=
 ⟨fun x hx => ⟨World.rowIs.of_block (h.line x hx).1 (hs x hx), (h.line x hx).2⟩, h.nd⟩
theorem LS.nil (w : World) (r : Nat) : LS w r [] := ⟨fun x hx => (by cases hx), List.nodup_nil⟩
theorem LS.snoc (h : LS w r xs) (x : Ln) (hx : LM w x.b x.l.length x.l) (h1 : x.l.length ≤ 1000) (hr : x.b ≠ r) (hn : ∀ y ∈ xs, y.b ≠ x.b) : LS w r (xs ++ [x]) := by
 refine ⟨fun y hy => ?_, ?_⟩
 · rcases List.mem_append.1 hy with hy | hy
   · exact h.line y hy
   · obtain rfl := List.mem_singleton.1 hy; exact ⟨hx, h1, hr⟩
 · rw [List.map_append, List.nodup_append]
   refine ⟨h.nd, by simp, fun a ha b hb => ?_⟩
   obtain ⟨y, hy, rfl⟩ := List.mem_map.1 ha
   obtain rfl : b = x.b := by simpa using hb
   exact hn y hy
theorem QM.c0 (h : QM w q r xs) : w.cell? ⟨q, 0, none⟩ = some (.slice (some ⟨r, 0, none⟩) xs.length xs.length) := by rw [cell_of_row w q 0 _ _ _ h.row]; rfl
theorem QM.at (h : QM w q r xs) (p : Nat) (x : Ln) (hx : xs[p]? = some x) : w.cell? ⟨r, p, none⟩ = some (pB x.b) := by
 have hp := (List.getElem?_eq_some_iff.1 hx).1
 rw [World.rowIs.cell h.ptr hp]
 unfold ptrF
 rw [hx]; rfl
theorem QM.line (h : QM w q r xs) (p : Nat) (x : Ln) (hx : xs[p]? = some x) : LM w x.b x.l.length x.l ∧ x.l.length ≤ 1000 := by
 have := h.ls.line x (List.mem_of_getElem? hx)
 exact ⟨this.1, this.2.1⟩
theorem QM.lt (h : QM w q r xs) {k : Nat} (hk : QB q r xs k) : k < w.heap.size := by
 rcases hk with rfl | rfl | ⟨x, hx, rfl⟩
 · exact cell_lt h.c0
 · exact World.rowIs.lt h.ptr
 · exact (h.ls.line x hx).1.lt
theorem QM.same (h : QM w q r xs) (hs : ∀ k, QB q r xs k → w'.heap[k]? = w.heap[k]?) : QM w' q r xs :=
 ⟨(hs q (.inl rfl)).trans h.row, World.rowIs.of_block h.ptr (hs r (.inr (.inl rfl))), h.ls.same fun x hx => hs x.b (.inr (.inr ⟨x, hx, rfl⟩)), h.ne⟩
theorem QM.belows (h : QM w q r xs) (hb : Below w.heap.size w w') : QM w' q r xs := h.same fun k hk => hb.block k (h.lt hk)
theorem QM.drew (h : QM w q r xs) : QM w.drew q r xs := h.same fun k _ => rfl
theorem nodup_at {xs : List Ln} (hn : (xs.map Ln.b).Nodup) {p : Nat} {x y : Ln} (hx : xs[p]? = some x) {j : Nat} (hy : xs[j]? = some y) (e : y.b = x.b) : j = p := by
 have hp := (List.getElem?_eq_some_iff.1 hx).1
 have hj := (List.getElem?_eq_some_iff.1 hy).1
 refine (List.getElem_inj (xs := xs.map Ln.b) (h₀ := by simpa using hj) (h₁ := by simpa using hp) hn).1 ?_
 rw [List.getElem_map, List.getElem_map, (List.getElem?_eq_some_iff.1 hx).2, (List.getElem?_eq_some_iff.1 hy).2]
 exact e
theorem set_b (xs : List Ln) (p : Nat) (x : Ln) (hx : xs[p]? = some x) (l : List UInt8) : (xs.set p ⟨x.b, l⟩).map Ln.b = xs.map Ln.b := by
 rw [List.map_set]
 refine List.ext_getElem? fun i => ?_
 rw [List.getElem?_set]
 by_cases e : p = i
 · subst e
   have hp := (List.getElem?_eq_some_iff.1 hx).1
   rw [if_pos rfl, if_pos (by simpa using hp), List.getElem?_map, hx]; rfl
 · rw [if_neg e]
theorem set_ptr (xs : List Ln) (p : Nat) (x : Ln) (hx : xs[p]? = some x) (l : List UInt8) (i : Nat) : ptrF (xs.set p ⟨x.b, l⟩) i = ptrF xs i := by
 unfold ptrF
 have h := congrArg (·[i]?) (set_b xs p x hx l)
 simp only [List.getElem?_map] at h
 have h2 := congrArg (Option.map fun (b : Nat) => (⟨b, 0, none⟩ : Addr)) h
 simp only [Option.map_map] at h2
 exact congrArg Value.pointer h2
theorem mem_set (xs : List Ln) (p : Nat) (x : Ln) (hx : xs[p]? = some x) (l : List UInt8) {y : Ln} (hy : y ∈ xs.set p ⟨x.b, l⟩) : y = ⟨x.b, l⟩ ∨ (∃ j, j ≠ p ∧ xs[j]? = some y) := by
 obtain ⟨j, hj⟩ := List.mem_iff_getElem?.1 hy
 rw [List.getElem?_set] at hj
 by_cases e : p = j
 · rw [if_pos e] at hj
   split at hj
   · exact .inl (Option.some.inj hj).symm
   · cases hj
 · rw [if_neg e] at hj
   exact .inr ⟨j, fun e2 => e e2.symm, hj⟩
theorem QM.put (h : QM w q r xs) (p : Nat) (x : Ln) (hx : xs[p]? = some x) (l : List UInt8) (n : Nat) (hn : l.length = n) (hl : LM w' x.b n l) (h1 : n ≤ 1000) (hg : w.grownBy w' (some x.b)) : QM w' q r (xs.set p ⟨x.b, l⟩) := by
 subst hn
 have hm := List.mem_of_getElem? hx
 have hxl := h.ls.line x hm
 refine ⟨?_, ?_, ⟨fun y hy => ?_, by rw [set_b xs p x hx]; exact h.ls.nd⟩, h.ne.1, fun y hy => ?_⟩
 · rw [List.length_set]
   exact (hg.block q (h.lt (.inl rfl)) (fun e => h.ne.2 x hm (Option.some.inj e).symm)).trans h.row
 · rw [List.length_set]
   exact (World.rowIs.of_block h.ptr (hg.block r (h.lt (.inr (.inl rfl))) (fun e => hxl.2.2 (Option.some.inj e).symm))).congr fun i _ => (set_ptr xs p x hx l i).symm
 · rcases mem_set xs p x hx l hy with rfl | ⟨j, hj, hyj⟩
   · exact ⟨hl, h1, hxl.2.2⟩
   · have hym := h.ls.line y (List.mem_of_getElem? hyj)
     exact ⟨World.rowIs.of_block hym.1 (hg.block y.b hym.1.lt (fun e => hj (nodup_at h.ls.nd hx hyj (Option.some.inj e)))), hym.2⟩
 · rcases mem_set xs p x hx l hy with rfl | ⟨j, hj, hyj⟩
   · exact h.ne.2 x hm
   · exact h.ne.2 y (List.mem_of_getElem? hyj)
theorem QB.set (xs : List Ln) (p : Nat) (x : Ln) (hx : xs[p]? = some x) (l : List UInt8) {k : Nat} (hk : QB q r (xs.set p ⟨x.b, l⟩) k) : QB q r xs k := by
 rcases hk with h | h | ⟨y, hy, rfl⟩
 · exact .inl h
 · exact .inr (.inl h)
 · refine .inr (.inr ?_)
   rcases mem_set xs p x hx l hy with rfl | ⟨j, hj, hyj⟩
   · exact ⟨x, List.mem_of_getElem? hx, rfl⟩
   · exact ⟨y, List.mem_of_getElem? hyj, rfl⟩
end
theorem qn_nil (w : World) : Calls Tryz.prog 116 #[.pointer none] w fun e w' => e = .returned (.int .i64 0) ∧ w = w' := by
 go_enter Tryz.func116, Tryz.ntmps116
 go_wp2
 go_ret
 exact ⟨rfl, rfl⟩
theorem qn_any (w : World) (q r : Nat) (xs : List Ln) (h : QM w q r xs) (n : Nat) (hn : xs.length = n) : Calls Tryz.prog 116 #[pB q] w fun e w' => e = .returned (.int .i64 n) ∧ w = w' := by
 have c0 := h.c0
 rw [hn] at c0
 clear h hn
 go_enter Tryz.func116, Tryz.ntmps116
 go_wp2
 go_ret
 exact ⟨rfl, rfl⟩
theorem line_nil (w : World) (p : Int) : Calls Tryz.prog 67 #[.pointer none, .int .i64 p] w fun e w' => e = .returned (.pointer none) ∧ w = w' := by
 have HL := qh (qn_nil w)
 by_cases h0 : p < 0
 · go_enter Tryz.func67, Tryz.ntmps67
   go_wp2_with (go_at_call 116; with_reducible refine (HL.out).mono ?_; rintro e w1 ⟨rfl, rfl⟩)
   go_ret
   exact ⟨rfl, rfl⟩
 · have h1 : 0 ≤ p := by omega
   go_enter Tryz.func67, Tryz.ntmps67
   go_wp2_with (go_at_call 116; with_reducible refine (HL.out).mono ?_; rintro e w1 ⟨rfl, rfl⟩)
   go_ret
   exact ⟨rfl, rfl⟩
theorem line_in (w : World) (q r : Nat) (xs : List Ln) (h : QM w q r xs) (p : Int) (j : Nat) (hp : p = (j : Int)) (x : Ln) (hx : xs[j]? = some x) : Calls Tryz.prog 67 #[pB q, .int .i64 p] w fun e w' => e = .returned (pB x.b) ∧ w = w' := by
 subst hp
 obtain ⟨n, hn⟩ : ∃ n, xs.length = n := ⟨_, rfl⟩
 have hj := (List.getElem?_eq_some_iff.1 hx).1
 have HL := qh (qn_any w q r xs h n hn)
 have c0 := h.c0
 have c1 := h.at j x hx
 rw [hn] at c0 hj
 clear h hn hx
 go_enter Tryz.func67, Tryz.ntmps67
 go_wp2_with (go_at_call 116; with_reducible refine (HL.out).mono ?_; rintro e w1 ⟨rfl, rfl⟩)
 go_ret
 exact ⟨rfl, rfl⟩
def frontN (xs : List Ln) : Nat := xs.foldl (fun m x => min m x.l.length) 1000
theorem frontN_snoc (xs : List Ln) (x : Ln) : frontN (xs ++ [x]) = min (frontN xs) x.l.length := by unfold frontN; rw [List.foldl_append]; rfl
theorem foldl_min (xs : List Ln) : ∀ m, xs.foldl (fun m x => min m x.l.length) m ≤ m ∧ ∀ x ∈ xs, xs.foldl (fun m x => min m x.l.length) m ≤ x.l.length := by
 induction xs with
 | nil => exact fun m => ⟨nl _, fun x hx => (by cases hx)⟩
 | cons y r ih =>
   intro m
   obtain ⟨h1, h2⟩ := ih (min m y.l.length)
   refine ⟨by rw [List.foldl_cons]; omega, fun x hx => ?_⟩
   rw [List.foldl_cons]
   rcases List.mem_cons.1 hx with rfl | hx
   · omega
   · exact h2 x hx
theorem frontN_mem (xs : List Ln) : ∀ x ∈ xs, frontN xs ≤ x.l.length := (foldl_min xs 1000).2
theorem take_next {α : Type} (xs : List α) (k : Nat) (x : α) (h : xs[k]? = some x) : xs.take (k + 1) = xs.take k ++ [x] := by
 rw [List.take_add_one, h]; rfl
theorem front_nil (w : World) : Calls Tryz.prog 60 #[.pointer none] w fun e w' => e = .returned (.int .i64 0) ∧ w = w' := by
 have HL := qh (qn_nil w)
 go_enter Tryz.func60, Tryz.ntmps60
 go_wp2_with (go_at_call 116; with_reducible refine (HL.out).mono ?_; rintro e w1 ⟨rfl, rfl⟩)
 go_ret
 exact ⟨rfl, rfl⟩
theorem front_any (w : World) (q r : Nat) (xs : List Ln) (h : QM w q r xs) (h0 : 0 < xs.length) (h8 : xs.length ≤ 8) (F : Nat) (hF : frontN xs = F) : Calls Tryz.prog 60 #[pB q] w fun e w' => e = .returned (.int .i64 F) ∧ w = w' := by
 obtain ⟨n, hn⟩ : ∃ n, xs.length = n := ⟨_, rfl⟩
 have HL := qh (qn_any w q r xs h n hn)
 have c0 := h.c0
 rw [hn] at c0 h0 h8
 have h0' : ((n : Int) == 0) = false := by simp; omega
 have H := qh h; have HN := qh hn; have HF := qh hF
 clear h hn hF
 go_enter Tryz.func60, Tryz.ntmps60
 go_wp2_with (go_at_call 116; with_reducible refine (HL.out).mono ?_; rintro e w1 ⟨rfl, rfl⟩)
 go_loopw [3, 5, 14] (fun a b i wr => ∃ (k m : Nat), i = .int .i64 (k : Int) ∧ a = .int .i64 (m : Int) ∧ k ≤ n ∧ Hid (frontN (xs.take k) = m) ∧ wr = w) (fun _ _ i _ => n - (intOf i).toNat)
 case atStart => exact ⟨0, 1000, rfl, rfl, by omega, rfl, rfl⟩
 case round =>
  obtain ⟨k, m, rfl, rfl, hk, hm, rfl⟩ := hrel
  by_cases hlt : k < n
  · obtain ⟨x, hx⟩ : ∃ x, xs[k]? = some x := ⟨_, List.getElem?_eq_getElem (by rw [HN.out]; exact hlt)⟩
    have c1 := H.out.at k x hx
    have hl := (H.out.line k x hx)
    obtain ⟨X, hX⟩ : ∃ X, x.l.length = X := ⟨_, rfl⟩
    rw [hX] at hl
    have HLen := qh (len_any wr x.b X x.l hl.1)
    obtain ⟨m2, hm2⟩ : ∃ m2 : Nat, min m X = m2 := ⟨_, rfl⟩
    have e1 : min (m : Int) (X : Int) = (m2 : Int) := by omega
    have hs : Hid (frontN (xs.take (k + 1)) = m2) := by show _ = _; rw [take_next xs k x hx, frontN_snoc, hm.out, hX, hm2]
    have hk2 : Hid (k + 1 ≤ n) := hlt
    have hms : Hid (n - (k + 1) < n - k) := by show _ < _; omega
    have hkn : (k : Int) < (n : Int) := by omega
    clear hx hl hX hm2
    go_wp2_with (go_at_call 115; with_reducible refine (HLen.out).mono ?_; rintro e w1 ⟨rfl, rfl⟩)
    go_roundw
    case rel => exact ⟨k + 1, m2, by go_num, rfl, hk2.out, hs, by trivial⟩
    case measure => simp [intOf]; have := hms.out; omega
  · obtain rfl : k = n := by omega
    rw [← HN.out, List.take_length, HF.out] at hm
    obtain rfl := hm.out
    go_wp2
    go_ret
    exact ⟨rfl, rfl⟩
def jointN (xs : List Ln) (j : Nat) : List UInt8 := xs.map fun x => (x.l[j]?).getD 0
theorem jointN_len (xs : List Ln) (j : Nat) : (jointN xs j).length = xs.length := List.length_map _
def partJ (xs : List Ln) (j k n : Nat) : List UInt8 := jointN (xs.take k) j ++ List.replicate (n - k) 0
theorem partJ_set (xs : List Ln) (j k : Nat) (x : Ln) (hx : xs[k]? = some x) (n : Nat) (hn : xs.length = n) : (partJ xs j k n).set k ((x.l[j]?).getD 0) = partJ xs j (k + 1) n := by
 have hk := (List.getElem?_eq_some_iff.1 hx).1
 have hl : (jointN (xs.take k) j).length = k := by rw [jointN_len, List.length_take]; omega
 obtain ⟨m, hm⟩ : ∃ m, n - k = m + 1 := ⟨n - k - 1, by omega⟩
 unfold partJ
 rw [List.set_append_right _ _ (by omega), hl, Nat.sub_self, hm, show n - (k + 1) = m by omega, List.replicate_succ, List.set_cons_zero, take_next xs k x hx]
 unfold jointN
 rw [List.map_append, List.append_assoc]
 rfl
theorem partJ_len (xs : List Ln) (j k n : Nat) (hn : xs.length = n) (hk : k ≤ n) : (partJ xs j k n).length = n := by
 unfold partJ
 rw [List.length_append, jointN_len, List.length_take, List.length_replicate]
 omega
set_option maxHeartbeats 1000000 in
theorem joint_in (w : World) (q r : Nat) (xs : List Ln) (h : QM w q r xs) (n : Nat) (hn : xs.length = n) (h0 : 0 < n) (h8 : n ≤ 8) (F : Nat) (hF : frontN xs = F) (f : Int) (j : Nat) (hf : f = (j : Int)) (hj : j < F) :
 Calls Tryz.prog 134 #[pB q, .int .i64 f] w fun e w' => e = .returned (.tuple #[.slice (some ⟨w.heap.size, 0, none⟩) n n, .bool true]) ∧ OB w' w.heap.size (.slice (some ⟨w.heap.size, 0, none⟩) n n) (jointN xs j) ∧ Below w.heap.size w w' := by
 subst hf
 have HL := qh (front_any w q r xs h (by omega) (by omega) F hF)
 have c0 := h.c0
 rw [hn] at c0
 have hq : q < w.heap.size := h.lt (.inl rfl)
 have c0' := ((bR w.heap.size w).alloc (nl _) (madeB n)).cell (p := ⟨q, 0, none⟩) hq
 rw [c0] at c0'
 have hmk := make_b n (by omega) w
 have HB1 := qh ((bR w.heap.size w).alloc (nl _) (madeB n))
 have HO1 := qh (ob_made w n (by omega))
 have hall : ∀ x ∈ xs, j < x.l.length := fun x hx => by have := frontN_mem xs x hx; omega
 have H := qh h; have HN := qh hn; have HA := qh hall; have H0 := qh h0
 have hjF : decide (F ≤ j) = false := by simp; omega
 have hj0 : decide ((j : Int) < 0) = false := by simp
 clear h hn hall hF hj h0
 go_enter Tryz.func134, Tryz.ntmps134
 go_wp2_with (go_at_call 60; with_reducible refine (HL.out).mono ?_; rintro e w1 ⟨rfl, rfl⟩)
 clear hmk c0 c0' hjF hj0
 go_loopw [7, 8, 28] (fun a b i wr => ∃ (k : Nat), i = .int .i64 (k : Int) ∧ k ≤ n ∧ Hid (OB wr w.heap.size (.slice (some ⟨w.heap.size, 0, none⟩) n n) (partJ xs j k n)) ∧ Hid (Below w.heap.size w wr)) (fun _ _ i _ => n - (intOf i).toNat)
 case atStart => exact ⟨0, rfl, by omega, HO1.out, HB1.out⟩
 case round =>
  obtain ⟨k, rfl, hk, ho, hb⟩ := hrel
  clear HB1 HO1
  have hlen := partJ_len xs j k n HN.out hk
  by_cases hlt : k < n
  · obtain ⟨x, hx⟩ : ∃ x, xs[k]? = some x := ⟨_, List.getElem?_eq_getElem (by rw [HN.out]; exact hlt)⟩
    have hq2 := H.out.belows hb.out
    have c1 := hq2.at k x hx
    have hl := (hq2.line k x hx)
    have hjx := HA.out x (List.mem_of_getElem? hx)
    have HAt := qh (at_in wr x.b x.l.length x.l hl.1 rfl hl.2 (j : Int) j rfl hjx x.l[j] rfl)
    have o1 := ho.out.cell_at hlen k (by rw [hlen]; exact hlt)
    have f1 := ho.out.frozen_at hlen k
    have o2 := ho.out.set hlen k x.l[j]
    have e3 : (x.l[j]?).getD 0 = x.l[j] := by rw [List.getElem?_eq_getElem hjx]; rfl
    rw [← e3, partJ_set xs j k x hx n HN.out, e3] at o2
    unfold vb at o1 o2 HAt
    obtain ⟨y, hy⟩ : ∃ y : Int, (x.l[j].toNat : Int) = y := ⟨_, rfl⟩
    rw [hy] at o2 HAt
    obtain ⟨z, hz⟩ : ∃ z : Int, (((partJ xs j k n)[k]'(by rw [hlen]; exact hlt)).toNat : Int) = z := ⟨_, rfl⟩
    rw [hz] at o1
    have O2 := qh o2
    have HB2 := qh (hb.out.setCell (p := ⟨w.heap.size, k, none⟩) (nl _) (.int .u8 y))
    have hkn : (k : Int) < (n : Int) := by omega
    have hk2 : Hid (k + 1 ≤ n) := hlt
    have hms : Hid (n - (k + 1) < n - k) := by show _ < _; omega
    clear o2 hx hl hjx hy hz e3 hq2 hlen
    go_wp2_with (go_at_call 166; with_reducible refine (HAt.out).mono ?_; rintro e w1 ⟨rfl, rfl⟩)
    go_roundw
    case rel => exact ⟨k + 1, by go_num, hk2.out, O2, HB2⟩
    case measure => simp [intOf]; have := hms.out; omega
  · obtain rfl : k = n := by omega
    have e4 : partJ xs j k k = jointN xs j := by unfold partJ; rw [Nat.sub_self, List.replicate_zero, List.append_nil, ← HN.out, List.take_length]
    rw [e4] at ho
    clear hlen e4
    go_wp2
    go_ret2
    exact ⟨rfl, ho.out, hb.out⟩
theorem bool_info : (Tryz.prog.info? 4).map (fun i => (i.zero, i.size, i.bytes)) = some (some (.bool false), 1, 1) := by kernel_rfl
def OW (w : World) (base : Nat) (v : Value) (bs : List Bool) : Prop := w.ownsRow base 4 1 v bs.length (bs.map Value.bool)
def bOneB (b : Bool) : Obj := .cells #[.bool b] 4
theorem OW.nil (w : World) (base : Nat) : OW w base (.slice none 0 0) [] := World.ownsRow_nil _ _ _ _
theorem OW.ge {w : World} {base : Nat} {v : Value} {l : List Bool} (h : OW w base v l) : ∀ k, v.ownBlock = some k → base ≤ k := fun k hk => (World.ownsRow.lt h k hk).1
theorem OW.form {w : World} {base : Nat} {v : Value} {bs : List Bool} (h : OW w base v bs) (n : Nat) (hn : bs.length = n) : ∃ A c, v = .slice A n c ∧ n ≤ c ∧ (∀ j (hj : j < bs.length), ∃ g, A = some ⟨g, 0, none⟩ ∧ g < w.heap.size ∧ w.cell? ⟨g, j, none⟩ = some (.bool bs[j])) := by
 subst hn
 have h' := h
 obtain ⟨hl, hd⟩ := h
 rcases hd with ⟨rfl, h0⟩ | ⟨g, cap, cur, rfl, _, hh, h1, _⟩
 · exact ⟨none, 0, by rw [h0], by omega, fun j hj => absurd hj (by omega)⟩
 · refine ⟨some ⟨g, 0, none⟩, cap, rfl, h1, fun j hj => ⟨g, rfl, ?_, ?_⟩⟩
   · rcases Nat.lt_or_ge g w.heap.size with hlt | hge
     · exact hlt
     · rw [Array.getElem?_eq_none hge] at hh; cases hh
   · have e := World.ownsRow.cellAt (w := w) h' j (by omega)
     rw [List.getElem?_map, List.getElem?_eq_getElem hj, Option.map_some] at e
     exact e
theorem wpList_append_bool {w : World} {ops : Array Oper} {rest : List Oper} {o : Oper} {a : Act} {Q : Exit → Act → World → Prop} (hgd : o.guard = none) (s x : Operand)
 (ho : o.op = .call { callee := .builtin .append, args := #[s, x], argTypes := #[109, 109] })
 (base : Nat) (v : Value) (bs : List Bool) (b : Bool) (hs : a.eval s = v) (hown : OW (w.alloc (bOneB b)) base v bs) (hx : a.eval x = .slice (some ⟨w.heap.size, 0, none⟩) 1 1) (hlen : bs.length ≤ 1000) (hbase : base ≤ w.heap.size)
 (h : ∀ v' w', OW w' base v' (bs ++ [b]) → (w.alloc (bOneB b)).grownBy w' v.ownBlock → (v'.ownBlock = v.ownBlock ∨ v'.ownBlock = some (w.heap.size + 1)) → wpList Tryz.prog ops Q rest (a.put o.dst v') w') : wpList Tryz.prog ops Q (o :: rest) a (w.alloc (bOneB b)) := by
 obtain ⟨i0, hi0, hz0, hz1, hz2⟩ := info_parts bool_info
 refine wpList_append_own_at (P := Tryz.prog) (w.alloc (bOneB b)) hgd s x 109 ho base 4 i0 (.bool false) 1 1 Tryz.underlying109 hi0 hz0 hz1 hz2 rfl (by decide) v bs.length _ hs hown ⟨w.heap.size, 0, none⟩ 1 1 [.bool b] hx rfl (cell_one_new _ _ _) (by simp [Value.oneCell']) (by unfold maxLen; omega) (by omega) (by rw [World.size_alloc]; omega) ?_
 intro v' w' h1 h2 _ h4
 refine h v' w' ?_ h2 (by rw [World.size_alloc] at h4; exact h4)
 unfold OW
 rw [List.length_append, List.map_append]
 exact h1
def knownN (xs : List Ln) (f : Int) : List Bool := xs.map fun x => decide (0 ≤ f ∧ f < (x.l.length : Int))
theorem knownN_len (xs : List Ln) (f : Int) : (knownN xs f).length = xs.length := List.length_map _
set_option maxHeartbeats 1000000 in
theorem known_any (w : World) (q r : Nat) (xs : List Ln) (h : QM w q r xs) (n : Nat) (hn : xs.length = n) (h8 : n ≤ 8) (f : Int) :
 Calls Tryz.prog 142 #[pB q, .int .i64 f] w fun e w' => ∃ v, e = .returned v ∧ OW w' w.heap.size v (knownN xs f) ∧ Below w.heap.size w w' := by
 have HL := qh (qn_any w q r xs h n hn)
 have H := qh h; have HN := qh hn
 clear h hn
 go_enter Tryz.func142, Tryz.ntmps142
 go_wp2_with (go_at_call 116; with_reducible refine (HL.out).mono ?_; rintro e w1 ⟨rfl, rfl⟩)
 go_loopw [5, 6, 7, 8, 11] (fun v a b c i wr => ∃ (k : Nat), i = .int .i64 (k : Int) ∧ k ≤ n ∧ Hid (OW wr w.heap.size v (knownN (xs.take k) f)) ∧ Hid (Below w.heap.size w wr)) (fun _ _ _ _ i _ => n - (intOf i).toNat)
 case atStart => exact ⟨0, rfl, by omega, OW.nil _ _, bR _ _⟩
 case round =>
  obtain ⟨k, rfl, hk, ho, hb⟩ := hrel
  by_cases hlt : k < n
  · obtain ⟨x, hx⟩ : ∃ x, xs[k]? = some x := ⟨_, List.getElem?_eq_getElem (by rw [HN.out]; exact hlt)⟩
    have hq2 := H.out.belows hb.out
    have c0 := hq2.c0
    rw [HN.out] at c0
    have c1 := hq2.at k x hx
    have hl := (hq2.line k x hx)
    have hA : ∃ y : Int, Calls Tryz.prog 166 #[pB x.b, .int .i64 f] wr fun e w' => e = .returned (.tuple #[.int .u8 y, .bool (decide (0 ≤ f ∧ f < (x.l.length : Int)))]) ∧ wr = w' := by
     by_cases hf : 0 ≤ f ∧ f < (x.l.length : Int)
     · rw [decide_eq_true hf]
       exact ⟨_, at_in wr x.b x.l.length x.l hl.1 rfl hl.2 f f.toNat (by omega) (by omega) _ rfl⟩
     · rw [decide_eq_false hf]
       exact ⟨_, at_out wr x.b x.l.length x.l hl.1 f hf⟩
    obtain ⟨y, hA⟩ := hA
    obtain ⟨kb, hkb⟩ : ∃ kb : Bool, decide (0 ≤ f ∧ f < (x.l.length : Int)) = kb := ⟨_, rfl⟩
    rw [hkb] at hA
    have HAt := qh hA
    have hkn : knownN (xs.take k) f ++ [kb] = knownN (xs.take (k + 1)) f := by
     rw [take_next xs k x hx]; unfold knownN; rw [List.map_append, ← hkb]; rfl
    have HKN := qh hkn
    have ho3 : OW (wr.alloc (bOneB kb)) w.heap.size u5 (knownN (xs.take k) f) := World.ownsRow.alloc ho.out _
    have hlen : Hid ((knownN (xs.take k) f).length ≤ 1000) := by show _ ≤ _; rw [knownN_len, List.length_take]; omega
    have HO3 := qh ho3
    have HB3 := qh (hb.out.alloc hb.out.size (bOneB kb))
    have HBS := qh hb.out.size
    have HBS2 : Hid (w.heap.size ≤ (wr.alloc (bOneB kb)).heap.size) := HB3.out.size
    have hkn2 : (k : Int) < (n : Int) := by omega
    have hk2 : Hid (k + 1 ≤ n) := hlt
    have hms : Hid (n - (k + 1) < n - k) := by show _ < _; omega
    clear hx hl hA hkb hq2 hkn ho3
    go_wp2_with (first
     | (go_at_call 166; with_reducible refine (HAt.out).mono ?_; rintro e w1 ⟨rfl, rfl⟩)
     | (at_builtin; refine wpList_append_bool rfl (.tmp 26) (.tmp 28) rfl w.heap.size _ (knownN (xs.take k) f) kb rfl HO3.out rfl hlen.out HBS.out ?_; intro v2 w4 o2 gr2 e2; rw [HKN.out] at o2; have hb4 := HB3.out.grown gr2 HBS2.out HO3.out.ge; have O2 := qh o2; have HB4 := qh hb4; clear o2 gr2 e2 hb4))
    go_roundw
    case rel => exact ⟨k + 1, by go_num, hk2.out, O2, HB4⟩
    case measure => simp [intOf]; have := hms.out; omega
  · obtain rfl : k = n := by omega
    rw [← HN.out, List.take_length] at ho
    go_wp2
    go_ret
    exact ⟨_, rfl, ho.out, hb.out⟩
theorem ptr_info : (Tryz.prog.info? 112).map (fun i => (i.zero, i.size, i.bytes)) = some (some (.pointer none), 1, 8) := by kernel_rfl
def madeP (k : Nat) : Obj := .cells (madeCells #[.pointer none] k) 112
theorem make_p (k : Nat) (hk : k ≤ 8) (W : World) : (Instr.makeSlice 169 (.int .i64 (k : Int)) (.int .i64 (k : Int))).run Tryz.prog W = .ok (.slice (some ⟨W.heap.size, 0, none⟩) k k) (W.alloc (madeP k)) :=
 run_make_row' 169 112 (.pointer none) 8 Tryz.underlying169 ptr_info rfl .i64 .i64 k (by omega) (by omega) W
theorem ptrF_next (xs : List Ln) (x : Ln) (k : Nat) (hk : xs.length = k) (i : Nat) : (if i = k then pB x.b else ptrF xs i) = ptrF (xs ++ [x]) i := by
 subst hk
 unfold ptrF
 by_cases e : i = xs.length
 · subst e; rw [if_pos rfl, List.getElem?_append_right (nl _), Nat.sub_self]; rfl
 · rw [if_neg e]
   rcases Nat.lt_or_ge i xs.length with h | h
   · rw [List.getElem?_append_left h]
   · rw [List.getElem?_eq_none h, List.getElem?_eq_none (by rw [List.length_append]; show xs.length + 1 ≤ i; omega)]
set_option maxHeartbeats 1000000 in
theorem qnew_any (w : World) (n d : Int) (N K : Nat) (hN : (N : Int) = min (max n 2) 8) (hK : (K : Int) = min (max d 0) 8) :
 Calls Tryz.prog 62 #[.int .i64 n, .int .i64 d] w fun e w' => ∃ q r xs, e = .returned (pB q) ∧ QM w' q r xs ∧ xs.map Ln.l = List.replicate N (zB K) ∧ Below w.heap.size w w' ∧ ∀ k, QB q r xs k → w.heap.size ≤ k := by
 obtain ⟨m, hm⟩ : ∃ m : Int, max n 2 = m := ⟨_, rfl⟩
 rw [hm] at hN
 have hN2 : N ≤ 8 := by omega
 have e2 : min m 8 = (N : Int) := hN.symm
 have hmk := make_p N hN2 w
 have HR1 := qh (World.rowIs_made w (.pointer none) N 112)
 have HB1 := qh ((bR w.heap.size w).alloc (nl _) (madeP N))
 have HNew := qh (fun W => inew_any W d K hK)
 have hK8 : K ≤ 8 := by omega
 have HK8 := qh hK8; have HN8 := qh hN2
 clear hN hK hK8
 go_enter Tryz.func62, Tryz.ntmps62
 go_wp2_with fail
 clear hmk e2 hm
 go_loopw [6, 13] (fun a i wr => ∃ (k : Nat) (xs : List Ln), i = .int .i64 (k : Int) ∧ k ≤ N ∧ Hid (xs.length = k) ∧ Hid (wr.rowIs w.heap.size 112 N (ptrF xs)) ∧ Hid (LS wr w.heap.size xs) ∧ Hid (xs.map Ln.l = List.replicate k (zB K)) ∧ Hid (Below w.heap.size w wr) ∧ Hid (∀ x ∈ xs, w.heap.size ≤ x.b)) (fun _ i _ => N - (intOf i).toNat)
 case atStart => exact ⟨0, [], rfl, by omega, rfl, HR1.out, LS.nil _ _, rfl, HB1.out, fun x hx => (by cases hx)⟩
 case round =>
  obtain ⟨k, xs, rfl, hk, hxl, hr, hls, hmp, hb, hge⟩ := hrel
  clear HB1 HR1
  by_cases hlt : k < N
  · have HC := qh (HNew.out wr)
    have hkN : (k : Int) < (N : Int) := by omega
    have hk2 : Hid (k + 1 ≤ N) := hlt
    have hms : Hid (N - (k + 1) < N - k) := by show _ < _; omega
    go_wp2_with (go_at_call 117; (with_reducible refine (HC.out).mono ?_); rintro e w1 ⟨rfl, hm, hb1, hs1⟩; have hr1 := World.rowIs.of_block hr.out (hb1.block w.heap.size (World.rowIs.lt hr.out)); have c5 := World.rowIs.cell hr1 hlt; have f5 := World.rowIs.frozen hr1 k; have HR2 := qh hr1; have HM := qh hm; have HB2 := qh hb1; clear hm hb1 hs1 hr1)
    have hrb : w.heap.size < wr.heap.size := World.rowIs.lt hr.out
    have hr3 := (World.rowIs.set HR2.out k (pB wr.heap.size)).congr (fun i _ => ptrF_next xs ⟨wr.heap.size, zB K⟩ k hxl.out i)
    have hx1 : ∀ x ∈ xs, x.b < wr.heap.size := fun x hx => (hls.out.line x hx).1.lt
    have hls3 : LS (w1.setCell ⟨w.heap.size, k, none⟩ (pB wr.heap.size)) w.heap.size (xs ++ [⟨wr.heap.size, zB K⟩]) := by
     refine LS.snoc (hls.out.same fun x hx => ?_) ⟨wr.heap.size, zB K⟩ ?_ (by show (zB K).length ≤ 1000; rw [zB_len]; have := HK8.out; omega) (by show wr.heap.size ≠ w.heap.size; omega) (fun y hy => by have := hx1 y hy; show y.b ≠ wr.heap.size; omega)
     · rw [heap_setCell_other _ _ _ _ (hls.out.line x hx).2.2]
       exact HB2.out.block x.b (hx1 x hx)
     · show LM _ wr.heap.size _ (zB K)
       rw [zB_len]
       exact HM.out.other _ _ (by show wr.heap.size ≠ w.heap.size; omega)
    have hmp3 : (xs ++ [(⟨wr.heap.size, zB K⟩ : Ln)]).map Ln.l = List.replicate (k + 1) (zB K) := by rw [List.map_append, hmp.out, List.replicate_succ']; rfl
    have hb3 := (hb.out.trans (HB2.out.mono hb.out.size)).setCell (p := ⟨w.heap.size, k, none⟩) (nl _) (pB wr.heap.size)
    have hge3 : ∀ x ∈ xs ++ [(⟨wr.heap.size, zB K⟩ : Ln)], w.heap.size ≤ x.b := fun x hx => by
     rcases List.mem_append.1 hx with hx | hx
     · exact hge.out x hx
     · obtain rfl := List.mem_singleton.1 hx; show w.heap.size ≤ wr.heap.size; omega
    have H3 := qh hr3; have H4 := qh hls3; have H5 := qh hmp3; have H6 := qh hb3; have H7 := qh hge3
    have hxl3 : Hid ((xs ++ [(⟨wr.heap.size, zB K⟩ : Ln)]).length = k + 1) := by show _ = _; rw [List.length_append, hxl.out]; rfl
    clear hr3 hls3 hmp3 hb3 hge3 hx1 hrb
    go_roundw
    case rel => exact ⟨k + 1, _, by go_num, hk2.out, hxl3, H3, H4, H5, H6, H7⟩
    case measure => simp [intOf]; have := hms.out; omega
  · obtain rfl : k = N := by omega
    clear HNew
    go_wp2
    go_ret
    refine ⟨wr.heap.size, w.heap.size, xs, rfl, ⟨?_, ?_, ?_, ?_, ?_⟩, hmp.out, hb.out.alloc hb.out.size _, ?_⟩
    · rw [hxl.out]; exact heap_alloc_new wr _
    · rw [hxl.out]; exact hr.out.alloc _
    · exact hls.out.same fun x hx => Below.heap_alloc _ _ _ (hls.out.line x hx).1.lt
    · have := World.rowIs.lt hr.out; omega
    · exact fun x hx => by have := (hls.out.line x hx).1.lt; omega
    · intro j hj
      rcases hj with rfl | rfl | ⟨x, hx, rfl⟩
      · exact hb.out.size
      · exact nl _
      · exact hge.out x hx
def Same (O : Nat → Prop) (w w' : World) : Prop := ∀ k, O k → w'.heap[k]? = w.heap[k]?
structure QF (w0 w : World) (q r : Nat) (xs : List Ln) (O : Nat → Prop) : Prop where
 qm : QM w q r xs
 be : Below w0.heap.size w0 w
 qb : ∀ k, QB q r xs k → w0.heap.size ≤ k ∧ ¬ O k
 ob : ∀ k, O k → w0.heap.size ≤ k ∧ k < w.heap.size
def Grab (O : Nat → Prop) (w w' : World) (k : Nat) : Prop := O k ∨ (w.heap.size ≤ k ∧ k < w'.heap.size)
section
variable {w0 w w' : World} {q r : Nat} {xs : List Ln} {O O' : Nat → Prop}
theorem QF.belows (h : QF w0 w q r xs O) (hb : Below w.heap.size w w') : QF w0 w' q r xs O :=
 ⟨h.qm.belows hb, h.be.trans (hb.mono h.be.size), h.qb, fun k hk => ⟨(h.ob k hk).1, Nat.lt_of_lt_of_le (h.ob k hk).2 hb.size⟩⟩
theorem QF.same (h : QF w0 w q r xs O) (hb : Below w.heap.size w w') : Same O w w' := fun k hk => hb.block k (h.ob k hk).2
theorem QF.drew (h : QF w0 w q r xs O) : QF w0 w.drew q r xs O := h.belows (bR _ _).drew
theorem QF.grew {row : Option Nat} (h : QF w0 w q r xs O) (hg : w.grownBy w' row) (hr : ∀ k, row = some k → O k) (ho : ∀ k, O' k → O k ∨ (w.heap.size ≤ k ∧ k < w'.heap.size)) : QF w0 w' q r xs O' :=
 ⟨h.qm.same fun k hk => hg.block k (h.qm.lt hk) (fun e => (h.qb k hk).2 (hr k e.symm)), h.be.grown hg h.be.size (fun k e => (h.ob k (hr k e)).1), fun k hk => ⟨(h.qb k hk).1, fun e => (ho k e).elim (h.qb k hk).2 (fun h6 => by have := h.qm.lt hk; omega)⟩,
   fun k hk => (ho k hk).elim (fun h6 => ⟨(h.ob k h6).1, Nat.lt_of_lt_of_le (h.ob k h6).2 hg.size⟩) (fun h6 => ⟨Nat.le_trans h.be.size h6.1, h6.2⟩)⟩
theorem QF.add (h : QF w0 w q r xs O) (hb : Below w.heap.size w w') (ho : ∀ k, O' k → O k ∨ (w.heap.size ≤ k ∧ k < w'.heap.size)) : QF w0 w' q r xs O' :=
 h.grew (row := none) ⟨hb.os, hb.tape, hb.output, hb.size, fun k hk _ => hb.block k hk⟩ (fun k e => (by cases e)) ho
theorem QF.less (h : QF w0 w q r xs O) (ho : ∀ k, O' k → O k) : QF w0 w q r xs O' := h.add (bR _ _) (fun k hk => .inl (ho k hk))
theorem QF.grab (h : QF w0 w q r xs O) (hb : Below w.heap.size w w') : QF w0 w' q r xs (Grab O w w') := h.add hb fun _ hk => hk
theorem QF.wrote {x : Nat} (h : QF w0 w q r xs O) (hg : w.grownBy w' (some x)) (hx : O x) : QF w0 w' q r xs O :=
 h.grew hg (fun k e => Option.some.inj e ▸ hx) (fun k hk => .inl hk)
theorem QF.lt (h : QF w0 w q r xs O) {k : Nat} (hk : O k) : k < w.heap.size := (h.ob k hk).2
theorem QF.put (h : QF w0 w q r xs O) (p : Nat) (x : Ln) (hx : xs[p]? = some x) (l : List UInt8) (n : Nat) (hn : l.length = n) (hl : LM w' x.b n l) (h1 : n ≤ 1000) (hg : w.grownBy w' (some x.b)) : QF w0 w' q r (xs.set p ⟨x.b, l⟩) O ∧ Same O w w' := by
 have hxb : QB q r xs x.b := .inr (.inr ⟨x, List.mem_of_getElem? hx, rfl⟩)
 exact ⟨⟨h.qm.put p x hx l n hn hl h1 hg, h.be.grown hg h.be.size (fun k e => by cases e; exact (h.qb _ hxb).1), fun k hk => h.qb k (QB.set xs p x hx l hk), fun k hk => ⟨(h.ob k hk).1, Nat.lt_of_lt_of_le (h.ob k hk).2 hg.size⟩⟩,
  fun k hk => hg.block k (h.ob k hk).2 (fun e => (h.qb _ hxb).2 (Option.some.inj e ▸ hk))⟩
end
def noB (_ : Nat) : Prop := False
abbrev lineO (cur : Array Value) : Obj := .cells cur 85
structure RPut (w w' : World) (g p : Nat) (cur : Array Value) (v v' : Value) : Prop where
 row : w'.heap[g]? = some (lineO (cur.setIfInBounds p v'))
 os : w'.os = w.os
 tape : w'.tape = w.tape
 output : w'.output = w.output
 size : w.heap.size ≤ w'.heap.size
 block : ∀ k, k < w.heap.size → k ≠ g → v.ownBlock ≠ some k → w'.heap[k]? = w.heap[k]?
 nw : ∀ k, v'.ownBlock = some k → v.ownBlock = some k ∨ w.heap.size ≤ k
section
variable {w wr w6 w7 : World} {g p : Nat} {cur : Array Value} {v v1 v7 : Value}
theorem RPut.start (hrow : w.heap[g]? = some (lineO cur)) (hv : cur[p]? = some v) : RPut w w g p cur v v := by
 refine ⟨?_, rfl, rfl, rfl, nl _, fun _ _ _ _ => rfl, fun k h => .inl h⟩
 obtain ⟨hp, e⟩ := Array.getElem?_eq_some_iff.1 hv
 have : cur.setIfInBounds p v = cur := by
  refine Array.ext_getElem? fun i => ?_
  rw [Array.getElem?_setIfInBounds]
  by_cases e2 : p = i
  · subst e2; rw [if_pos rfl, if_pos hp, hv]
  · rw [if_neg e2]
 rw [this]; exact hrow
theorem RPut.glt (h : RPut w wr g p cur v v1) : g < wr.heap.size := (Array.getElem?_eq_some_iff.1 h.row).1
theorem RPut.nog (h : RPut w wr g p cur v v1) (hg : g < w.heap.size) (hvg : v.ownBlock ≠ some g) : v1.ownBlock ≠ some g := fun e => (h.nw g e).elim hvg (fun h2 => by omega)
theorem RPut.cell (h : RPut w wr g p cur v v1) (hp : p < cur.size) : wr.cell? ⟨g, p, none⟩ = some v1 := by
 rw [cell_of_row wr g p _ _ _ h.row, Array.getElem?_setIfInBounds, if_pos rfl, if_pos hp]
theorem RPut.fz (h : RPut w wr g p cur v v1) : wr.frozen? ⟨g, p, none⟩ = false := frozen_of_row wr g p _ _ h.row
theorem RPut.below {B : Nat} (h : RPut w wr g p cur v v1) (hB : B ≤ w.heap.size) (hg : B ≤ g) (hv : ∀ k, v.ownBlock = some k → B ≤ k) : Below B w wr :=
 ⟨h.os, h.tape, h.output, h.size, fun k hk => h.block k (by omega) (by omega) (fun e => by have := hv k e; omega)⟩
theorem RPut.step (h : RPut w wr g p cur v v1) (hg : g < w.heap.size) (hvg : v.ownBlock ≠ some g) (b6 : Below wr.heap.size wr w6) (g7 : w6.grownBy w7 v1.ownBlock) (e7 : v7.ownBlock = v1.ownBlock ∨ v7.ownBlock = some w6.heap.size) :
 RPut w (w7.setCell ⟨g, p, none⟩ v7) g p cur v v7 := by
 have hv1g := h.nog hg hvg
 have hsz : (w7.setCell ⟨g, p, none⟩ v7).heap.size = w7.heap.size := by simp [World.setCell]
 have h67 := g7.size
 refine ⟨?_, g7.os.trans (b6.os.trans h.os), g7.tape.trans (b6.tape.trans h.tape), g7.output.trans (b6.output.trans h.output), by have := h.size; have := b6.size; omega, fun k hk h1 h2 => ?_, fun k hk => ?_⟩
 · have hr7 : w7.heap[g]? = some (lineO (cur.setIfInBounds p v1)) := (g7.block g (Nat.lt_of_lt_of_le h.glt b6.size) (fun e => hv1g e.symm)).trans ((b6.block g h.glt).trans h.row)
   rw [heap_setCell_same w7 g p _ _ v7 hr7, Array.setIfInBounds_setIfInBounds]
 · rw [heap_setCell_other _ _ _ _ h1]
   have hkr : k < wr.heap.size := Nat.lt_of_lt_of_le hk h.size
   exact (g7.block k (Nat.lt_of_lt_of_le hkr b6.size) (fun e => (h.nw k e.symm).elim h2 (fun h3 => by omega))).trans ((b6.block k hkr).trans (h.block k hk h1 h2))
 · rcases e7 with e | e
   · exact h.nw k (e.symm.trans hk)
   · have e2 := Option.some.inj (e.symm.trans hk)
     have := h.size; have := b6.size
     exact .inr (by omega)
end
structure Rl where
 v : Value
 l : List UInt8
def LB (v : Value) (ms : List Rl) (k : Nat) : Prop := v.ownBlock = some k ∨ ∃ m ∈ ms, m.v.ownBlock = some k
section
variable {w w' : World} {base : Nat} {v : Value} {ms : List Rl}
theorem LB.put {g n cap : Nat} {cur : Array Value} {p : Nat} {m : Rl} (hm : ms[p]? = some m) {v' : Value} {l' : List UInt8} (R : RPut w w' g p cur m.v v') {k : Nat} (hk : LB (.slice (some ⟨g, 0, none⟩) n cap) (ms.set p ⟨v', l'⟩) k) : LB (.slice (some ⟨g, 0, none⟩) n cap) ms k ∨ w.heap.size ≤ k := by
 rcases hk with hk | ⟨y, hy, hk⟩
 · exact .inl (.inl hk)
 · obtain ⟨j, hj⟩ := List.mem_iff_getElem?.1 hy
   rw [List.getElem?_set] at hj
   by_cases e : p = j
   · rw [if_pos e] at hj
     split at hj
     · have e2 := (Option.some.inj hj).symm
       subst e2
       exact (R.nw k hk).imp (fun h => .inr ⟨m, List.mem_of_getElem? hm, h⟩) id
     · cases hj
   · rw [if_neg e] at hj
     exact .inl (.inr ⟨y, List.mem_of_getElem? hj, hk⟩)
end
variable {P : Program} {ops : Array Oper} {Q : Exit → Act → World → Prop} {md : Region.Mode} {S : World → Prop} {s : Nat}
def wpAnyJ (P : Program) (md : Region.Mode) (ops : Array Oper) (Q : Exit → Act → World → Prop) (S : World → Prop) (s : Nat) : Nat → Array Bool → Act → World → Prop
 | 0, listed, a, w => Region.ready md ops listed = [] ∧ Q .normal a w
 | fuel + 1, listed, a, w =>
   (Region.ready md ops listed = [] → Q .normal a w) ∧
   ∀ i ∈ Region.ready md ops listed, wpOp P ops Q i (fun a' w' => ((listed.setIfInBounds i true).getD s true = false → S w') ∧ wpAnyJ P md ops Q S s fuel (listed.setIfInBounds i true) a' w') a w
theorem wpAny_of_J : ∀ (fuel : Nat) (listed : Array Bool) (a : Act) (w : World), wpAnyJ P md ops Q S s fuel listed a w → wpAny P md ops Q fuel listed a w
 | 0, _, _, _, h => h
 | fuel + 1, _, _, _, h => ⟨h.1, fun i hi => wpOp_mono (fun a' w' h' => wpAny_of_J fuel _ a' w' h'.2) (h.2 i hi)⟩
def waits (md : Region.Mode) (ops : Array Oper) (s i : Nat) : Bool := match ops[s]? with | some o => o.after.any fun e => Region.binds md e && decide (e.on = i) | none => false
theorem wpAnyJ_first {i : Nat} {oi : Oper} {v : Value} (hi : ops[i]? = some oi) (hsel : ∀ (j : Nat) (o : Oper) cs b, ops[j]? = some o → o.op ≠ .select cs b)
 (hQ : ∀ c a w, Q (.panic c) (a.put oi.dst v) w → Q (.panic c) a w) (hsi : waits md ops s i = true) (his : i ≠ s) :
 ∀ (fuel : Nat) (listed : Array Bool) (a : Act) (w : World),
   (∀ j oj, ops[j]? = some oj → j ≠ i → listed.getD j true = false → (∀ e ∈ oj.after, Region.binds md e = true → e.on ≠ i) → oi.apart ops oj = true) →
   i ∈ Region.ready md ops listed → listed.getD s true = false → YieldsIf P ops S oi v a → S w →
   wpAnyJ P md ops Q S s fuel (listed.setIfInBounds i true) (a.put oi.dst v) w → wpAnyJ P md ops Q S s (fuel + 1) listed a w := by
 intro fuel
 induction fuel with
 | zero =>
   intro listed a w _ hr hl hy hS H
   refine ⟨fun h => (by rw [h] at hr; cases hr), fun j hj => ?_⟩
   by_cases hji : j = i
   · subst hji; exact hy.wpOp hi hS ⟨fun _ => hS, H⟩
   · have := ready_mono hj hji
     rw [H.1] at this
     cases this
 | succ fuel ih =>
   intro listed a w hfree hr hl hy hS H
   refine ⟨fun h => (by rw [h] at hr; cases hr), fun j hj => ?_⟩
   by_cases hji : j = i
   · subst hji; exact hy.wpOp hi hS ⟨fun _ => hS, H⟩
   · have h1 := H.2 j (ready_mono hj hji)
     obtain ⟨hjun, oj, hoj, hall⟩ := mem_ready.1 hj
     have hnot : ∀ e ∈ oj.after, Region.binds md e = true → e.on ≠ i := fun e he hb heq => by
      have h1 := hall e he hb
      have h0 := (mem_ready.1 hr).1
      rw [heq] at h1
      rcases Nat.lt_or_ge i listed.size with h' | h'
      · simp [h'] at h0 h1; rw [h0] at h1; cases h1
      · simp [Array.getElem?_eq_none h'] at h1
     have hjs : j ≠ s := fun e => by
      subst e
      unfold waits at hsi
      rw [hoj] at hsi
      simp only [Array.any_eq_true] at hsi
      obtain ⟨k, hk, h5⟩ := hsi
      simp only [Bool.and_eq_true, decide_eq_true_eq] at h5
      exact hnot _ (Array.getElem_mem hk) h5.1 h5.2
     have h2 := wpOp_putIf hoj (hfree j oj hoj hji hjun hnot) (fun cs b => hsel i oi cs b hi) (fun cs b => hsel j oj cs b hoj) hQ hy h1
     have hfree' : ∀ k ok, ops[k]? = some ok → k ≠ i → (listed.setIfInBounds j true).getD k true = false →
      (∀ e ∈ ok.after, Region.binds md e = true → e.on ≠ i) → oi.apart ops ok = true := fun k ok hk hki hun hno => by
      refine hfree k ok hk hki ?_ hno
      by_cases hjk : j = k
      · subst hjk; exact hjun
      · rw [getD_set_ne true hjk] at hun; exact hun
     have hl2 : (listed.setIfInBounds j true).getD s true = false := by rw [getD_set_ne true hjs]; exact hl
     have hl3 : ((listed.setIfInBounds i true).setIfInBounds j true).getD s true = false := by rw [getD_set_ne true hjs, getD_set_ne true his]; exact hl
     refine wpOp_mono (fun a' w' h3 => ⟨fun _ => h3.2.1 hl3, ih (listed.setIfInBounds j true) a' w' hfree' (ready_mono hr (Ne.symm hji)) hl2 h3.1 (h3.2.1 hl3) ?_⟩) h2
     rw [Array.setIfInBounds_comm _ _ hji]
     exact h3.2.2
theorem wpAnyJ_take {i : Nat} {oi : Oper} {v : Value} {fuel : Nat} {listed : Array Bool} {a : Act} {w : World} (hi : ops[i]? = some oi)
 (hs : Region.noSelect ops = true) (hf : Region.free md ops listed i = true) (hr : (Region.ready md ops listed).contains i = true)
 (hw : (waits md ops s i && !decide (i = s) && !listed.getD s true) = true)
 (hQ : ∀ c a w, Q (.panic c) (a.put oi.dst v) w → Q (.panic c) a w) (hy : YieldsIf P ops S oi v a) (hS : S w)
 (h : wpAnyJ P md ops Q S s fuel (listed.setIfInBounds i true) (a.put oi.dst v) w) : wpAnyJ P md ops Q S s (fuel + 1) listed a w := by
 simp only [Bool.and_eq_true, Bool.not_eq_true', decide_eq_false_iff_not] at hw
 exact wpAnyJ_first hi (Region.noSelect_spec hs) hQ hw.1.1 hw.1.2 fuel listed a w (Region.free_spec hi hf) (by simpa using hr) hw.2 hy hS h
theorem wpAnyJ_done {listed : Array Bool} {a : Act} {w : World} (hr : Region.ready md ops listed = []) (h : Q .normal a w) :
 ∀ fuel, wpAnyJ P md ops Q S s fuel listed a w
 | 0 => ⟨hr, h⟩
 | _ + 1 => ⟨fun _ => h, by rw [hr]; simp⟩
theorem wp_region_J {id : Nat} {a : Act} {w : World} (hm : P.follows .mixedOrders = true) (hS : S w.drew)
 (h : S w.drew → wpAnyJ P .any ops Q S s ops.size (Array.replicate ops.size false) a w.drew) : (Code.region id ops true).wp P Q a w :=
 wp_region_any hm (wpAny_of_J _ _ _ _ (h hS))
theorem j_take {i : Nat} {dst : Option Tmp} {op : Op} {ty : TypeId} {pos : String} {af : _} {gd : _} {v : Value} {fuel : Nat} {listed : Array Bool} {a : Act} {w : World} (hi : ops[i]? = some ⟨dst, op, ty, pos, af, gd⟩)
 (hs : Region.noSelect ops = true) (hf : Region.free md ops listed i = true) (hr : (Region.ready md ops listed).contains i = true)
 (hwt : (waits md ops s i && !decide (i = s) && !listed.getD s true) = true)
 (hQ : ∀ c a w, Q (.panic c) (a.put dst v) w → Q (.panic c) a w) (hw : Region.wanted ⟨dst, op, ty, pos, af, gd⟩ (yielded ops a.tmps) = true) (hS : S w)
 (hy : ∀ w, S w → (execOp a.eval ⟨dst, op, ty, pos, af, gd⟩).run P w = .ok (.value v) w)
 (h : wpAnyJ P md ops Q S s fuel (listed.setIfInBounds i true) (a.put dst v) w) : wpAnyJ P md ops Q S s (fuel + 1) listed a w :=
 wpAnyJ_take hi hs hf hr hwt hQ (.inl ⟨hw, hy⟩) hS h
theorem j_one {i : Nat} {dst : Option Tmp} {op : Op} {ty : TypeId} {pos : String} {af : _} {gd : _} {fuel : Nat} {listed : Array Bool} {a : Act} {w : World} (hi : ops[i]? = some ⟨dst, op, ty, pos, af, gd⟩)
 (hr : Region.ready md ops listed = [i]) (hw : Region.wanted ⟨dst, op, ty, pos, af, gd⟩ (yielded ops a.tmps) = true)
 (h : ∀ K' : Act → World → Prop, Shut (∀ a w, S w → (S w → wpAnyJ P md ops Q S s fuel (listed.setIfInBounds i true) a w) → K' a w) → Oper.wp P ⟨dst, op, ty, pos, af, gd⟩ a w K' Q) :
 wpAnyJ P md ops Q S s (fuel + 1) listed a w := by
 refine ⟨fun h0 => (by rw [hr] at h0; cases h0), ?_⟩
 rw [hr]
 intro j hj
 obtain rfl : j = i := by simpa using hj
 exact wpOp_step hi (fun K' hK => by rw [if_pos hw]; exact h K' (fun a w hS hW => hK a w ⟨fun _ => hS, hW hS⟩))
theorem j_last {dst : Option Tmp} {op : Op} {ty : TypeId} {pos : String} {af : _} {gd : _} {fuel : Nat} {listed : Array Bool} {a : Act} {w : World} (hi : ops[s]? = some ⟨dst, op, ty, pos, af, gd⟩)
 (hr : Region.ready md ops listed = [s]) (hl : s < listed.size) (hr2 : Region.ready md ops (listed.setIfInBounds s true) = []) (hw : Region.wanted ⟨dst, op, ty, pos, af, gd⟩ (yielded ops a.tmps) = true)
 (h : ∀ K' : Act → World → Prop, Shut (∀ a w, Q .normal a w → K' a w) → Oper.wp P ⟨dst, op, ty, pos, af, gd⟩ a w K' Q) :
 wpAnyJ P md ops Q S s (fuel + 1) listed a w := by
 refine ⟨fun h0 => (by rw [hr] at h0; cases h0), ?_⟩
 rw [hr]
 intro j hj
 obtain rfl : j = s := by simpa using hj
 exact wpOp_step hi (fun K' hK => by rw [if_pos hw]; exact h K' (fun a w hQ => hK a w ⟨fun h0 => absurd h0 (by simp [hl]), wpAnyJ_done hr2 hQ _⟩))
theorem keepg {w w' : World} {g p b o : Nat} {u y : Value} {row : Option Nat} (h : w.cell? ⟨g, p, none⟩ = some u ∧ w.cell? ⟨b, o, none⟩ = some y ∧ w.frozen? ⟨g, p, none⟩ = false) (gr : w.grownBy w' row) (h1 : some g ≠ row) (h2 : some b ≠ row) : w'.cell? ⟨g, p, none⟩ = some u ∧ w'.cell? ⟨b, o, none⟩ = some y ∧ w'.frozen? ⟨g, p, none⟩ = false :=
 ⟨gr.cell h.1 h1, gr.cell h.2.1 h2, (World.frozen?_of_block (a := ⟨g, p, none⟩) (gr.block g (cell_lt h.1) h1)).trans h.2.2⟩
def frontP (ps : List (List UInt8)) : Nat := ps.foldl (fun m l => min m l.length) 1000
theorem frontN_P (xs : List Ln) : frontN xs = frontP (xs.map Ln.l) := by unfold frontN frontP; rw [List.foldl_map]
def jointP (ps : List (List UInt8)) (j : Nat) : List UInt8 := ps.map fun l => (l[j]?).getD 0
theorem jointN_P (xs : List Ln) (j : Nat) : jointN xs j = jointP (xs.map Ln.l) j := by unfold jointN jointP; rw [List.map_map]; rfl
def putP (l : List UInt8) (z : Int) (x : List UInt8) : Int × Int × List UInt8 :=
 if z < 0 then (0, 1, l) else if (l.length : Int) < z then (0, 2, l) else
  let p := min (l.length - z.toNat) x.length
  let m := x.length - p
  let n := min (1000 - l.length) m
  ((n : Int), (if n < m then 4 else 0), l ++ (x.drop p).take n)
theorem set_self {α : Type} (xs : List α) (j : Nat) (x : α) (h : xs[j]? = some x) : xs.set j x = xs := by
 refine List.ext_getElem? fun i => ?_
 rw [List.getElem?_set]
 by_cases e : j = i
 · subst e; rw [if_pos rfl, if_pos (List.getElem?_eq_some_iff.1 h).1, h]
 · rw [if_neg e]
section
variable {w0 w w' : World} {q r : Nat} {xs : List Ln} {O O' : Nat → Prop}
theorem qf_put (h : QF w0 w q r xs O) (j b : Nat) (l x : List UInt8) (hx : xs[j]? = some ⟨b, l⟩) (z : Int) (A : Option Addr) (cap B X : Nat) (hX : x.length = X) (hr : RB w B A x) (hc : X ≤ cap) (hm : cap ≤ maxLen) (a e : Int) (l' : List UInt8) (hp : putP l z x = (a, e, l')) :
 Calls Tryz.prog 118 #[pB b, .int .i64 z, .slice A X cap] w fun en w' => en = .returned (.tuple #[.int .i64 a, .int .i64 e]) ∧ QF w0 w' q r (xs.set j ⟨b, l'⟩) O ∧ Same O w w' := by
 obtain ⟨hlm, hl1⟩ := h.qm.line j _ hx
 unfold putP at hp
 by_cases h1 : z < 0
 · rw [if_pos h1] at hp
   injection hp with e1 hp; injection hp with e2 e3
   subst e1 e2 e3
   refine (put_neg w b _ l hlm z _ h1).mono ?_
   rintro en w' ⟨rfl, rfl⟩
   rw [set_self xs j _ hx]
   exact ⟨rfl, h, fun k _ => rfl⟩
 · rw [if_neg h1] at hp
   by_cases h2 : (l.length : Int) < z
   · rw [if_pos h2] at hp
     injection hp with e1 hp; injection hp with e2 e3
     subst e1 e2 e3
     refine (put_more w b _ l hlm z _ h2).mono ?_
     rintro en w' ⟨rfl, rfl⟩
     rw [set_self xs j _ hx]
     exact ⟨rfl, h, fun k _ => rfl⟩
   · rw [if_neg h2] at hp
     obtain ⟨f, rfl⟩ : ∃ f : Nat, z = f := ⟨z.toNat, by omega⟩
     simp only [Int.toNat_natCast, hX] at hp
     injection hp with e1 hp; injection hp with e2 e3
     subst e1 e2 e3
     refine (put_in w b l x A cap B f _ l.length X rfl hX hlm hl1 hr hc hm (by omega) rfl _ rfl _ rfl).mono fun en w' ⟨he, q1, q2⟩ => ⟨he, ?_⟩
     refine h.put j ⟨b, l⟩ hx _ _ ?_ q1 ?_ q2
     · rw [List.length_append, List.length_take, List.length_drop, hX]; omega
     · have : l.length ≤ 1000 := hl1; omega
end
end Go.Proofs.YtpnobpligchpiaaGreatDoor
