/- WALKS over package queue: Joint, Known; own rows of bools. -/
import Derived.Test.YtomiligjcpmnjaaXb
import Derived.Test.YtomiligjcpmnjaaKv
import Derived.Test.YtomiligjcpmnjaaKw
namespace Go.Proofs.Ytomiligjcpmnjaa
set_option maxRecDepth 100000
open Go.RowKit
set_option linter.unusedVariables false
set_option linter.unusedSimpArgs false

/-- what all pressed in frame j -/
def jointN (xs : List Ln) (j : Nat) : List UInt8 := xs.map fun x => (x.l[j]?).getD 0
theorem jointN_len (xs : List Ln) (j : Nat) : (jointN xs j).length = xs.length := List.length_map _
/-- the first k of them told, noughts behind -/
def partJ (xs : List Ln) (j k n : Nat) : List UInt8 := jointN (xs.take k) j ++ List.replicate (n - k) 0
theorem partJ_set (xs : List Ln) (j k : Nat) (x : Ln) (hx : xs[k]? = some x) (n : Nat) (hn : xs.length = n) : (partJ xs j k n).set k ((x.l[j]?).getD 0) = partJ xs j (k + 1) n := by
  have hk := (List.getElem?_eq_some_iff.1 hx).1
  have hl : (jointN (xs.take k) j).length = k := by rw [jointN_len, List.length_take]; omega
  obtain ⟨m, hm⟩ : ∃ m, n - k = m + 1 := ⟨n - k - 1, by omega⟩
  unfold partJ
  rw [List.set_append_right _ _ (by omega), hl, Nat.sub_self, hm, show n - (k + 1) = m by omega, List.replicate_succ, List.set_cons_zero, take_next xs k x hx]
  unfold jointN
  rw [List.map_append, List.append_assoc]
  rfl
theorem partJ_len (xs : List Ln) (j k n : Nat) (hn : xs.length = n) (hk : k ≤ n) : (partJ xs j k n).length = n := by
  unfold partJ
  rw [List.length_append, jointN_len, List.length_take, List.length_replicate]
  omega
theorem bool_info : (Try.prog.info? 4).map (fun i => (i.zero, i.size, i.bytes)) = some (some (.bool false), 1, 1) := by kernel_rfl
/-- v is the call's own slice of the bools bs -/
def OW (w : World) (base : Nat) (v : Value) (bs : List Bool) : Prop := w.ownsRow base 4 1 v bs.length (bs.map Value.bool)
def bOne (b : Bool) : Obj := .cells #[.bool b] 4
theorem OW.nil (w : World) (base : Nat) : OW w base (.slice none 0 0) [] := World.ownsRow_nil _ _ _ _
theorem OW.ge {w : World} {base : Nat} {v : Value} {l : List Bool} (h : OW w base v l) : ∀ k, v.ownBlock = some k → base ≤ k := fun k hk => (World.ownsRow.lt h k hk).1
theorem OW.form {w : World} {base : Nat} {v : Value} {bs : List Bool} (h : OW w base v bs) (n : Nat) (hn : bs.length = n) : ∃ A c, v = .slice A n c ∧ n ≤ c ∧ (∀ j (hj : j < bs.length), ∃ g, A = some ⟨g, 0, none⟩ ∧ g < w.heap.size ∧ w.cell? ⟨g, j, none⟩ = some (.bool bs[j])) := by
  subst hn
  have h' := h
  obtain ⟨hl, hd⟩ := h
  rcases hd with ⟨rfl, h0⟩ | ⟨g, cap, cur, rfl, _, hh, h1, _⟩
  · exact ⟨none, 0, by rw [h0], by omega, fun j hj => absurd hj (by omega)⟩
  · refine ⟨some ⟨g, 0, none⟩, cap, rfl, h1, fun j hj => ⟨g, rfl, ?_, ?_⟩⟩
    · rcases Nat.lt_or_ge g w.heap.size with hlt | hge
      · exact hlt
      · rw [Array.getElem?_eq_none hge] at hh; cases hh
    · have e := World.ownsRow.cellAt (w := w) h' j (by omega)
      rw [List.getElem?_map, List.getElem?_eq_getElem hj, Option.map_some] at e
      exact e
theorem wpList_append_bool {w : World} {ops : Array Oper} {rest : List Oper} {o : Oper} {a : Act} {Q : Exit → Act → World → Prop} (hgd : o.guard = none) (s x : Operand)
    (ho : o.op = .call { callee := .builtin .append, args := #[s, x], argTypes := #[61, 61] })
    (base : Nat) (v : Value) (bs : List Bool) (b : Bool) (hs : a.eval s = v) (hown : OW (w.alloc (bOne b)) base v bs) (hx : a.eval x = .slice (some ⟨w.heap.size, 0, none⟩) 1 1) (hlen : bs.length ≤ 1000) (hbase : base ≤ w.heap.size)
    (h : ∀ v' w', OW w' base v' (bs ++ [b]) → (w.alloc (bOne b)).grownBy w' v.ownBlock → (v'.ownBlock = v.ownBlock ∨ v'.ownBlock = some (w.heap.size + 1)) → wpList Try.prog ops Q rest (a.put o.dst v') w') : wpList Try.prog ops Q (o :: rest) a (w.alloc (bOne b)) := by
  obtain ⟨i0, hi0, hz0, hz1, hz2⟩ := info_parts bool_info
  refine wpList_append_own_at (P := Try.prog) (w.alloc (bOne b)) hgd s x 61 ho base 4 i0 (.bool false) 1 1 Try.underlying61 hi0 hz0 hz1 hz2 rfl (by decide) v bs.length _ hs hown ⟨w.heap.size, 0, none⟩ 1 1 [.bool b] hx rfl (cell_one_new _ _ _) (by simp [Value.oneCell']) (by unfold maxLen; omega) (by omega) (by rw [World.size_alloc]; omega) ?_
  intro v' w' h1 h2 _ h4
  refine h v' w' ?_ h2 (by rw [World.size_alloc] at h4; exact h4)
  unfold OW
  rw [List.length_append, List.map_append]
  exact h1
def knownN (xs : List Ln) (f : Int) : List Bool := xs.map fun x => decide (0 ≤ f ∧ f < (x.l.length : Int))
theorem knownN_len (xs : List Ln) (f : Int) : (knownN xs f).length = xs.length := List.length_map _
theorem known_nil (w : World) (f : Int) : Calls Try.prog 28 #[.pointer none, .int .i64 f] w fun e w' => e = .returned (.slice none 0 0) ∧ w = w' := by
  have HL := Lib.hid (qn_nil w)
  go_enter Try.func28, Try.ntmps28
  go_wp2_with (go_at_call 25; with_reducible refine (HL.out).mono ?_; rintro e w1 ⟨rfl, rfl⟩)
  go_loopw [5, 6, 7, 8, 11] (fun v a b c i wr => v = .slice none 0 0 ∧ i = .int .i64 0 ∧ wr = w) (fun _ _ _ _ _ _ => 0)
  case atStart => exact ⟨rfl, rfl, rfl⟩
  case round =>
    obtain ⟨rfl, rfl, rfl⟩ := hrel
    go_wp2
    go_ret
    exact ⟨rfl, rfl⟩
set_option maxHeartbeats 1000000 in
theorem known_any (w : World) (q r : Nat) (xs : List Ln) (h : QM w q r xs) (n : Nat) (hn : xs.length = n) (h8 : n ≤ 8) (f : Int) :
    Calls Try.prog 28 #[pB q, .int .i64 f] w fun e w' => ∃ v, e = .returned v ∧ OW w' w.heap.size v (knownN xs f) ∧ Below w.heap.size w w' := by
  have HL := Lib.hid (qn_any w q r xs h n hn)
  have H := Lib.hid h; have HN := Lib.hid hn
  clear h hn
  go_enter Try.func28, Try.ntmps28
  go_wp2_with (go_at_call 25; with_reducible refine (HL.out).mono ?_; rintro e w1 ⟨rfl, rfl⟩)
  go_loopw [5, 6, 7, 8, 11] (fun v a b c i wr => ∃ (k : Nat), i = .int .i64 (k : Int) ∧ k ≤ n ∧ Hid (OW wr w.heap.size v (knownN (xs.take k) f)) ∧ Hid (Below w.heap.size w wr)) (fun _ _ _ _ i _ => n - (intOf i).toNat)
  case atStart => exact ⟨0, rfl, by omega, OW.nil _ _, Below.refl _ _⟩
  case round =>
    obtain ⟨k, rfl, hk, ho, hb⟩ := hrel
    by_cases hlt : k < n
    · obtain ⟨x, hx⟩ : ∃ x, xs[k]? = some x := ⟨_, List.getElem?_eq_getElem (by rw [HN.out]; exact hlt)⟩
      have hq2 := H.out.belows hb.out
      have c0 := hq2.c0
      rw [HN.out] at c0
      have c1 := hq2.at k x hx
      have hl := (hq2.line k x hx)
      have hA : ∃ y : Int, Calls Try.prog 40 #[pB x.b, .int .i64 f] wr fun e w' => e = .returned (.tuple #[.int .u8 y, .bool (decide (0 ≤ f ∧ f < (x.l.length : Int)))]) ∧ wr = w' := by
        by_cases hf : 0 ≤ f ∧ f < (x.l.length : Int)
        · rw [decide_eq_true hf]
          exact ⟨_, at_in wr x.b x.l.length x.l hl.1 rfl hl.2 f f.toNat (by omega) (by omega) _ rfl⟩
        · rw [decide_eq_false hf]
          exact ⟨_, at_out wr x.b x.l.length x.l hl.1 f hf⟩
      obtain ⟨y, hA⟩ := hA
      obtain ⟨kb, hkb⟩ : ∃ kb : Bool, decide (0 ≤ f ∧ f < (x.l.length : Int)) = kb := ⟨_, rfl⟩
      rw [hkb] at hA
      have HAt := Lib.hid hA
      have hkn : knownN (xs.take k) f ++ [kb] = knownN (xs.take (k + 1)) f := by
        rw [take_next xs k x hx]; unfold knownN; rw [List.map_append, ← hkb]; rfl
      have HKN := Lib.hid hkn
      have ho3 : OW (wr.alloc (bOne kb)) w.heap.size u5 (knownN (xs.take k) f) := World.ownsRow.alloc ho.out _
      have hlen : Hid ((knownN (xs.take k) f).length ≤ 1000) := by show _ ≤ _; rw [knownN_len, List.length_take]; omega
      have HO3 := Lib.hid ho3
      have HB3 := Lib.hid (hb.out.alloc hb.out.size (bOne kb))
      have HBS := Lib.hid hb.out.size
      have HBS2 : Hid (w.heap.size ≤ (wr.alloc (bOne kb)).heap.size) := HB3.out.size
      have hkn2 : (k : Int) < (n : Int) := by omega
      have hk2 : Hid (k + 1 ≤ n) := hlt
      have hms : Hid (n - (k + 1) < n - k) := by show _ < _; omega
      clear hx hl hA hkb hq2 hkn ho3
      go_wp2_with (first
        | (go_at_call 40; with_reducible refine (HAt.out).mono ?_; rintro e w1 ⟨rfl, rfl⟩)
        | (at_builtin; refine wpList_append_bool rfl (.tmp 26) (.tmp 28) rfl w.heap.size _ (knownN (xs.take k) f) kb rfl HO3.out rfl hlen.out HBS.out ?_; intro v2 w4 o2 gr2 e2; rw [HKN.out] at o2; have hb4 := HB3.out.grown gr2 HBS2.out HO3.out.ge; have O2 := Lib.hid o2; have HB4 := Lib.hid hb4; clear o2 gr2 e2 hb4))
      go_roundw
      case rel => exact ⟨k + 1, by go_num, hk2.out, O2, HB4⟩
      case measure => simp [intOf]; have := hms.out; omega
    · obtain rfl : k = n := by omega
      rw [← HN.out, List.take_length] at ho
      go_wp2
      go_ret
      exact ⟨_, rfl, ho.out, hb.out⟩
end Go.Proofs.Ytomiligjcpmnjaa
