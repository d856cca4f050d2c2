/- WALKS over package snap: Pages. -/
import Derived.Test.YtkmkjfbbpeocdaaWm
import Derived.Lib.SliceRun
namespace Go.Proofs.Ytkmkjfbbpeocdaa
set_option maxRecDepth 100000
open Go.RowKit Go.Maps
set_option linter.unusedVariables false
set_option linter.unusedSimpArgs false

theorem intInfo : (Try.prog.info? 3).map (fun i => (i.zero, i.size, i.bytes)) = some (some (.int .i64 0), 1, 8) := by kernel_rfl
theorem info_parts3 {P : Program} {t : TypeId} {z : Value} {n b : Nat} (h : (P.info? t).map (fun i => (i.zero, i.size, i.bytes)) = some (some z, n, b)) : ∃ i, P.info? t = some i ∧ i.zero = some z ∧ i.size = n ∧ i.bytes = b := by
  cases e : P.info? t with
  | none => rw [e] at h; cases h
  | some i => rw [e] at h; simp at h; exact ⟨i, rfl, h.1, h.2.1, h.2.2⟩
/-- a slice of four numbers that lies in a block of its own -/
def PgO (w' : World) (B : Nat) (v : Value) (f : Nat → Int) : Prop := ∃ g cap, v = .slice (some ⟨g, 0, none⟩) 4 cap ∧ B ≤ g ∧ g < w'.heap.size ∧ 4 ≤ cap ∧ ∀ i, i < 4 → w'.cell? ⟨g, i, none⟩ = some (.int .i64 (f i))
theorem spages_nil (x : Int) (w : World) :
    Calls Try.prog 27 #[.pointer none, .int .i64 x] w fun e w' => e = .returned (.slice none 0 0) ∧ w = w' := by
  have HU := Lib.hid (picture_nil x w)
  go_enter Try.func27, Try.ntmps27
  go_wp2_with (go_at_call 37; with_reducible refine HU.out.mono ?_; rintro e w1 ⟨rfl, rfl⟩)
  go_ret
  exact ⟨rfl, rfl⟩
theorem spages_out (w : World) (S P A M : Nat) (l : List Sh) (L : List Pc) (h : SM w S P A M l L) (x : Int) (hx : rng x) (hd : Dead L x) :
    Calls Try.prog 27 #[.pointer (some ⟨S, 0, none⟩), .int .i64 x] w fun e w' => e = .returned (.slice none 0 0) ∧ w = w' := by
  have HU := Lib.hid (picture_out w S P A M l L h x hx hd)
  clear h hd
  go_enter Try.func27, Try.ntmps27
  go_wp2_with (go_at_call 37; with_reducible refine HU.out.mono ?_; rintro e w1 ⟨rfl, rfl⟩)
  go_ret
  exact ⟨rfl, rfl⟩
set_option maxHeartbeats 1000000 in
theorem clone_any (w : World) (b : Nat) (f : Nat → Int) (hb : b < w.heap.size) (hc : ∀ i, i < 4 → w.cell? ⟨b, 1 + i, none⟩ = some (.int .i64 (f i))) :
    Calls Try.prog 48 #[.slice (some ⟨b, 1, none⟩) 4 4] w fun e w' => ∃ v, e = .returned v ∧ PgO w' w.heap.size v f ∧ Below w.heap.size w w' := by
  obtain ⟨i0, hi0, hz0, hz1, hz2⟩ := info_parts3 intInfo
  have hn : ∀ (a : Addr) (n c : Nat) (W : World), (binOp .eql 36 (.slice (some a) n c) (.slice none 0 0)).run Try.prog W = .ok (.bool false) W := fun a n c W => Lib.run_eql_slice_nil W _ _ _ _ _ _ _ Try.underlying36
  have HO : Hid ((w.alloc (.cells #[] 3)).ownsRow w.heap.size 3 1 (.slice (some ⟨w.heap.size, 0, none⟩) 0 0) 0 []) := ⟨rfl, .inr ⟨w.heap.size, 0, #[], rfl, Nat.le_refl _, heap_alloc_last w _, Nat.le_refl _, by unfold maxLen; omega, rfl, rfl⟩⟩
  have HN : Hid (∀ (j : Nat) (u : Value), (q4L f)[j]? = some u → (w.alloc (.cells #[] 3)).cell? ((⟨b, 1, none⟩ : Addr).add j) = some u) := fun j u hu => by
    have hj : j < 4 := (List.getElem?_eq_some_iff.1 hu).1
    rw [Addr.add_lit]
    refine (Below.cell ((Below.refl _ w).alloc (Nat.le_refl _) _) (p := ⟨b, 1 + j, none⟩) hb).trans ?_
    rw [hc j hj]
    obtain rfl | rfl | rfl | rfl : j = 0 ∨ j = 1 ∨ j = 2 ∨ j = 3 := by omega
    all_goals simpa [q4L] using hu
  have H1 : Hid (∀ u ∈ q4L f, u.oneCell' = true) := fun u hu => by
    unfold q4L at hu
    simp at hu
    rcases hu with rfl | rfl | rfl | rfl <;> rfl
  have HB : Hid (Below w.heap.size w (w.alloc (.cells #[] 3))) := (Below.refl _ w).alloc (Nat.le_refl _) _
  clear hc
  go_enter Try.func48, Try.ntmps48
  go_wp2_with (at_builtin; refine wpList_append_own _ rfl (.tmp 5) (.tmp 6) 36 rfl w.heap.size 3 i0 (.int .i64 0) 1 8 Try.underlying36 hi0 hz0 hz1 hz2 rfl (by omega) _ 0 [] rfl HO.out ⟨b, 1, none⟩ 4 4 (q4L f) rfl rfl HN.out H1.out (by unfold maxLen; omega) (by omega) (by simp) ?_; intro v' w' hown hgr hnil; have HO2 := Lib.hid hown; have HG2 := Lib.hid hgr; have HNil := Lib.hid hnil; clear hown hgr hnil)
  go_ret
  refine ⟨v', rfl, ?_, HB.out.grown HG2.out (by simp) (fun k e => by cases e; exact Nat.le_refl _)⟩
  rcases HO2.out.2 with ⟨rfl, h0⟩ | ⟨g, cap, cur, rfl, hg, hblk, h1, h2, h3, h4⟩
  · omega
  · refine ⟨g, cap, rfl, hg, (Array.getElem?_eq_some_iff.1 hblk).1, h1, fun i hi => ?_⟩
    rw [cell_of_row _ _ _ _ _ _ hblk]
    have e1 : (cur.toList.take (4 * 1))[i]? = ([] ++ q4L f)[i]? := by rw [show cur.toList.take (4 * 1) = [] ++ q4L f from h4]
    rw [List.getElem?_take_of_lt (by omega), Array.getElem?_toList] at e1
    rw [e1]
    obtain rfl | rfl | rfl | rfl : i = 0 ∨ i = 1 ∨ i = 2 ∨ i = 3 := by omega
    all_goals rfl
theorem spages_in (w : World) (S P A M : Nat) (l : List Sh) (L : List Pc) (h : SM w S P A M l L) (x : Int) (hx : rng x) (k : Nat) (c : Pc) (hk : x = k + 1) (hc : L[k]? = some c) (hr : 0 < c.r) :
    Calls Try.prog 27 #[.pointer (some ⟨S, 0, none⟩), .int .i64 x] w fun e w' => ∃ v, e = .returned v ∧ PgO w' w.heap.size v c.on ∧ Below w.heap.size w w' := by
  have HU := Lib.hid (picture_in w S P A M l L h x hx k c hk hc hr)
  have HPB := (h.pics k c hc hr).1
  have HC := Lib.hid (clone_any w c.b c.on HPB.lt HPB.on)
  clear h hk hc hr HPB
  go_enter Try.func27, Try.ntmps27
  go_wp2_with (first
    | (go_at_call 37; with_reducible refine HU.out.mono ?_; rintro e w1 ⟨rfl, rfl⟩)
    | (go_at_call 48; with_reducible refine HC.out.mono ?_; rintro e w2 ⟨v, rfl, hp, hb⟩))
  go_ret
  exact ⟨v, rfl, hp, hb⟩
end Go.Proofs.Ytkmkjfbbpeocdaa
