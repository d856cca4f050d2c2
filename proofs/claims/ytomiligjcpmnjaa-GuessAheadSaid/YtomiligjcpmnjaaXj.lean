/- WALKS: the law's Lines, the document's Front and Joint. -/
import Derived.Test.YtomiligjcpmnjaaXi
namespace Go.Proofs.Ytomiligjcpmnjaa
set_option maxRecDepth 100000
open Go.RowKit
set_option linter.unusedVariables false
set_option linter.unusedSimpArgs false

theorem line_info : (Try.prog.info? 36).map (fun i => (i.zero, i.size, i.bytes)) = some (some (.agg #[.slice none 0 0]), 1, 24) := by kernel_rfl
def lOne (u : Value) : Obj := .cells #[u] 36
theorem wpList_append_line {w : World} {ops : Array Oper} {rest : List Oper} {o : Oper} {a : Act} {Q : Exit → Act → World → Prop} (hgd : o.guard = none) (s x : Operand)
    (ho : o.op = .call { callee := .builtin .append, args := #[s, x], argTypes := #[30, 30] })
    (base : Nat) (v : Value) (us : List Value) (u : Value) (hs : a.eval s = v) (hown : (w.alloc (lOne u)).ownsRow base 36 1 v us.length us) (h1 : u.oneCell' = true) (P : Nat) (hP : w.heap.size = P) (hx : a.eval x = .slice (some ⟨P, 0, none⟩) 1 1) (hlen : us.length ≤ 1000) (hbase : base ≤ w.heap.size)
    (h : ∀ v' w', w'.ownsRow base 36 1 v' (us.length + 1) (us ++ [u]) → (w.alloc (lOne u)).grownBy w' v.ownBlock → (v'.ownBlock = v.ownBlock ∨ v'.ownBlock = some (w.heap.size + 1)) → wpList Try.prog ops Q rest (a.put o.dst v') w') : wpList Try.prog ops Q (o :: rest) a (w.alloc (lOne u)) := by
  subst hP
  obtain ⟨i0, hi0, hz0, hz1, hz2⟩ := info_parts line_info
  refine wpList_append_own_at (P := Try.prog) (w.alloc (lOne u)) hgd s x 30 ho base 36 i0 (.agg #[.slice none 0 0]) 1 24 Try.underlying30 hi0 hz0 hz1 hz2 rfl (by decide) v us.length _ hs hown ⟨w.heap.size, 0, none⟩ 1 1 [u] hx rfl (cell_one_new _ _ _) (by simp [h1]) (by unfold maxLen; omega) (by omega) (by rw [World.size_alloc]; omega) ?_
  intro v' w' h1 h2 _ h4
  exact h v' w' h1 h2 (by rw [World.size_alloc] at h4; exact h4)
theorem LR.snoc {W w4 : World} {base : Nat} {v v2 : Value} {ms : List Rl} (h : LR W base v ms) (m : Rl) (ho : OB W base m.v m.l) (hne : ∀ k, m.v.ownBlock = some k → ¬ LB v ms k) (g : W.grownBy w4 v.ownBlock)
    (hr : w4.ownsRow base 36 1 v2 (ms.length + 1) (ms.map Rl.v ++ [m.v])) (e : v2.ownBlock = v.ownBlock ∨ v2.ownBlock = some W.heap.size) : LR w4 base v2 (ms ++ [m]) := by
  have hone : ∀ y ∈ ms ++ [m], OB W base y.v y.l ∧ ∀ k, y.v.ownBlock = some k → v.ownBlock ≠ some k := fun y hy => by
    rcases List.mem_append.1 hy with hy | hy
    · exact h.line y hy
    · obtain rfl := List.mem_singleton.1 hy
      exact ⟨ho, fun k hk e => hne k hk (.inl e)⟩
  refine ⟨by rw [List.length_append, List.map_append]; exact hr, fun y hy => ?_, ?_⟩
  · obtain ⟨q0, q1⟩ := hone y hy
    refine ⟨q0.same fun k hk => g.block k (q0.lt k hk).2 (fun e => q1 k hk e.symm), fun k hk e3 => ?_⟩
    rcases e with e | e
    · exact q1 k hk (e.symm.trans e3)
    · have := Option.some.inj (e.symm.trans e3); have := (q0.lt k hk).2; omega
  · rw [List.pairwise_append]
    refine ⟨h.inj, List.pairwise_singleton .., fun y hy z hz k hk e2 => ?_⟩
    obtain rfl := List.mem_singleton.1 hz
    exact hne k e2 (.inr ⟨y, hy, hk⟩)
set_option maxHeartbeats 1000000 in
theorem lines_any (w : World) (n D : Nat) (hn : n ≤ 8) (hD : D ≤ 8) :
    Calls Try.prog 11 #[.int .i64 n, .int .i64 D] w fun e w' => ∃ v ms, e = .returned v ∧ LR w' w.heap.size v ms ∧ ms.map Rl.l = List.replicate n (zB D) ∧ Below w.heap.size w w' := by
  go_enter Try.func11, Try.ntmps11
  go_wp2_with fail
  go_loopw [5, 6] (fun v i wr => ∃ (k : Nat) (ms : List Rl), i = .int .i64 (k : Int) ∧ k ≤ n ∧ Hid (LR wr w.heap.size v ms) ∧ Hid (ms.map Rl.l = List.replicate k (zB D)) ∧ Hid (Below w.heap.size w wr)) (fun _ i _ => n - (intOf i).toNat)
  case atStart => exact ⟨0, [], rfl, by omega, LR.nil _ _, rfl, Below.refl _ _⟩
  case round =>
    obtain ⟨k, ms, rfl, hk, hls, hmp, hb⟩ := hrel
    by_cases hlt : k < n
    · have hmk := make_b D (by omega) wr
      obtain ⟨u, hu⟩ : ∃ u, u = Value.slice (some ⟨wr.heap.size, 0, none⟩) D D := ⟨_, rfl⟩
      have b2 : Below wr.heap.size wr ((wr.alloc (madeB D)).alloc (lOne u)) := ((Below.refl _ _).alloc (Nat.le_refl _) _).alloc (by simp) _
      have l2 := hls.out.belows b2
      have o2 : OB ((wr.alloc (madeB D)).alloc (lOne u)) w.heap.size u (zB D) := by
        rw [hu]
        exact ((ob_made wr D (by omega)).less hb.out.size).below ((Below.refl _ _).alloc (Nat.le_refl _) _) (Nat.le_refl _)
      have hne : ∀ j, u.ownBlock = some j → ¬ LB u5 ms j := fun j hj h2 => by
        rw [hu] at hj
        have h3 : wr.heap.size = j := Option.some.inj hj
        have := (hls.out.lt h2).2
        omega
      have hml : Hid (ms.length = k) := by have := congrArg List.length hmp.out; rw [List.length_map, List.length_replicate] at this; exact this
      have hsz : Hid (w.heap.size ≤ (wr.alloc (madeB D)).heap.size) := by show _ ≤ _; rw [World.size_alloc]; have := hb.out.size; omega
      have hrow := l2.row
      have HROW : Hid (((wr.alloc (madeB D)).alloc (lOne u)).ownsRow w.heap.size 36 1 u5 (ms.map Rl.v).length (ms.map Rl.v)) := by rw [List.length_map]; exact hrow
      have HLEN : Hid ((ms.map Rl.v).length ≤ 1000) := by show _ ≤ _; rw [List.length_map, hml.out]; omega
      have HSN := Lib.hid (fun (w4 : World) (v2 : Value) g hr e => l2.snoc (w4 := w4) (v2 := v2) ⟨u, zB D⟩ o2 hne g hr e)
      have HB2 := Lib.hid (hb.out.trans (b2.mono hb.out.size))
      have HU := Lib.hid hu
      have H1 : Hid (u.oneCell' = true) := by rw [hu]; rfl
      have HGE : Hid (∀ j, (Value.ownBlock u5) = some j → w.heap.size ≤ j) := fun j hj => (hls.out.lt (.inl hj)).1
      have HBS : Hid (w.heap.size ≤ ((wr.alloc (madeB D)).alloc (lOne u)).heap.size) := HB2.out.size
      have hkn : (k : Int) < (n : Int) := by omega
      have hk2 : Hid (k + 1 ≤ n) := hlt
      have hms : Hid (n - (k + 1) < n - k) := by show _ < _; omega
      subst hu
      clear b2 l2 o2 hne hrow
      go_wp2_with (at_builtin; (refine wpList_append_line rfl (.tmp 12) (.tmp 16) rfl w.heap.size _ (ms.map Rl.v) _ rfl HROW.out H1.out (wr.heap.size + 1) (by simp) rfl HLEN.out hsz.out ?_; intro v2 w4 r2 g2 e2; rw [List.length_map] at r2; have HL4 := Lib.hid (HSN.out w4 v2 g2 r2 (by first | exact e2 | (rw [World.size_alloc]; exact e2))); have HB4 := Lib.hid (HB2.out.grown g2 HBS.out HGE.out); clear r2 g2 e2))
      have hmp2 : Hid ((ms ++ [(⟨.slice (some ⟨wr.heap.size, 0, none⟩) D D, zB D⟩ : Rl)]).map Rl.l = List.replicate (k + 1) (zB D)) := by show _ = _; rw [List.map_append, hmp.out, List.replicate_succ']; rfl
      clear hmk
      go_roundw
      case rel => exact ⟨k + 1, _, by go_num, hk2.out, HL4, hmp2, HB4⟩
      case measure => simp [intOf]; have := hms.out; omega
    · obtain rfl : k = n := by omega
      go_wp2
      go_ret
      exact ⟨_, ms, rfl, hls.out, hmp.out, hb.out⟩

/-! ### Front, Joint -/
def frontP (ps : List (List UInt8)) : Nat := ps.foldl (fun m l => min m l.length) 1000
theorem frontP_snoc (ps : List (List UInt8)) (l : List UInt8) : frontP (ps ++ [l]) = min (frontP ps) l.length := by unfold frontP; rw [List.foldl_append]; rfl
theorem frontN_P (xs : List Ln) : frontN xs = frontP (xs.map Ln.l) := by unfold frontN frontP; rw [List.foldl_map]
def jointP (ps : List (List UInt8)) (j : Nat) : List UInt8 := ps.map fun l => (l[j]?).getD 0
theorem jointN_P (xs : List Ln) (j : Nat) : jointN xs j = jointP (xs.map Ln.l) j := by unfold jointN jointP; rw [List.map_map]; rfl
/-- a line of it -/
theorem LR.line_at {w : World} {base g n cap : Nat} {ms : List Rl} (h : LR w base (.slice (some ⟨g, 0, none⟩) n cap) ms) (j : Nat) (m : Rl) (hm : ms[j]? = some m) (L : Nat) (hL : m.l.length = L) :
    ∃ A c, w.cell? ⟨g, j, none⟩ = some (.slice A L c) ∧ m.v = .slice A L c ∧ RB w w.heap.size A m.l := by
  obtain ⟨g', e, hc⟩ := h.at rfl j m hm
  injection e with e; injection e with e
  subst e
  obtain ⟨A, c, hv, -, -, hr⟩ := (h.line m (List.mem_of_getElem? hm)).1.form_n L hL
  exact ⟨A, c, by rw [hc, hv], hv, hr⟩
set_option maxHeartbeats 1000000 in
theorem rfront_any (w : World) (base : Nat) (v : Value) (ms : List Rl) (h : LR w base v ms) (h0 : 0 < ms.length) (h8 : ms.length ≤ 8) (hl : ∀ m ∈ ms, m.l.length ≤ 1000) (F : Nat) (hF : frontP (ms.map Rl.l) = F) :
    Calls Try.prog 17 #[v] w fun e w' => e = .returned (.int .i64 F) ∧ w = w' := by
  obtain ⟨n, hn⟩ : ∃ n, ms.length = n := ⟨_, rfl⟩
  obtain ⟨g, cap, cur, rfl, -, -, -, -⟩ := h.form h0 n hn
  obtain ⟨m0, hm0⟩ : ∃ m0, ms[0]? = some m0 := ⟨_, List.getElem?_eq_getElem h0⟩
  obtain ⟨L0, hL0⟩ : ∃ L0, m0.l.length = L0 := ⟨_, rfl⟩
  obtain ⟨A0, c0, q0, -, -⟩ := h.line_at 0 m0 hm0 L0 hL0
  have hf1 : frontP ((ms.take 1).map Rl.l) = L0 := by
    have e : ms.take 1 = [m0] := by rw [take_next ms 0 m0 hm0]; rfl
    have := hl m0 (List.mem_of_getElem? hm0)
    rw [e]; show min 1000 m0.l.length = L0; omega
  have HH := Lib.hid h; have HN := Lib.hid hn; have HL := Lib.hid hl; have HF := Lib.hid hF; have HF1 := Lib.hid hf1
  rw [hn] at h0 h8
  have hL01 : L0 ≤ 1000 := by rw [← hL0]; exact hl m0 (List.mem_of_getElem? hm0)
  clear h hn hl hF hf1 hm0 hL0
  go_enter Try.func17, Try.ntmps17
  go_wp2_with fail
  clear q0
  go_loopw [3, 4] (fun a i wr => ∃ (k m : Nat), i = .int .i64 (k : Int) ∧ a = .int .i64 (m : Int) ∧ 1 ≤ k ∧ k ≤ n ∧ m ≤ 1000 ∧ Hid (frontP ((ms.take k).map Rl.l) = m) ∧ wr = w) (fun _ i _ => n - (intOf i).toNat)
  case atStart => exact ⟨1, L0, rfl, rfl, by omega, by omega, hL01, HF1, rfl⟩
  case round =>
    obtain ⟨k, m, rfl, rfl, hk1, hk, hm, hfm, rfl⟩ := hrel
    clear HF1
    by_cases hlt : k < n
    · obtain ⟨x, hx⟩ : ∃ x, ms[k]? = some x := ⟨_, List.getElem?_eq_getElem (by rw [HN.out]; exact hlt)⟩
      obtain ⟨X, hX⟩ : ∃ X, x.l.length = X := ⟨_, rfl⟩
      obtain ⟨A1, c1, q1, -, -⟩ := HH.out.line_at k x hx X hX
      obtain ⟨m2, hm2⟩ : ∃ m2 : Nat, min m X = m2 := ⟨_, rfl⟩
      have e1 : min (m : Int) (X : Int) = (m2 : Int) := by omega
      have hs : Hid (frontP ((ms.take (k + 1)).map Rl.l) = m2) := by show _ = _; rw [take_next ms k x hx, List.map_append]; show frontP (_ ++ [x.l]) = m2; rw [frontP_snoc, hfm.out, hX, hm2]
      have hm21 : Hid (m2 ≤ 1000) := by show _ ≤ _; omega
      have hk2 : Hid (k + 1 ≤ n) := hlt
      have hms : Hid (n - (k + 1) < n - k) := by show _ < _; omega
      have hkn : (k : Int) < (n : Int) := by omega
      clear hx hX hm2
      go_wp2
      go_roundw
      case rel => exact ⟨k + 1, m2, by go_num, rfl, by omega, hk2.out, hm21.out, hs, by trivial⟩
      case measure => simp [intOf]; have := hms.out; omega
    · obtain rfl : k = n := by omega
      rw [← HN.out, List.take_length, HF.out] at hfm
      obtain rfl := hfm.out
      go_wp2
      go_ret
      exact ⟨rfl, rfl⟩
end Go.Proofs.Ytomiligjcpmnjaa
