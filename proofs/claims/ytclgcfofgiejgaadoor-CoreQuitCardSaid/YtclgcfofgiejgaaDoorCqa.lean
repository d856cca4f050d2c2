/- MANY PLAYERS beside a law's own blocks; rows of players; CoreQuit's plain side. -/
import Derived.Test.YtclgcfofgiejgaaDoorCox
namespace Go.Proofs.YtclgcfofgiejgaaDoor
set_option maxRecDepth 100000
open Go.RowKit
set_option linter.unusedVariables false
set_option linter.unusedSimpArgs false

abbrev cfQ (n i : Nat) : Cf := cfG n i 4 0 3
/-- the first N players, each at block cs j, each knows St j; the law's own blocks O are none of theirs -/
def Mn (w0 w : World) (n N : Nat) (cs : Nat → Nat) (St : Nat → Pl) (O : Nat → Prop) : Prop :=
  ∃ F : Nat → Cm, (∀ j, j < N → (F j).C = cfQ n j ∧ (F j).c = cs j ∧ (F j).s = St j ∧ CM w0 w (F j)) ∧ (∀ i j, i < N → j < N → i ≠ j → ∀ k, CB (F i) k → ¬ CB (F j) k) ∧ ∀ k, O k → w0.heap.size ≤ k ∧ k < w.heap.size ∧ ∀ j, j < N → ¬ CB (F j) k
def upQ (St : Nat → Pl) (i : Nat) (s : Pl) : Nat → Pl := fun j => if j = i then s else St j
section
variable {w0 w w' : World} {n N : Nat} {cs : Nat → Nat} {St : Nat → Pl} {O O' : Nat → Prop}
theorem Mn.zero (w0 w : World) (n : Nat) (cs : Nat → Nat) (St : Nat → Pl) : Mn w0 w n 0 cs St noB := ⟨fun _ => ⟨cfQ 0 0, 0, 0, 0, 0, [], .slice none 0 0, .cells #[] 0, .slice none 0 0, .cells #[] 0, newP (cfQ 0 0)⟩, fun j h => absurd h (Nat.not_lt_zero _), fun i j h => absurd h (Nat.not_lt_zero _), fun k hk => hk.elim⟩
theorem Mn.less (h : Mn w0 w n N cs St O) (ho : ∀ k, O' k → O k) : Mn w0 w n N cs St O' := by
  obtain ⟨F, h1, h2, h3⟩ := h
  exact ⟨F, h1, h2, fun k hk => h3 k (ho k hk)⟩
theorem Mn.congr {St' : Nat → Pl} (h : Mn w0 w n N cs St O) (e : ∀ j, j < N → St j = St' j) : Mn w0 w n N cs St' O := by
  obtain ⟨F, h1, h2, h3⟩ := h
  exact ⟨F, fun j hj => by obtain ⟨a, b, c, d⟩ := h1 j hj; exact ⟨a, b, c.trans (e j hj), d⟩, h2, h3⟩
theorem Mn.ob (h : Mn w0 w n N cs St O) : ∀ k, O k → w0.heap.size ≤ k ∧ k < w.heap.size := by
  obtain ⟨F, h1, h2, h3⟩ := h
  exact fun k hk => ⟨(h3 k hk).1, (h3 k hk).2.1⟩
/-- one of them is taken up, and put back -/
theorem Mn.pick {i : Nat} (h : Mn w0 w n N cs St O) (hi : i < N) : ∃ K : Cm, K.C = cfQ n i ∧ K.c = cs i ∧ K.s = St i ∧ CM w0 w K ∧
    (∀ w' s' B, GoesB w0 w K w' s' B → Mn w0 w' n N cs (upQ St i s') (With O B w'.heap.size) ∧ Same O w w') ∧ (∀ w' s', Goes w0 w K w' s' → Mn w0 w' n N cs (upQ St i s') O ∧ Same O w w') := by
  obtain ⟨F, h1, h2, h3⟩ := h
  obtain ⟨a1, a2, a3, a4⟩ := h1 i hi
  have key : ∀ w' s' B, GoesB w0 w (F i) w' s' B → Mn w0 w' n N cs (upQ St i s') (With O B w'.heap.size) ∧ Same O w w' := by
    intro w' s' B g
    obtain ⟨K', e1, e2, e3, e4, g1, g2, g3, g4, g5⟩ := g
    refine ⟨⟨fun j => if j = i then K' else F j, fun j hj => ?_, fun p q hp hq hpq k hk hk2 => ?_, fun k hk => ?_⟩, fun k hk => g2.block k (h3 k hk).2.1 ((h3 k hk).2.2 i hi)⟩
    · unfold upQ
      by_cases e : j = i
      · subst e
        simp only [if_true]
        exact ⟨e2.trans a1, e3.trans a2, e1, g1⟩
      · simp only [if_neg e]
        obtain ⟨b1, b2, b3, b4⟩ := h1 j hj
        exact ⟨b1, b2, b3, b4.keep g2 (fun k hk => (a4.lt hk).1) (fun k hk => h2 j i hj hi e k hk)⟩
    · dsimp only at hk hk2
      by_cases ep : p = i
      · by_cases eq : q = i
        · omega
        · rw [if_pos ep] at hk; rw [if_neg eq] at hk2
          rcases g3 k hk with h5 | h5
          · exact h2 i q hi hq (fun e => eq e.symm) k h5 hk2
          · have := ((h1 q hq).2.2.2.lt hk2).2; omega
      · rw [if_neg ep] at hk
        by_cases eq : q = i
        · rw [if_pos eq] at hk2
          rcases g3 k hk2 with h5 | h5
          · exact h2 p i hp hi ep k hk h5
          · have := ((h1 p hp).2.2.2.lt hk).2; omega
        · rw [if_neg eq] at hk2
          exact h2 p q hp hq hpq k hk hk2
    · rcases hk with hk | ⟨ha, hb⟩
      · refine ⟨(h3 k hk).1, Nat.lt_of_lt_of_le (h3 k hk).2.1 g2.size, fun j hj hk2 => ?_⟩
        dsimp only at hk2
        by_cases e : j = i
        · rw [if_pos e] at hk2
          rcases g3 k hk2 with h5 | h5
          · exact (h3 k hk).2.2 i hi h5
          · have := (h3 k hk).2.1; omega
        · rw [if_neg e] at hk2
          exact (h3 k hk).2.2 j hj hk2
      · refine ⟨by have := a4.be.size; omega, hb, fun j hj hk2 => ?_⟩
        dsimp only at hk2
        by_cases e : j = i
        · rw [if_pos e] at hk2
          have := g4 k hk2; omega
        · rw [if_neg e] at hk2
          have := ((h1 j hj).2.2.2.lt hk2).2; omega
  refine ⟨F i, a1, a2, a3, a4, key, fun w' s' g => ?_⟩
  obtain ⟨q1, q2⟩ := key w' s' w'.heap.size (by
    obtain ⟨K', e1, e2, e3, e4, g1, g2, g3⟩ := g
    exact ⟨K', e1, e2, e3, e4, g1, g2, g3, fun k hk => (g1.lt hk).2, g2.size⟩)
  exact ⟨q1.less fun k hk => .inl hk, q2⟩
/-- behind what turned the law's own blocks alone -/
theorem Mn.turn (h : Mn w0 w n N cs St O) (hb : Below w0.heap.size w0 w) (g : Lv w w' O) (ho : ∀ k, O' k → O k ∨ (w.heap.size ≤ k ∧ k < w'.heap.size)) : Mn w0 w' n N cs St O' := by
  obtain ⟨F, h1, h2, h3⟩ := h
  refine ⟨F, fun j hj => ?_, h2, fun k hk => ?_⟩
  · obtain ⟨b1, b2, b3, b4⟩ := h1 j hj
    exact ⟨b1, b2, b3, b4.keep g (fun k hk => (h3 k hk).1) (fun k hk e => (h3 k e).2.2 j hj hk)⟩
  · rcases ho k hk with e | ⟨e1, e2⟩
    · exact ⟨(h3 k e).1, Nat.lt_of_lt_of_le (h3 k e).2.1 g.size, (h3 k e).2.2⟩
    · exact ⟨Nat.le_trans hb.size e1, e2, fun j hj hk2 => by have := ((h1 j hj).2.2.2.lt hk2).2; omega⟩
/-- one more -/
theorem Mn.push (h : Mn w0 w n N cs St O) (hb : Below w.heap.size w w') (K : Cm) (hC : K.C = cfQ n N) (hs : K.s = St N) (hK : CM w0 w' K) (hn : ∀ k, CB K k → w.heap.size ≤ k) : Mn w0 w' n (N + 1) (fun j => if j = N then K.c else cs j) St O := by
  obtain ⟨F, h1, h2, h3⟩ := h
  refine ⟨fun j => if j = N then K else F j, fun j hj => ?_, fun p q hp hq hpq k hk hk2 => ?_, fun k hk => ⟨(h3 k hk).1, Nat.lt_of_lt_of_le (h3 k hk).2.1 hb.size, fun j hj hk2 => ?_⟩⟩
  · by_cases e : j = N
    · subst e; simp only [if_true]; exact ⟨hC, trivial, hs, hK⟩
    · simp only [if_neg e]
      obtain ⟨b1, b2, b3, b4⟩ := h1 j (by omega)
      exact ⟨b1, b2, b3, b4.belows hb⟩
  · dsimp only at hk hk2
    by_cases ep : p = N
    · rw [if_pos ep] at hk
      rw [if_neg (by omega)] at hk2
      have h5 := hn k hk
      have := ((h1 q (by omega)).2.2.2.lt hk2).2; omega
    · rw [if_neg ep] at hk
      by_cases eq : q = N
      · rw [if_pos eq] at hk2
        have h5 := hn k hk2
        have := ((h1 p (by omega)).2.2.2.lt hk).2; omega
      · rw [if_neg eq] at hk2
        exact h2 p q (by omega) (by omega) hpq k hk hk2
  · dsimp only at hk2
    by_cases e : j = N
    · rw [if_pos e] at hk2
      have := hn k hk2; have := (h3 k hk).2.1; omega
    · rw [if_neg e] at hk2
      exact (h3 k hk).2.2 j (by omega) hk2
end

/-! ### a row of players -/
def PO (w : World) (base : Nat) (v : Value) (ps : List Nat) : Prop := w.ownsRow base 23 1 v ps.length (ps.map fun p => pB p)
def rowO (v : Value) (k : Nat) : Prop := v.ownBlock = some k
theorem core_ptr_info : ∃ i0, Tryd.prog.info? 23 = some i0 ∧ i0.zero = some (.pointer none) ∧ i0.size = 1 ∧ i0.bytes = 8 :=
  info_parts (show (Tryd.prog.info? 23).map (fun i => (i.zero, i.size, i.bytes)) = some (some (.pointer none), 1, 8) from by kernel_rfl)
theorem PO.at {w : World} {base : Nat} {v : Value} {ps : List Nat} (h : PO w base v ps) : ∃ A cap, v = .slice A ps.length cap ∧ ∀ (j p : Nat), ps[j]? = some p → ∃ b, A = some ⟨b, 0, none⟩ ∧ rowO v b ∧ b < w.heap.size ∧ w.cell? ⟨b, j, none⟩ = some (pB p) := by
  rcases h.2 with ⟨hv, h0⟩ | ⟨g, cap, cur, hv, h1, h2, h3, h4, h5, h6⟩
  · exact ⟨none, 0, by rw [hv, h0], fun j x hx => by have := (List.getElem?_eq_some_iff.1 hx).1; omega⟩
  · refine ⟨_, cap, hv, fun j p hx => ⟨g, rfl, by rw [hv]; rfl, (Array.getElem?_eq_some_iff.1 h2).1, ?_⟩⟩
    have hj := (List.getElem?_eq_some_iff.1 hx).1
    have e : (cur.toList.take (ps.length * 1))[j]? = some (pB p) := by rw [h6, List.getElem?_map, hx]; rfl
    rw [List.getElem?_take_of_lt (by omega), Array.getElem?_toList] at e
    rw [cell_of_row w g j _ _ _ h2, e]
theorem wpList_append_ptr {w : World} {ops : Array Oper} {rest : List Oper} {o : Oper} {a : Act} {Q : Exit → Act → World → Prop} (hgd : o.guard = none) (s x : Operand)
    (ho : o.op = .call { callee := .builtin .append, args := #[s, x], argTypes := #[61, 61] })
    (base : Nat) (v : Value) (xs : List Nat) (y : Nat) (hs : a.eval s = v) (hown : PO (w.alloc (.cells #[pB y] 23)) base v xs) (hx : a.eval x = .slice (some ⟨w.heap.size, 0, none⟩) 1 1) (hlen : xs.length ≤ 1000) (hbase : base ≤ w.heap.size)
    (h : ∀ v' w', PO w' base v' (xs ++ [y]) → (w.alloc (.cells #[pB y] 23)).grownBy w' v.ownBlock → (v'.ownBlock = v.ownBlock ∨ v'.ownBlock = some (w.heap.size + 1)) → wpList Tryd.prog ops Q rest (a.put o.dst v') w') : wpList Tryd.prog ops Q (o :: rest) a (w.alloc (.cells #[pB y] 23)) := by
  obtain ⟨i0, hi0, hz0, hz1, hz2⟩ := core_ptr_info
  refine wpList_append_own_at (P := Tryd.prog) _ hgd s x 61 ho base 23 i0 (.pointer none) 1 8 Tryd.underlying61 hi0 hz0 hz1 hz2 rfl (by decide) v xs.length _ hs hown ⟨w.heap.size, 0, none⟩ 1 1 [pB y] hx rfl (cell_one_new _ _ _) (by simp [Value.oneCell', pB]) (by unfold maxLen; omega) (by omega) (by rw [World.size_alloc]; omega) ?_
  intro v' w' h1 h2 _ h4
  refine h v' w' ?_ h2 (by rw [World.size_alloc] at h4; exact h4)
  unfold PO
  rw [List.length_append, List.map_append]
  exact h1

/-! ### CoreQuit, plainly -/
abbrev pkQ (n who t : Nat) : Pk := ⟨2, (who : Int), (t : Int), 4, 0, 0, 0, 0, []⟩
def sqQ (n who : Nat) : Pl := { newP (cfQ n who) with cl := true }
def xsQ (n who : Nat) : List (Nat × List UInt8) := (otN who n).map fun i => (i, encC 2 (who : Int) (i : Int) 4 0 0 0 0 [])
theorem quit_eq (n who : Nat) : quitP (cfQ n who) (newP (cfQ n who)) = (xsQ n who, sqQ n who) := rfl
theorem quit2_eq (n who : Nat) : quitP (cfQ n who) (sqQ n who) = ([], sqQ n who) := rfl
theorem tick2_eq (n who : Nat) : tickP (cfQ n who) (sqQ n who) = ([], sqQ n who) := rfl
theorem press2_eq (n who : Nat) (b : UInt8) : pressP (cfQ n who) (sqQ n who) b = (6, sqQ n who) := rfl
theorem told2_eq (n who : Nat) : toldP (sqQ n who) = sqQ n who := rfl
def rcQ (n t who : Nat) : Pl := { hearP (newP (cfQ n t)) who with es := [.q who], cl := true }
theorem rcQ_eq (n t who : Nat) (hw : who < n) : recvP (cfQ n t) (newP (cfQ n t)) (some (pkQ n who t)) = (0, rcQ n t who) := by
  unfold recvP
  rw [if_neg (show ¬ (newP (cfQ n t)).cl = true from fun e => by cases e)]
  show (if forMe (cfQ n t) (pkQ n who t) then _ else _) = _
  rw [if_pos (show forMe (cfQ n t) (pkQ n who t) from ⟨rfl, by show (who : Int) < (n : Int); omega, rfl⟩)]
  unfold tellP
  rw [if_neg (show ¬ (pkQ n who t).k = 1 by show ¬ (2 : Int) = 1; decide)]
  have e : ({ hearP (newP (cfQ n t)) (pkQ n who t).f.toNat with es := (hearP (newP (cfQ n t)) (pkQ n who t).f.toNat).es ++ [.q (pkQ n who t).f.toNat], cl := true } : Pl) = rcQ n t who := by
    show ({ hearP (newP (cfQ n t)) ((who : Int)).toNat with es := [] ++ [.q ((who : Int)).toNat], cl := true } : Pl) = _
    rw [Int.toNat_natCast]; rfl
  rw [e]
  show (0, heldN (rcQ n t who) n) = _
  rw [held_same (fun x _ hb => by have h1 := hb.2.1; have h2 : x.fr ≤ 0 := hb.2.2.1; omega)]
theorem rcQ_recv (n t who : Nat) (o : Option Pk) : recvP (cfQ n t) (toldP (rcQ n t who)) o = (6, toldP (rcQ n t who)) := by
  unfold recvP
  rw [if_pos (show (toldP (rcQ n t who)).cl = true from rfl)]
theorem newQ_ok (n t : Nat) : Ok (cfQ n t) 0 (newP (cfQ n t)) := Ok.new _ (by show 0 ≤ 8; omega)
theorem sqQ_ok (n t : Nat) : Ok (cfQ n t) 0 (sqQ n t) := (newQ_ok n t).quit
theorem rcQ_ok (n t who : Nat) (h8 : n ≤ 8) (hw : who < n) : Ok (cfQ n t) 1 (rcQ n t who) := by
  have := (newQ_ok n t).recv h8 (some (pkQ n who t)) (fun p hp => by obtain rfl := Option.some.inj hp; exact ⟨(by show (0 : Int) ≤ 1000; omega), (by show (0 : Int) ≤ 1000; omega), (by show (0 : Int) ≤ 0; omega), (by show (0 : Int) ≤ 4294967295; omega)⟩)
  rw [rcQ_eq n t who hw] at this
  exact this
theorem isQ {n who t : Nat} (h1 : who ≤ 7) (h2 : t ≤ 7) (h3 : who ≠ t) : IsK (encC 2 (who : Int) (t : Int) 4 0 0 0 0 []) (pkQ n who t) := by
  have hm : mayC 2 (who : Int) (t : Int) 4 0 0 0 0 0 := by unfold mayC; omega
  exact ⟨hm, ⟨(by show (0 : Int) ≤ 0; omega), (by show (0 : Int) ≤ 4294967295; omega)⟩, by unfold encC; rw [if_pos (show mayC 2 (who : Int) (t : Int) 4 0 0 0 0 ([] : List UInt8).length from hm)]; rfl⟩
theorem otN_length (who n : Nat) (h : who < n) (h8 : n ≤ 8) : (otN who n).length = n - 1 := by
  have key : ∀ n, n ≤ 8 → ∀ who, who < n → (otN who n).length = n - 1 := by decide
  exact key n h8 who h
end Go.Proofs.YtclgcfofgiejgaaDoor
