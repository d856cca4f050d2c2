/- PLAIN: CoreApart's marks and words; the list of marks. -/
import Derived.Test.YtclgcfofgiejgaaDoorCox
import Derived.Test.YtclgcfofgiejgaaDoorKu
namespace Go.Proofs.YtclgcfofgiejgaaDoor
set_option maxRecDepth 100000
open Go.RowKit
set_option linter.unusedVariables false
set_option linter.unusedSimpArgs false

abbrev cfA21 : Cf := cfG 3 0 3 0 16
abbrev pkA21 (F : Nat) (S : Int) : Pk := ⟨1, 2, 0, 3, 0, 0, F, S, []⟩
/-- three players; the last one's word, told or not -/
def stA (fr : Nat) (su : Int) (ap : Bool) (ms : List Int) (es : List Ev) : Pl := ⟨[[], [], []], 0, [⟨0, 0, 0, 0, false⟩, ⟨0, 0, 0, 0, false⟩, ⟨0, 0, fr, su, ap⟩], ms, es, false⟩
def BadA (F : Nat) (S : Int) (ms : List Int) : Prop := F ≤ ms.length ∧ ms[F - 1]? ≠ some S
instance (F : Nat) (S : Int) (ms : List Int) : Decidable (BadA F S ms) := by unfold BadA; exact inferInstance
def stX (F : Nat) (S : Int) (ms : List Int) : Pl := if BadA F S ms then stA F S true ms [.a 2 F] else stA F S false ms []
theorem stA_new : newP cfA21 = stA 0 0 false [] [] := rfl
theorem heldA (fr : Nat) (su : Int) (ap : Bool) (ms : List Int) (es : List Ev) : heldN (stA fr su ap ms es) 3 = if ap = false ∧ 1 ≤ fr ∧ BadA fr su ms then stA fr su true ms (es ++ [.a 2 fr]) else stA fr su ap ms es := by
  have h0 : ∀ x : Pr, x.fr = 0 → ¬ Bad (stA fr su ap ms es) x := fun x hx hb => by have := hb.2.1; omega
  rw [heldN_succ, heldN_succ, heldN_succ]
  have e0 : heldAt (heldN (stA fr su ap ms es) 0) 0 = stA fr su ap ms es := heldAt_off (s := stA fr su ap ms es) (x := ⟨0, 0, 0, 0, false⟩) rfl (h0 _ rfl)
  rw [e0]
  have e1 : heldAt (stA fr su ap ms es) 1 = stA fr su ap ms es := heldAt_off (s := stA fr su ap ms es) (x := ⟨0, 0, 0, 0, false⟩) rfl (h0 _ rfl)
  rw [e1]
  show (if Bad (stA fr su ap ms es) ⟨0, 0, fr, su, ap⟩ then _ else _) = _
  by_cases hb : ap = false ∧ 1 ≤ fr ∧ BadA fr su ms
  · rw [if_pos hb, if_pos (show Bad (stA fr su ap ms es) ⟨0, 0, fr, su, ap⟩ from ⟨hb.1, hb.2.1, hb.2.2.1, hb.2.2.2⟩)]
    rfl
  · rw [if_neg hb, if_neg (show ¬ Bad (stA fr su ap ms es) ⟨0, 0, fr, su, ap⟩ from fun h => hb ⟨h.1, h.2.1, h.2.2.1, h.2.2.2⟩)]
theorem stX_held (F : Nat) (S : Int) (ms : List Int) (hF : 1 ≤ F) : heldN (stA F S false ms []) 3 = stX F S ms := by
  rw [heldA]
  unfold stX
  by_cases hb : BadA F S ms
  · rw [if_pos ⟨rfl, hF, hb⟩, if_pos hb]; rfl
  · rw [if_neg (fun h => hb h.2.2), if_neg hb]
theorem stX_mark (F : Nat) (S : Int) (ms : List Int) (hF : 1 ≤ F) (hl : ms.length < 1000) (v : Int) : markP cfA21 (stX F S ms) v = stX F S (ms ++ [v]) := by
  by_cases hb : BadA F S ms
  · have hb' : BadA F S (ms ++ [v]) := ⟨by have := hb.1; simp; omega, by rw [List.getElem?_append_left (by have := hb.1; omega)]; exact hb.2⟩
    unfold stX
    rw [if_pos hb, if_pos hb']
    unfold markP
    rw [if_pos (show (stA F S true ms [.a 2 F]).ms.length < 1000 from hl)]
    show heldN (stA F S true (ms ++ [v]) [.a 2 F]) 3 = _
    rw [heldA, if_neg (fun h => by cases h.1)]
  · have e : stX F S ms = stA F S false ms [] := by unfold stX; rw [if_neg hb]
    rw [e]
    unfold markP
    rw [if_pos (show (stA F S false ms []).ms.length < 1000 from hl)]
    exact stX_held F S (ms ++ [v]) hF
theorem stA_mark (ms : List Int) (hl : ms.length < 1000) (v : Int) : markP cfA21 (stA 0 0 false ms []) v = stA 0 0 false (ms ++ [v]) [] := by
  unfold markP
  rw [if_pos (show (stA 0 0 false ms []).ms.length < 1000 from hl)]
  show heldN (stA 0 0 false (ms ++ [v]) []) 3 = _
  rw [heldA, if_neg (fun h => by have := h.2.1; omega)]
theorem stA_recv (fr F : Nat) (su S : Int) (ap : Bool) (ms : List Int) (es : List Ev) (hf : fr ≤ F) (hF : 1 ≤ F) : recvP cfA21 (stA fr su ap ms es) (some (pkA21 F S)) = (0, heldN (stA F S ap ms es) 3) := by
  rw [recv_in rfl ⟨rfl, show (2 : Int) < 3 by decide, rfl⟩ rfl]
  have hl : learnP cfA21 (hearP (stA fr su ap ms es) (pkA21 F S).f.toNat) (pkA21 F S) = stA F S ap ms es := by
    show (⟨[[], [], []], 0, [⟨0, 0, 0, 0, false⟩, ⟨0, 0, 0, 0, false⟩, learnPr 0 ⟨0, 0, fr, su, ap⟩ (pkA21 F S)], ms, es, false⟩ : Pl) = _
    unfold learnPr
    dsimp only
    rw [if_pos (by decide), if_pos (by omega), if_pos (by omega)]; rfl
  rw [hl]
  rfl
theorem stA_recv0 (F : Nat) (S : Int) (ms : List Int) (hF : 1 ≤ F) : recvP cfA21 (stA 0 0 false ms []) (some (pkA21 F S)) = (0, stX F S ms) := by
  rw [stA_recv 0 F 0 S false ms [] (by omega) hF, stX_held F S ms hF]
theorem stX_recv (F : Nat) (S : Int) (ms : List Int) (hF : 1 ≤ F) : recvP cfA21 (stX F S ms) (some (pkA21 F S)) = (0, stX F S ms) := by
  by_cases hb : BadA F S ms
  · have e : stX F S ms = stA F S true ms [.a 2 F] := by unfold stX; rw [if_pos hb]
    rw [e, stA_recv F F S S true ms [.a 2 F] (Nat.le_refl _) hF, heldA, if_neg (fun h => by cases h.1)]
  · have e : stX F S ms = stA F S false ms [] := by unfold stX; rw [if_neg hb]
    rw [e, stA_recv F F S S false ms [] (Nat.le_refl _) hF, stX_held F S ms hF, e]
theorem stA_ok (fr : Nat) (su : Int) (ap : Bool) (ms : List Int) (es : List Ev) (hf : fr ≤ 1000) (hs : 0 ≤ su ∧ su ≤ 4294967295) (h1 : ms.length ≤ 1000) (h2 : ∀ m ∈ ms, 0 ≤ m ∧ m ≤ 4294967295) (he : es.length ≤ 10) : Ok cfA21 1 (stA fr su ap ms es) := by
  refine ⟨rfl, fun l hl => ?_, rfl, fun x hx => ?_, by show 0 ≤ 1; omega, h1, h2, he⟩
  · have : l = [] := by simpa [stA] using hl
    subst this; simp
  · have hx2 : x = ⟨0, 0, 0, 0, false⟩ ∨ x = ⟨0, 0, fr, su, ap⟩ := by simpa [stA] using hx
    rcases hx2 with rfl | rfl
    · exact ⟨by show 0 ≤ 1; omega, by decide, by decide, by decide, by decide⟩
    · exact ⟨by show 0 ≤ 1; omega, by show 0 ≤ 1000; omega, hf, hs.1, hs.2⟩
theorem stX_ok (F : Nat) (S : Int) (ms : List Int) (hf : F ≤ 1000) (hs : 0 ≤ S ∧ S ≤ 4294967295) (h1 : ms.length ≤ 1000) (h2 : ∀ m ∈ ms, 0 ≤ m ∧ m ≤ 4294967295) : Ok cfA21 1 (stX F S ms) := by
  unfold stX
  split
  · exact stA_ok F S true ms _ hf hs h1 h2 (by show 1 ≤ 10; omega)
  · exact stA_ok F S false ms _ hf hs h1 h2 (by show 0 ≤ 10; omega)
/-- a packet of the laws', written, its bytes the law's own -/
theorem refpk_own (f t : Nat) (id : Int) (ac fr : Nat) (su : Int) (h8 : 0 ≤ su ∧ su ≤ 4294967295) (L : Nat) (hL : (encC 1 f t id 0 ac fr su []).length = L) (W : World) :
    Calls Tryd.prog 15 #[pkV 1 (f : Int) (t : Int) id 0 none 0 0 (ac : Int) (fr : Int) su] W fun e w' => ∃ A c, e = .returned (.slice A L c) ∧ L ≤ c ∧ c ≤ maxLen ∧ (∀ wx, (∀ k, W.heap.size ≤ k → k < w'.heap.size → wx.heap[k]? = w'.heap[k]?) → RB wx wx.heap.size A (encC 1 f t id 0 ac fr su [])) ∧ Below W.heap.size W w' :=
  (refpacket_any 1 f t id 0 none [] 0 0 ac fr su W (RB.nil _ _ _) rfl (Nat.le_refl _) (by unfold maxLen; omega) h8.1 h8.2).mono fun e w' ⟨v, he, ho, hb⟩ => by
    obtain ⟨A, c, rfl, q1, q2, q3⟩ := ho.form_n L hL
    exact ⟨A, c, he, q1, q2, fun wx S => (ho.same fun k hk => S k (ho.lt k hk).1 (ho.lt k hk).2).cells, hb⟩
end Go.Proofs.YtclgcfofgiejgaaDoor
