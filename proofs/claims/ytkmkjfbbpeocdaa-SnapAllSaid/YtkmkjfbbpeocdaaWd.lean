/- WALKS over package snap: add, New. -/
import Derived.Test.YtkmkjfbbpeocdaaWc
namespace Go.Proofs.Ytkmkjfbbpeocdaa
set_option maxRecDepth 100000
open Go.RowKit Go.Maps
set_option linter.unusedVariables false
set_option linter.unusedSimpArgs false

theorem SM.add {w w' : World} {S P A M : Nat} {l : List Sh} {L : List Pc} (h : SM w S P A M l L) (b : Nat) (f : Nat → Int) (hb : w.heap.size ≤ b) (n : Int) (hn : n = (L.length : Int) + 1)
    (hrow : w'.heap[S]? = some (.cells (stA P M l.length n) 66 (0, 0))) (hp : PB w' ⟨b, 1, f⟩)
    (hm : ∃ D, w'.ownsMap Try.prog 40 ptrR M (L.length + 1) D ∧ MapOf D (L ++ [⟨b, 1, f⟩]))
    (hos : w'.os = w.os) (htape : w'.tape = w.tape) (hout : w'.output = w.output) (hsz : w.heap.size ≤ w'.heap.size)
    (hk : ∀ k, k < w.heap.size → k ≠ S → k ≠ M → w'.heap[k]? = w.heap[k]?) : Upt w w' S P A M L l (L ++ [⟨b, 1, f⟩]) := by
  refine ⟨⟨?_, ?_, ?_, fun k c hc hr => ?_, fun j k c d hj hk2 hc hd e => ?_, h.ne⟩, ⟨hos, htape, hout, hsz, fun k hlt hx => hk k hlt (fun e => hx (.inl e)) (fun e => hx (.inr (.inr (.inr (.inl e)))))⟩, fun b2 hs => ?_⟩
  · rw [show (((L ++ [(⟨b, 1, f⟩ : Pc)]).length : Nat) : Int) = n by simp [hn]]; exact hrow
  · exact h.rm.same (hk P h.rm.lt (fun e => h.ne.1 e.symm) h.ne.2.2.2.1) (hk A h.rm.row.lt (fun e => h.ne.2.1 e.symm) h.ne.2.2.2.2)
  · obtain ⟨D, h1, h2⟩ := hm
    exact ⟨D, by rw [List.length_append]; exact h1, h2⟩
  · rcases get_snoc hc with h1 | ⟨_, rfl⟩
    · have h2 := h.pics k c h1 hr
      exact ⟨(hk c.b h2.1.lt h2.2.1 h2.2.2.2.2).trans h2.1, h2.2⟩
    · have e1 := h.ltS; have e2 := h.rm.lt; have e3 := h.rm.row.lt; have e4 := h.ltM
      refine ⟨hp, ?_, ?_, ?_, ?_⟩
      · show b ≠ S; omega
      · show b ≠ P; omega
      · show b ≠ A; omega
      · show b ≠ M; omega
  · rcases get_snoc hj with h1 | ⟨rfl, rfl⟩
    · rcases get_snoc hk2 with h2 | ⟨rfl, rfl⟩
      · exact h.inj j k c d h1 h2 hc hd e
      · have := (h.pics j c h1 hc).1.lt
        have e2 : c.b = b := e
        omega
    · rcases get_snoc hk2 with h2 | ⟨rfl, rfl⟩
      · have := (h.pics k d h2 hd).1.lt
        have e2 : b = d.b := e
        omega
      · rfl
  · rcases hs with h1 | h1 | h1 | h1 | ⟨k, c, hc, hr, rfl⟩
    · exact .inl (.inl h1)
    · exact .inl (.inr (.inl h1))
    · exact .inl (.inr (.inr (.inl h1)))
    · exact .inl (.inr (.inr (.inr (.inl h1))))
    · rcases get_snoc hc with h1 | ⟨_, rfl⟩
      · exact .inl (.inr (.inr (.inr (.inr ⟨k, c, h1, hr, rfl⟩))))
      · exact .inr hb
theorem infoPic : (Try.prog.info? 78).map (·.size) = some 5 := by kernel_rfl
theorem infoQ4 : (Try.prog.info? 67).map (·.size) = some 4 := by kernel_rfl
set_option maxHeartbeats 1000000 in
theorem add_any (w : World) (S P A M : Nat) (l : List Sh) (L : List Pc) (h : SM w S P A M l L) (hl : L.length ≤ 1000) (f : Nat → Int) (x : Int) (hx : x = L.length + 1) :
    Calls Try.prog 36 #[.pointer (some ⟨S, 0, none⟩), .agg (q4A f)] w fun e w' => e = .returned (.int .i64 x) ∧ ∃ b, Upt w w' S P A M L l (L ++ [⟨b, 1, f⟩]) := by
  obtain ⟨W0, hW0⟩ : ∃ W0, W0 = w.setCell ⟨S, 2, none⟩ (.int .i64 x) := ⟨_, rfl⟩
  obtain ⟨W1, hW1⟩ : ∃ W1, W1 = W0.alloc (.cells (q4A f) 67) := ⟨_, rfl⟩
  obtain ⟨W2, hW2⟩ : ∃ W2, W2 = (W1.alloc (.cells (pcA 1 f) 78)).drew := ⟨_, rfl⟩
  have hS := h.ltS
  have hM := h.ltM
  have s0 : W0.heap.size = w.heap.size := by rw [hW0]; simp [World.setCell]
  have s1 : W1.heap.size = w.heap.size + 1 := by rw [hW1]; simp [s0]
  have r0 : W0.heap[S]? = some (.cells (stA P M l.length x) 66 (0, 0)) := by
    rw [hW0]
    simp only [World.setCell, Array.getElem?_modify, if_true, h.row, Option.map_some]
    rfl
  have k0 : ∀ k, k < w.heap.size → k ≠ S → W0.heap[k]? = w.heap[k]? := fun k hk hn => by
    rw [hW0]; exact Below.heap_setCell w ⟨S, 2, none⟩ (.int .i64 x) k hn
  have k2 : ∀ k, k < w.heap.size → W2.heap[k]? = W0.heap[k]? := fun k hk => by
    rw [hW2]
    exact (Below.heap_alloc W1 _ _ (by omega)).trans (by rw [hW1]; exact Below.heap_alloc W0 _ _ (by omega))
  obtain ⟨D, hD, hMo⟩ := h.map
  have hD2 : W2.ownsMap Try.prog 40 ptrR M L.length D := ownsMap_same hD ((k2 M hM).trans (k0 M hM (fun e => h.ne.2.2.1 e.symm)))
  obtain ⟨W3, hrun, hD3, hg3⟩ := hD2.update (int_keyed Try.underlying40) Try.underlying64 (by unfold maxLen; omega) (keyOf_int_mk Try.underlying40 (kl_wf (x := x) (by omega) (by omega))) (show ptrR (.pointer (some ⟨w.heap.size + 1, 0, none⟩)) = some (.lit (.int .u64 (w.heap.size + 1 : Nat)), []) from rfl)
  have s2 : W2.heap.size = w.heap.size + 2 := by rw [hW2]; show (W1.alloc _).heap.size = _; simp [s1]
  have HF := Lib.hid (h.add (w' := W3) (w.heap.size + 1) f (by omega) x hx
    ((hg3.block S (by omega) (fun e => h.ne.2.2.1 (Option.some.inj e))).trans ((k2 S hS).trans r0))
    ((hg3.block (w.heap.size + 1) (by omega) (fun e => by have := Option.some.inj e; omega)).trans (by rw [hW2, ← s1]; exact heap_alloc_last W1 _))
    ⟨_, hD3, hMo.put hD.isMap ⟨w.heap.size + 1, 1, f⟩ (show (0 : Int) < 1 by decide) x hx⟩
    (hg3.os.trans (by rw [hW2, hW1, hW0]; rfl)) (hg3.tape.trans (by rw [hW2, hW1, hW0]; rfl)) (hg3.output.trans (by rw [hW2, hW1, hW0]; rfl)) (Nat.le_trans (by omega) hg3.size)
    (fun k hk hn1 hn2 => (hg3.block k (by omega) (fun e => hn2 (Option.some.inj e))).trans ((k2 k hk).trans (k0 k hk hn1))))
  have c2 := h.c2
  have c3 := h.c3
  have f2 := h.fz 2
  have g2 : W3.cell? ⟨S, 2, none⟩ = some (.int .i64 x) := HF.out.sm.c2.trans (by simp [hx])
  have hxl : (L.length : Int) + 1 = x := hx.symm
  have hx0 : 0 ≤ x := by omega
  have hx1 : x ≤ 1001 := by omega
  have hl2 : (L.length : Int) ≤ 1000 := by omega
  have hl3 : 0 ≤ (L.length : Int) := by omega
  clear h hD hMo hD2 hD3 hg3 k0 k2 r0 hx hl
  generalize (L.length : Int) = N at *
  subst hW2 hW1 hW0
  clear s0 s1 s2
  unfold pcA q4A q4L at *
  generalize f 0 = y0 at *
  generalize f 1 = y1 at *
  generalize f 2 = y2 at *
  generalize f 3 = y3 at *
  go_enter Try.func36, Try.ntmps36
  go_wp2_with fail
  go_region
  go_wp2
  go_ret
  exact ⟨rfl, _, HF.out⟩
end Go.Proofs.Ytkmkjfbbpeocdaa
