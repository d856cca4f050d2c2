/- QueueAll: both lines as one fact; an operation loaded out of the list. -/
import Derived.Test.YtomiligjcpmnjaaXk
import Derived.Test.YtomiligjcpmnjaaXl
namespace Go.Proofs.Ytomiligjcpmnjaa
set_option maxRecDepth 100000
open Go.RowKit
set_option linter.unusedVariables false
set_option linter.unusedSimpArgs false

theorem LR.less {w : World} {base b' : Nat} {v : Value} {ms : List Rl} (h : LR w base v ms) (hb : b' ≤ base) : LR w b' v ms := by
  refine ⟨⟨h.row.1, ?_⟩, fun m hm => ⟨(h.line m hm).1.less hb, (h.line m hm).2⟩, h.inj⟩
  rcases h.row.2 with h0 | ⟨g, cap, cur, hv, hg, h2⟩
  · exact .inl h0
  · exact .inr ⟨g, cap, cur, hv, by omega, h2⟩
/-- the queue and the document's lines say the same -/
def Bth (w0 w : World) (q r n : Nat) (v : Value) (xs : List Ln) (ms : List Rl) : Prop := QF w0 w q r xs (LB v ms) ∧ LR w w0.heap.size v ms ∧ xs.length = n ∧ ms.map Rl.l = xs.map Ln.l
section
variable {w0 w w' : World} {q r n : Nat} {v : Value} {xs : List Ln} {ms : List Rl}
theorem Bth.belows (h : Bth w0 w q r n v xs ms) (hb : Below w.heap.size w w') : Bth w0 w' q r n v xs ms := ⟨h.1.belows hb, h.2.1.belows hb, h.2.2⟩
theorem Bth.drew (h : Bth w0 w q r n v xs ms) : Bth w0 w.drew q r n v xs ms := h.belows (Below.refl _ _).drew
theorem Bth.mlen (h : Bth w0 w q r n v xs ms) : ms.length = n := by
  have := congrArg List.length h.2.2.2
  rw [List.length_map, List.length_map] at this
  exact this.trans h.2.2.1
theorem Bth.small (h : Bth w0 w q r n v xs ms) : ∀ m ∈ ms, m.l.length ≤ 1000 := fun m hm => by
  have h1 : m.l ∈ ms.map Rl.l := List.mem_map_of_mem hm
  rw [h.2.2.2] at h1
  obtain ⟨x, hx, e⟩ := List.mem_map.1 h1
  rw [← e]
  exact (h.1.qm.ls.line x hx).2.1
theorem Bth.front (h : Bth w0 w q r n v xs ms) : frontP (ms.map Rl.l) = frontN xs := by rw [frontN_P, h.2.2.2]
theorem Bth.ahead (h : Bth w0 w q r n v xs ms) (j : Nat) (hj : j < frontN xs) : ∀ m ∈ ms, j < m.l.length := fun m hm => by
  have h1 : m.l ∈ ms.map Rl.l := List.mem_map_of_mem hm
  rw [h.2.2.2] at h1
  obtain ⟨x, hx, e⟩ := List.mem_map.1 h1
  rw [← e]
  have := frontN_mem xs x hx
  omega
end
/-- the law's operation, whatever player it names -/
theorem do_grow (w0 w : World) (q r : Nat) (xs : List Ln) (g n c0 : Nat) (ms : List Rl) (H : Bth w0 w q r n (.slice (some ⟨g, 0, none⟩) n c0) xs ms) (hn8 : n ≤ 8)
    (k p f : Int) (A : Option Addr) (l : List UInt8) (N cap : Nat) (hN : l.length = N) (hc : N ≤ cap) (hm : cap ≤ maxLen) (hr : RB w0 w0.heap.size A l) :
    Calls Try.prog 12 #[pB q, .slice (some ⟨g, 0, none⟩) n c0, opV k p f A N cap] w fun e w' => e = .returned (.bool true) ∧ ∃ xs' ms', Bth w0 w' q r n (.slice (some ⟨g, 0, none⟩) n c0) xs' ms' ∧ Grow xs xs' := by
  by_cases hp : p < 0 ∨ (n : Int) ≤ p
  · exact (do_out w q r xs H.1.qm n H.2.2.1 k p f _ c0 A l N cap hN hc hm hp).mono fun e w' ⟨he, hb⟩ => ⟨he, xs, ms, H.belows hb, fun M hM x hx => by have := hM x hx; omega⟩
  · obtain ⟨j, rfl⟩ : ∃ j : Nat, p = j := ⟨p.toNat, by omega⟩
    exact (do_in w0 w q r xs g n c0 ms H.1 H.2.1 H.2.2.1 H.2.2.2 hn8 k f A l N cap hN hc hm hr j (by omega)).mono fun e w' ⟨he, xs', ms', h1, h2, h3, h4, h5⟩ => ⟨he, xs', ms', ⟨h1, h2, h3, h4⟩, h5⟩
/-- the law's operation, whatever player it names -/
theorem do_any (w0 w : World) (q r : Nat) (xs : List Ln) (g n c0 : Nat) (ms : List Rl) (H : Bth w0 w q r n (.slice (some ⟨g, 0, none⟩) n c0) xs ms) (hn8 : n ≤ 8)
    (k p f : Int) (A : Option Addr) (l : List UInt8) (N cap : Nat) (hN : l.length = N) (hc : N ≤ cap) (hm : cap ≤ maxLen) (hr : RB w0 w0.heap.size A l) :
    Calls Try.prog 12 #[pB q, .slice (some ⟨g, 0, none⟩) n c0, opV k p f A N cap] w fun e w' => e = .returned (.bool true) ∧ ∃ xs' ms', Bth w0 w' q r n (.slice (some ⟨g, 0, none⟩) n c0) xs' ms' := (do_grow w0 w q r xs g n c0 ms H hn8 k p f A l N cap hN hc hm hr).mono fun e w' ⟨he, xs', ms', h1, _⟩ => ⟨he, xs', ms', h1⟩
theorem op4_size : (Try.prog.info? 34).map (·.size) = some 4 := by kernel_rfl
/-- an operation loaded out of the list -/
theorem run_load_op (w : World) (g o : Nat) {q : O4} (h : at4 w g o q) :
    (loadVar 34 ⟨g, o, none⟩).run Try.prog w = .ok (opV q.k q.p q.f q.a q.l.length q.cap) w := by
  obtain ⟨c0, c1, c2, c3⟩ := h
  have hl : (loadCells ⟨g, o, none⟩ 4).run Try.prog w = .ok #[.int .i64 q.k, .int .i64 q.p, .int .i64 q.f, .slice q.a q.l.length q.cap] w :=
    run_loadCells_list (P := Try.prog) w ⟨g, o, none⟩ [.int .i64 q.k, .int .i64 q.p, .int .i64 q.f, .slice q.a q.l.length q.cap] (fun j v hv => by
      have hj : j < 4 := (List.getElem?_eq_some_iff.1 hv).1
      rw [Addr.add_lit]
      obtain rfl | rfl | rfl | rfl : j = 0 ∨ j = 1 ∨ j = 2 ∨ j = 3 := by omega
      · rw [Nat.add_zero, c0]; exact hv
      · rw [c1]; exact hv
      · rw [c2]; exact hv
      · rw [c3]; exact hv)
  have hq := op4_size
  cases hi : Try.prog.info? 34 with
  | none => rw [hi] at hq; simp at hq
  | some i =>
    have hs : i.size = 4 := by rw [hi] at hq; simpa using hq
    have hagg : (isAgg 34).run Try.prog w = .ok true w := by
      unfold isAgg
      rw [Sem.run_bind, run_underlying Try.underlying34 w]
      rfl
    simp [loadVar, Sem.run_bind, hagg, sizeOf, typeInfo, hi, hs, hl]
theorem wpList_load_op {w : World} {ops : Array Oper} {rest : List Oper} {o : Oper} {a : Act} {Q : Exit → Act → World → Prop} (hgd : o.guard = none) (x : Operand) (ho : o.op = .load 34 x)
    (g off : Nat) (hx : a.eval x = .pointer (some ⟨g, off, none⟩)) {q : O4} (h : at4 w g off q)
    (hk : wpList Try.prog ops Q rest (a.put o.dst (opV q.k q.p q.f q.a q.l.length q.cap)) w) : wpList Try.prog ops Q (o :: rest) a w := by
  refine wpList_plain hgd fun K hK => ?_
  have hrun := run_load_op w g off h
  unfold Oper.wp execOp
  simp only [ho, hx, Instr.loadAt, Instr.sureAddr, Sem.run_bind, Sem.run_pure, Result.andThen_ok, hrun]
  exact hK _ _ hk
end Go.Proofs.Ytomiligjcpmnjaa
