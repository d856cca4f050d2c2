/- MEMORY: the law's memory made of a game; a game loaded out of it. -/
import Derived.Test.YtkfbepkejdmaeaaMp
namespace Go.Proofs.Ytkfbepkejdmaeaa
set_option maxRecDepth 100000
open Go.RowKit
set_option linter.unusedVariables false

theorem built_mem (x0 x1 x2 x3 x4 x5 x6 x7 x8 x9 x10 x11 x12 x13 x14 x15 x16 x17 x18 x19 x20 x21 x22 x23 x24 x25 x26 x27 x28 x29 x30 x31 : Int) : Try.prog.built 39 [(0, .agg (gC [x0, x1, x2, x3, x4, x5, x6, x7, x8, x9, x10, x11, x12, x13, x14, x15, x16, x17, x18, x19, x20, x21, x22, x23, x24, x25, x26, x27, x28, x29, x30, x31]))] = some (gM [x0, x1, x2, x3, x4, x5, x6, x7, x8, x9, x10, x11, x12, x13, x14, x15, x16, x17, x18, x19, x20, x21, x22, x23, x24, x25, x26, x27, x28, x29, x30, x31] [.bool false]) := by kernel_rfl
theorem list32 {g : List Int} (h : g.length = 32) : ∃ x0 x1 x2 x3 x4 x5 x6 x7 x8 x9 x10 x11 x12 x13 x14 x15 x16 x17 x18 x19 x20 x21 x22 x23 x24 x25 x26 x27 x28 x29 x30 x31 : Int, g = [x0, x1, x2, x3, x4, x5, x6, x7, x8, x9, x10, x11, x12, x13, x14, x15, x16, x17, x18, x19, x20, x21, x22, x23, x24, x25, x26, x27, x28, x29, x30, x31] := by
  obtain ⟨x0, g0, e0⟩ := List.exists_cons_of_length_pos (show 0 < g.length by rw [h]; omega)
  have h0 : g0.length = 31 := by rw [e0, List.length_cons] at h; omega
  obtain ⟨x1, g1, e1⟩ := List.exists_cons_of_length_pos (show 0 < g0.length by omega)
  have h1 : g1.length = 30 := by rw [e1, List.length_cons] at h0; omega
  obtain ⟨x2, g2, e2⟩ := List.exists_cons_of_length_pos (show 0 < g1.length by omega)
  have h2 : g2.length = 29 := by rw [e2, List.length_cons] at h1; omega
  obtain ⟨x3, g3, e3⟩ := List.exists_cons_of_length_pos (show 0 < g2.length by omega)
  have h3 : g3.length = 28 := by rw [e3, List.length_cons] at h2; omega
  obtain ⟨x4, g4, e4⟩ := List.exists_cons_of_length_pos (show 0 < g3.length by omega)
  have h4 : g4.length = 27 := by rw [e4, List.length_cons] at h3; omega
  obtain ⟨x5, g5, e5⟩ := List.exists_cons_of_length_pos (show 0 < g4.length by omega)
  have h5 : g5.length = 26 := by rw [e5, List.length_cons] at h4; omega
  obtain ⟨x6, g6, e6⟩ := List.exists_cons_of_length_pos (show 0 < g5.length by omega)
  have h6 : g6.length = 25 := by rw [e6, List.length_cons] at h5; omega
  obtain ⟨x7, g7, e7⟩ := List.exists_cons_of_length_pos (show 0 < g6.length by omega)
  have h7 : g7.length = 24 := by rw [e7, List.length_cons] at h6; omega
  obtain ⟨x8, g8, e8⟩ := List.exists_cons_of_length_pos (show 0 < g7.length by omega)
  have h8 : g8.length = 23 := by rw [e8, List.length_cons] at h7; omega
  obtain ⟨x9, g9, e9⟩ := List.exists_cons_of_length_pos (show 0 < g8.length by omega)
  have h9 : g9.length = 22 := by rw [e9, List.length_cons] at h8; omega
  obtain ⟨x10, g10, e10⟩ := List.exists_cons_of_length_pos (show 0 < g9.length by omega)
  have h10 : g10.length = 21 := by rw [e10, List.length_cons] at h9; omega
  obtain ⟨x11, g11, e11⟩ := List.exists_cons_of_length_pos (show 0 < g10.length by omega)
  have h11 : g11.length = 20 := by rw [e11, List.length_cons] at h10; omega
  obtain ⟨x12, g12, e12⟩ := List.exists_cons_of_length_pos (show 0 < g11.length by omega)
  have h12 : g12.length = 19 := by rw [e12, List.length_cons] at h11; omega
  obtain ⟨x13, g13, e13⟩ := List.exists_cons_of_length_pos (show 0 < g12.length by omega)
  have h13 : g13.length = 18 := by rw [e13, List.length_cons] at h12; omega
  obtain ⟨x14, g14, e14⟩ := List.exists_cons_of_length_pos (show 0 < g13.length by omega)
  have h14 : g14.length = 17 := by rw [e14, List.length_cons] at h13; omega
  obtain ⟨x15, g15, e15⟩ := List.exists_cons_of_length_pos (show 0 < g14.length by omega)
  have h15 : g15.length = 16 := by rw [e15, List.length_cons] at h14; omega
  obtain ⟨x16, g16, e16⟩ := List.exists_cons_of_length_pos (show 0 < g15.length by omega)
  have h16 : g16.length = 15 := by rw [e16, List.length_cons] at h15; omega
  obtain ⟨x17, g17, e17⟩ := List.exists_cons_of_length_pos (show 0 < g16.length by omega)
  have h17 : g17.length = 14 := by rw [e17, List.length_cons] at h16; omega
  obtain ⟨x18, g18, e18⟩ := List.exists_cons_of_length_pos (show 0 < g17.length by omega)
  have h18 : g18.length = 13 := by rw [e18, List.length_cons] at h17; omega
  obtain ⟨x19, g19, e19⟩ := List.exists_cons_of_length_pos (show 0 < g18.length by omega)
  have h19 : g19.length = 12 := by rw [e19, List.length_cons] at h18; omega
  obtain ⟨x20, g20, e20⟩ := List.exists_cons_of_length_pos (show 0 < g19.length by omega)
  have h20 : g20.length = 11 := by rw [e20, List.length_cons] at h19; omega
  obtain ⟨x21, g21, e21⟩ := List.exists_cons_of_length_pos (show 0 < g20.length by omega)
  have h21 : g21.length = 10 := by rw [e21, List.length_cons] at h20; omega
  obtain ⟨x22, g22, e22⟩ := List.exists_cons_of_length_pos (show 0 < g21.length by omega)
  have h22 : g22.length = 9 := by rw [e22, List.length_cons] at h21; omega
  obtain ⟨x23, g23, e23⟩ := List.exists_cons_of_length_pos (show 0 < g22.length by omega)
  have h23 : g23.length = 8 := by rw [e23, List.length_cons] at h22; omega
  obtain ⟨x24, g24, e24⟩ := List.exists_cons_of_length_pos (show 0 < g23.length by omega)
  have h24 : g24.length = 7 := by rw [e24, List.length_cons] at h23; omega
  obtain ⟨x25, g25, e25⟩ := List.exists_cons_of_length_pos (show 0 < g24.length by omega)
  have h25 : g25.length = 6 := by rw [e25, List.length_cons] at h24; omega
  obtain ⟨x26, g26, e26⟩ := List.exists_cons_of_length_pos (show 0 < g25.length by omega)
  have h26 : g26.length = 5 := by rw [e26, List.length_cons] at h25; omega
  obtain ⟨x27, g27, e27⟩ := List.exists_cons_of_length_pos (show 0 < g26.length by omega)
  have h27 : g27.length = 4 := by rw [e27, List.length_cons] at h26; omega
  obtain ⟨x28, g28, e28⟩ := List.exists_cons_of_length_pos (show 0 < g27.length by omega)
  have h28 : g28.length = 3 := by rw [e28, List.length_cons] at h27; omega
  obtain ⟨x29, g29, e29⟩ := List.exists_cons_of_length_pos (show 0 < g28.length by omega)
  have h29 : g29.length = 2 := by rw [e29, List.length_cons] at h28; omega
  obtain ⟨x30, g30, e30⟩ := List.exists_cons_of_length_pos (show 0 < g29.length by omega)
  have h30 : g30.length = 1 := by rw [e30, List.length_cons] at h29; omega
  obtain ⟨x31, g31, e31⟩ := List.exists_cons_of_length_pos (show 0 < g30.length by omega)
  have h31 : g31.length = 0 := by rw [e31, List.length_cons] at h30; omega
  have e := List.eq_nil_of_length_eq_zero h31
  exact ⟨x0, x1, x2, x3, x4, x5, x6, x7, x8, x9, x10, x11, x12, x13, x14, x15, x16, x17, x18, x19, x20, x21, x22, x23, x24, x25, x26, x27, x28, x29, x30, x31, by rw [e0, e1, e2, e3, e4, e5, e6, e7, e8, e9, e10, e11, e12, e13, e14, e15, e16, e17, e18, e19, e20, e21, e22, e23, e24, e25, e26, e27, e28, e29, e30, e31, e]⟩
theorem run_build_mem (g : List Int) (h : g.length = 32) (w : World) : (Instr.build 39 #[(0, .agg (gC g))]).run Try.prog w = .ok (.agg (gM g [.bool false])) w := by
  refine run_build w _ _ _ ?_
  obtain ⟨x0, x1, x2, x3, x4, x5, x6, x7, x8, x9, x10, x11, x12, x13, x14, x15, x16, x17, x18, x19, x20, x21, x22, x23, x24, x25, x26, x27, x28, x29, x30, x31, rfl⟩ := list32 h
  exact built_mem _ _ _ _ _ _ _ _ _ _ _ _ _ _ _ _ _ _ _ _ _ _ _ _ _ _ _ _ _ _ _ _
theorem wpList_build_mem {ops : Array Oper} {rest : List Oper} {o : Oper} {a : Act} {w : World} {Q : Exit → Act → World → Prop} (hgd : o.guard = none) (x : Operand) (ho : o.op = .build 39 #[(0, x)])
    (g : List Int) (hx : a.eval x = .agg (gC g)) (hg : g.length = 32) (h : wpList Try.prog ops Q rest (a.put o.dst (.agg (gM g [.bool false]))) w) : wpList Try.prog ops Q (o :: rest) a w := by
  have hb : Try.prog.built 39 [(0, .agg (gC g))] = some (gM g [.bool false]) := by
    obtain ⟨x0, x1, x2, x3, x4, x5, x6, x7, x8, x9, x10, x11, x12, x13, x14, x15, x16, x17, x18, x19, x20, x21, x22, x23, x24, x25, x26, x27, x28, x29, x30, x31, rfl⟩ := list32 hg
    exact built_mem _ _ _ _ _ _ _ _ _ _ _ _ _ _ _ _ _ _ _ _ _ _ _ _ _ _ _ _ _ _ _ _
  have he : (#[(0, x)].map fun (p : Nat × Operand) => (p.1, a.eval p.2)).toList = [(0, .agg (gC g))] := by simp [hx]
  refine wpList_build hgd 39 #[(0, x)] ho ?_ ?_
  · show (Try.prog.built 39 (#[(0, x)].map fun (p : Nat × Operand) => (p.1, a.eval p.2)).toList).isSome = true
    rw [he, hb]; rfl
  · show wpList Try.prog ops Q rest (a.put o.dst (.agg ((Try.prog.built 39 (#[(0, x)].map fun (p : Nat × Operand) => (p.1, a.eval p.2)).toList).getD #[]))) w
    rw [he, hb]; exact h
end Go.Proofs.Ytkfbepkejdmaeaa
