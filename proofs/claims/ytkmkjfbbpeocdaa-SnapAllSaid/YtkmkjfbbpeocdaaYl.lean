/- SnapAll: a picture built, a slice of it, appended to the book's row, in a region that draws. -/
import Derived.Test.YtkmkjfbbpeocdaaYd
import Derived.Great.Walk
import Derived.Great.BuildSlice
import Derived.Deep.AppendLies
namespace Go.Proofs.Ytkmkjfbbpeocdaa
set_option maxRecDepth 100000
open Go.RowKit Go.Maps
set_option linter.unusedVariables false
set_option linter.unusedSimpArgs false

theorem list32 {g : List Int} (h : g.length = 32) : ∃ x0 x1 x2 x3 x4 x5 x6 x7 x8 x9 x10 x11 x12 x13 x14 x15 x16 x17 x18 x19 x20 x21 x22 x23 x24 x25 x26 x27 x28 x29 x30 x31 : Int, g = [x0, x1, x2, x3, x4, x5, x6, x7, x8, x9, x10, x11, x12, x13, x14, x15, x16, x17, x18, x19, x20, x21, x22, x23, x24, x25, x26, x27, x28, x29, x30, x31] := by
  obtain ⟨x0, g0, e0⟩ := List.exists_cons_of_length_pos (show 0 < g.length by rw [h]; omega)
  have h0 : g0.length = 31 := by rw [e0, List.length_cons] at h; omega
  obtain ⟨x1, g1, e1⟩ := List.exists_cons_of_length_pos (show 0 < g0.length by omega)
  have h1 : g1.length = 30 := by rw [e1, List.length_cons] at h0; omega
  obtain ⟨x2, g2, e2⟩ := List.exists_cons_of_length_pos (show 0 < g1.length by omega)
  have h2 : g2.length = 29 := by rw [e2, List.length_cons] at h1; omega
  obtain ⟨x3, g3, e3⟩ := List.exists_cons_of_length_pos (show 0 < g2.length by omega)
  have h3 : g3.length = 28 := by rw [e3, List.length_cons] at h2; omega
  obtain ⟨x4, g4, e4⟩ := List.exists_cons_of_length_pos (show 0 < g3.length by omega)
  have h4 : g4.length = 27 := by rw [e4, List.length_cons] at h3; omega
  obtain ⟨x5, g5, e5⟩ := List.exists_cons_of_length_pos (show 0 < g4.length by omega)
  have h5 : g5.length = 26 := by rw [e5, List.length_cons] at h4; omega
  obtain ⟨x6, g6, e6⟩ := List.exists_cons_of_length_pos (show 0 < g5.length by omega)
  have h6 : g6.length = 25 := by rw [e6, List.length_cons] at h5; omega
  obtain ⟨x7, g7, e7⟩ := List.exists_cons_of_length_pos (show 0 < g6.length by omega)
  have h7 : g7.length = 24 := by rw [e7, List.length_cons] at h6; omega
  obtain ⟨x8, g8, e8⟩ := List.exists_cons_of_length_pos (show 0 < g7.length by omega)
  have h8 : g8.length = 23 := by rw [e8, List.length_cons] at h7; omega
  obtain ⟨x9, g9, e9⟩ := List.exists_cons_of_length_pos (show 0 < g8.length by omega)
  have h9 : g9.length = 22 := by rw [e9, List.length_cons] at h8; omega
  obtain ⟨x10, g10, e10⟩ := List.exists_cons_of_length_pos (show 0 < g9.length by omega)
  have h10 : g10.length = 21 := by rw [e10, List.length_cons] at h9; omega
  obtain ⟨x11, g11, e11⟩ := List.exists_cons_of_length_pos (show 0 < g10.length by omega)
  have h11 : g11.length = 20 := by rw [e11, List.length_cons] at h10; omega
  obtain ⟨x12, g12, e12⟩ := List.exists_cons_of_length_pos (show 0 < g11.length by omega)
  have h12 : g12.length = 19 := by rw [e12, List.length_cons] at h11; omega
  obtain ⟨x13, g13, e13⟩ := List.exists_cons_of_length_pos (show 0 < g12.length by omega)
  have h13 : g13.length = 18 := by rw [e13, List.length_cons] at h12; omega
  obtain ⟨x14, g14, e14⟩ := List.exists_cons_of_length_pos (show 0 < g13.length by omega)
  have h14 : g14.length = 17 := by rw [e14, List.length_cons] at h13; omega
  obtain ⟨x15, g15, e15⟩ := List.exists_cons_of_length_pos (show 0 < g14.length by omega)
  have h15 : g15.length = 16 := by rw [e15, List.length_cons] at h14; omega
  obtain ⟨x16, g16, e16⟩ := List.exists_cons_of_length_pos (show 0 < g15.length by omega)
  have h16 : g16.length = 15 := by rw [e16, List.length_cons] at h15; omega
  obtain ⟨x17, g17, e17⟩ := List.exists_cons_of_length_pos (show 0 < g16.length by omega)
  have h17 : g17.length = 14 := by rw [e17, List.length_cons] at h16; omega
  obtain ⟨x18, g18, e18⟩ := List.exists_cons_of_length_pos (show 0 < g17.length by omega)
  have h18 : g18.length = 13 := by rw [e18, List.length_cons] at h17; omega
  obtain ⟨x19, g19, e19⟩ := List.exists_cons_of_length_pos (show 0 < g18.length by omega)
  have h19 : g19.length = 12 := by rw [e19, List.length_cons] at h18; omega
  obtain ⟨x20, g20, e20⟩ := List.exists_cons_of_length_pos (show 0 < g19.length by omega)
  have h20 : g20.length = 11 := by rw [e20, List.length_cons] at h19; omega
  obtain ⟨x21, g21, e21⟩ := List.exists_cons_of_length_pos (show 0 < g20.length by omega)
  have h21 : g21.length = 10 := by rw [e21, List.length_cons] at h20; omega
  obtain ⟨x22, g22, e22⟩ := List.exists_cons_of_length_pos (show 0 < g21.length by omega)
  have h22 : g22.length = 9 := by rw [e22, List.length_cons] at h21; omega
  obtain ⟨x23, g23, e23⟩ := List.exists_cons_of_length_pos (show 0 < g22.length by omega)
  have h23 : g23.length = 8 := by rw [e23, List.length_cons] at h22; omega
  obtain ⟨x24, g24, e24⟩ := List.exists_cons_of_length_pos (show 0 < g23.length by omega)
  have h24 : g24.length = 7 := by rw [e24, List.length_cons] at h23; omega
  obtain ⟨x25, g25, e25⟩ := List.exists_cons_of_length_pos (show 0 < g24.length by omega)
  have h25 : g25.length = 6 := by rw [e25, List.length_cons] at h24; omega
  obtain ⟨x26, g26, e26⟩ := List.exists_cons_of_length_pos (show 0 < g25.length by omega)
  have h26 : g26.length = 5 := by rw [e26, List.length_cons] at h25; omega
  obtain ⟨x27, g27, e27⟩ := List.exists_cons_of_length_pos (show 0 < g26.length by omega)
  have h27 : g27.length = 4 := by rw [e27, List.length_cons] at h26; omega
  obtain ⟨x28, g28, e28⟩ := List.exists_cons_of_length_pos (show 0 < g27.length by omega)
  have h28 : g28.length = 3 := by rw [e28, List.length_cons] at h27; omega
  obtain ⟨x29, g29, e29⟩ := List.exists_cons_of_length_pos (show 0 < g28.length by omega)
  have h29 : g29.length = 2 := by rw [e29, List.length_cons] at h28; omega
  obtain ⟨x30, g30, e30⟩ := List.exists_cons_of_length_pos (show 0 < g29.length by omega)
  have h30 : g30.length = 1 := by rw [e30, List.length_cons] at h29; omega
  obtain ⟨x31, g31, e31⟩ := List.exists_cons_of_length_pos (show 0 < g30.length by omega)
  have h31 : g31.length = 0 := by rw [e31, List.length_cons] at h30; omega
  have e := List.eq_nil_of_length_eq_zero h31
  exact ⟨x0, x1, x2, x3, x4, x5, x6, x7, x8, x9, x10, x11, x12, x13, x14, x15, x16, x17, x18, x19, x20, x21, x22, x23, x24, x25, x26, x27, x28, x29, x30, x31, by rw [e0, e1, e2, e3, e4, e5, e6, e7, e8, e9, e10, e11, e12, e13, e14, e15, e16, e17, e18, e19, e20, e21, e22, e23, e24, e25, e26, e27, e28, e29, e30, e31, e]⟩
theorem built_pic0 (y x0 x1 x2 x3 x4 x5 x6 x7 x8 x9 x10 x11 x12 x13 x14 x15 x16 x17 x18 x19 x20 x21 x22 x23 x24 x25 x26 x27 x28 x29 x30 x31 p0 p1 p2 p3 : Int) : Try.prog.built 69 [(0, .int .i64 y), (1, .int .i64 1), (2, .agg (gC [x0, x1, x2, x3, x4, x5, x6, x7, x8, x9, x10, x11, x12, x13, x14, x15, x16, x17, x18, x19, x20, x21, x22, x23, x24, x25, x26, x27, x28, x29, x30, x31])), (3, .agg #[.int .i64 p0, .int .i64 p1, .int .i64 p2, .int .i64 p3])] = some #[.int .i64 y, .int .i64 1, .int .i32 x0, .int .i32 x1, .int .i32 x2, .int .i32 x3, .int .i32 x4, .int .i32 x5, .int .i32 x6, .int .i32 x7, .int .i32 x8, .int .i32 x9, .int .i32 x10, .int .i32 x11, .int .i32 x12, .int .i32 x13, .int .i32 x14, .int .i32 x15, .int .i32 x16, .int .i32 x17, .int .i32 x18, .int .i32 x19, .int .i32 x20, .int .i32 x21, .int .i32 x22, .int .i32 x23, .int .i32 x24, .int .i32 x25, .int .i32 x26, .int .i32 x27, .int .i32 x28, .int .i32 x29, .int .i32 x30, .int .i32 x31, .int .i64 p0, .int .i64 p1, .int .i64 p2, .int .i64 p3] := by kernel_rfl
theorem built_sl0 (y x0 x1 x2 x3 x4 x5 x6 x7 x8 x9 x10 x11 x12 x13 x14 x15 x16 x17 x18 x19 x20 x21 x22 x23 x24 x25 x26 x27 x28 x29 x30 x31 p0 p1 p2 p3 : Int) : Try.prog.builtSlice 69 1 [(0, .agg #[.int .i64 y, .int .i64 1, .int .i32 x0, .int .i32 x1, .int .i32 x2, .int .i32 x3, .int .i32 x4, .int .i32 x5, .int .i32 x6, .int .i32 x7, .int .i32 x8, .int .i32 x9, .int .i32 x10, .int .i32 x11, .int .i32 x12, .int .i32 x13, .int .i32 x14, .int .i32 x15, .int .i32 x16, .int .i32 x17, .int .i32 x18, .int .i32 x19, .int .i32 x20, .int .i32 x21, .int .i32 x22, .int .i32 x23, .int .i32 x24, .int .i32 x25, .int .i32 x26, .int .i32 x27, .int .i32 x28, .int .i32 x29, .int .i32 x30, .int .i32 x31, .int .i64 p0, .int .i64 p1, .int .i64 p2, .int .i64 p3])] = some #[.int .i64 y, .int .i64 1, .int .i32 x0, .int .i32 x1, .int .i32 x2, .int .i32 x3, .int .i32 x4, .int .i32 x5, .int .i32 x6, .int .i32 x7, .int .i32 x8, .int .i32 x9, .int .i32 x10, .int .i32 x11, .int .i32 x12, .int .i32 x13, .int .i32 x14, .int .i32 x15, .int .i32 x16, .int .i32 x17, .int .i32 x18, .int .i32 x19, .int .i32 x20, .int .i32 x21, .int .i32 x22, .int .i32 x23, .int .i32 x24, .int .i32 x25, .int .i32 x26, .int .i32 x27, .int .i32 x28, .int .i32 x29, .int .i32 x30, .int .i32 x31, .int .i64 p0, .int .i64 p1, .int .i64 p2, .int .i64 p3] := by kernel_rfl
theorem picA_at (k : Nat) (y x0 x1 x2 x3 x4 x5 x6 x7 x8 x9 x10 x11 x12 x13 x14 x15 x16 x17 x18 x19 x20 x21 x22 x23 x24 x25 x26 x27 x28 x29 x30 x31 : Int) (pn : Nat → Int) (hy : y = k + 1) : picA k ⟨1, [x0, x1, x2, x3, x4, x5, x6, x7, x8, x9, x10, x11, x12, x13, x14, x15, x16, x17, x18, x19, x20, x21, x22, x23, x24, x25, x26, x27, x28, x29, x30, x31], pn⟩ = #[.int .i64 y, .int .i64 1, .int .i32 x0, .int .i32 x1, .int .i32 x2, .int .i32 x3, .int .i32 x4, .int .i32 x5, .int .i32 x6, .int .i32 x7, .int .i32 x8, .int .i32 x9, .int .i32 x10, .int .i32 x11, .int .i32 x12, .int .i32 x13, .int .i32 x14, .int .i32 x15, .int .i32 x16, .int .i32 x17, .int .i32 x18, .int .i32 x19, .int .i32 x20, .int .i32 x21, .int .i32 x22, .int .i32 x23, .int .i32 x24, .int .i32 x25, .int .i32 x26, .int .i32 x27, .int .i32 x28, .int .i32 x29, .int .i32 x30, .int .i32 x31, .int .i64 (pn 0), .int .i64 (pn 1), .int .i64 (pn 2), .int .i64 (pn 3)] := by
  subst hy
  rfl
theorem built_pic (k : Nat) (y : Int) (hy : y = k + 1) (g : List Int) (hg : g.length = 32) (pn : Nat → Int) : Try.prog.built 69 [(0, .int .i64 y), (1, .int .i64 1), (2, .agg (gC g)), (3, .agg (q4A pn))] = some (picA k ⟨1, g, pn⟩) := by
  obtain ⟨x0, x1, x2, x3, x4, x5, x6, x7, x8, x9, x10, x11, x12, x13, x14, x15, x16, x17, x18, x19, x20, x21, x22, x23, x24, x25, x26, x27, x28, x29, x30, x31, rfl⟩ := list32 hg
  rw [picA_at k y x0 x1 x2 x3 x4 x5 x6 x7 x8 x9 x10 x11 x12 x13 x14 x15 x16 x17 x18 x19 x20 x21 x22 x23 x24 x25 x26 x27 x28 x29 x30 x31 pn hy]
  exact built_pic0 y x0 x1 x2 x3 x4 x5 x6 x7 x8 x9 x10 x11 x12 x13 x14 x15 x16 x17 x18 x19 x20 x21 x22 x23 x24 x25 x26 x27 x28 x29 x30 x31 (pn 0) (pn 1) (pn 2) (pn 3)
theorem built_sl (k : Nat) (g : List Int) (hg : g.length = 32) (pn : Nat → Int) : Try.prog.builtSlice 69 1 [(0, .agg (picA k ⟨1, g, pn⟩))] = some (picA k ⟨1, g, pn⟩) := by
  obtain ⟨x0, x1, x2, x3, x4, x5, x6, x7, x8, x9, x10, x11, x12, x13, x14, x15, x16, x17, x18, x19, x20, x21, x22, x23, x24, x25, x26, x27, x28, x29, x30, x31, rfl⟩ := list32 hg
  rw [picA_at k _ x0 x1 x2 x3 x4 x5 x6 x7 x8 x9 x10 x11 x12 x13 x14 x15 x16 x17 x18 x19 x20 x21 x22 x23 x24 x25 x26 x27 x28 x29 x30 x31 pn rfl]
  exact built_sl0 _ x0 x1 x2 x3 x4 x5 x6 x7 x8 x9 x10 x11 x12 x13 x14 x15 x16 x17 x18 x19 x20 x21 x22 x23 x24 x25 x26 x27 x28 x29 x30 x31 (pn 0) (pn 1) (pn 2) (pn 3)
/-- the operation that builds the picture -/
theorem exec_build_pic {S : World → Prop} {op : Oper} {a : Act} (x y z : Operand) (ho : op.op = .build 69 #[(0, x), (1, .const (.int .i64 1)), (2, y), (3, z)])
    (k : Nat) (u : Int) (hu : u = k + 1) (g : List Int) (hg : g.length = 32) (pn : Nat → Int) (hx : a.eval x = .int .i64 u) (hy : a.eval y = .agg (gC g)) (hz : a.eval z = .agg (q4A pn)) (w : World) (hw : S w) :
    (execOp a.eval op).run Try.prog w = .ok (.value (.agg (picA k ⟨1, g, pn⟩))) w := by
  have he : a.eval (.const (.int .i64 1)) = .int .i64 1 := rfl
  have := run_build w 69 #[(0, .int .i64 u), (1, .int .i64 1), (2, .agg (gC g)), (3, .agg (q4A pn))] _ (built_pic k u hu g hg pn)
  unfold execOp
  simp only [ho, List.map_toArray, List.map_cons, List.map_nil, hx, hy, hz, he, Sem.run_bind, this, Result.andThen_ok, Sem.run_pure]
theorem built_q4 (p0 p1 p2 p3 : Int) : Try.prog.built 67 [(0, .int .i64 p0), (1, .int .i64 p1), (2, .int .i64 p2), (3, .int .i64 p3)] = some #[.int .i64 p0, .int .i64 p1, .int .i64 p2, .int .i64 p3] := by kernel_rfl
theorem exec_build_q4 {S : World → Prop} {op : Oper} {a : Act} (x0 x1 x2 x3 : Operand) (ho : op.op = .build 67 #[(0, x0), (1, x1), (2, x2), (3, x3)])
    (f : Nat → Int) (h0 : a.eval x0 = .int .i64 (f 0)) (h1 : a.eval x1 = .int .i64 (f 1)) (h2 : a.eval x2 = .int .i64 (f 2)) (h3 : a.eval x3 = .int .i64 (f 3)) (w : World) (hw : S w) :
    (execOp a.eval op).run Try.prog w = .ok (.value (.agg (q4A f))) w := by
  have := run_build w 67 #[(0, .int .i64 (f 0)), (1, .int .i64 (f 1)), (2, .int .i64 (f 2)), (3, .int .i64 (f 3))] _ (built_q4 (f 0) (f 1) (f 2) (f 3))
  unfold execOp
  simp only [ho, List.map_toArray, List.map_cons, List.map_nil, h0, h1, h2, h3, Sem.run_bind, this, Result.andThen_ok, Sem.run_pure]
  rfl
/-- the four numbers behind n -/
theorem four_pn (n : Nat) : ∃ pn : Nat → Int, pn 0 = (n : Int) + 1 ∧ pn 1 = (n : Int) + 2 ∧ pn 2 = (n : Int) + 3 ∧ pn 3 = (n : Int) + 4 ∧ ∀ i, i < 4 → pn i = (n : Int) + 1 + i :=
  ⟨fun i => (n : Int) + 1 + i, by simp, by simp; omega, by simp; omega, by simp; omega, fun i hi => rfl⟩
/-- a slice of it -/
theorem wp_sl_pic {o : Oper} {a : Act} {w : World} {K : Act → World → Prop} {Q : Exit → Act → World → Prop} (x : Operand) (ho : o.op = .buildSlice 27 1 #[(0, x)])
    (k : Nat) (g : List Int) (hg : g.length = 32) (pn : Nat → Int) (hx : a.eval x = .agg (picA k ⟨1, g, pn⟩))
    (h : K (a.put o.dst (.slice (some ⟨w.heap.size, 0, none⟩) 1 1)) (w.alloc (.cells (picA k ⟨1, g, pn⟩) 69))) : o.wp Try.prog a w K Q := by
  have hf := built_sl k g hg pn
  unfold Program.builtSlice at hf
  cases hie : Try.prog.info? 69 with
  | none => simp [hie] at hf
  | some ie =>
    simp only [hie] at hf
    cases hz : ie.zero with
    | none => simp [hz] at hf
    | some z =>
      simp only [hz] at hf
      by_cases hc : 1 * ie.size > 2 ^ 24 ∨ 1 * ie.size = 0
      · rw [if_pos hc] at hf; cases hf
      · rw [if_neg hc] at hf
        have he : (#[(0, x)].map fun (p : Nat × Operand) => (p.1, a.eval p.2)).toList = [(0, .agg (picA k ⟨1, g, pn⟩))] := by simp [hx]
        exact wp_buildSlice 27 69 1 #[(0, x)] ho _ ie z Try.underlying27 hie hz (fun h' => hc (Or.inl h')) (fun h' => hc (Or.inr h')) (by
          show Instr.fill _ _ (#[(0, x)].map fun (p : Nat × Operand) => (p.1, a.eval p.2)).toList = _
          rw [he]; exact hf) h
theorem infoPicB : (Try.prog.info? 69).map (fun i => (i.zero, i.size, i.bytes)) = some (some (.agg zP), 38, 176) := by kernel_rfl
section
variable {w0 w w' : World} {S P A M : Nat} {Q : List Sh → List Pc → Prop} {O : List (Nat × Obj)} {Bb n : Nat} {B : List Bp} {N : Int} {v : Value}
theorem Frm.rot3 {x y z : Nat × Obj} (h : Frm w0 w S P A M Q [x, y, z]) : Frm w0 w S P A M Q [z, x, y] :=
  h.perm ((List.Perm.cons x (List.Perm.swap z y [])).trans (List.Perm.swap z x [y]))
theorem pic_news (w : World) (k : Nat) (p : Bp) (j : Nat) (u : Value) (hu : (picL k p)[j]? = some u) : (w.alloc (.cells (picA k p) 69)).cell? ((⟨w.heap.size, 0, none⟩ : Addr).add j) = some u := by
  rw [Addr.add_lit, Nat.zero_add, cell_of_row _ _ _ _ _ _ (heap_alloc_last w _)]
  unfold picA
  rw [List.getElem?_toArray]; exact hu
/-- append to the book's row -/
theorem wp_append_row {o : Oper} {a : Act} {K : Act → World → Prop} {Qx : Exit → Act → World → Prop} (s x : Operand)
    (ho : o.op = .call { callee := .builtin .append, args := #[s, x], argTypes := #[27, 27] })
    {b : Nat} {ob : Obj} (h : Frm w0 w S P A M Q ((b, ob) :: O)) {n : Nat} (hn : n ≤ 60) {xs : List Value} (hs : a.eval s = v) (R : RowO 69 38 v n xs b ob)
    (ad : Addr) (news : List Value) (hx : a.eval x = .slice (some ad) 1 1) (hl : news.length = 38) (hnews : ∀ j u, news[j]? = some u → w.cell? (ad.add j) = some u) (h1 : ∀ u ∈ news, u.oneCell' = true)
    (hq : ∀ v' w' b' o', RowO 69 38 v' (n + 1) (xs ++ news) b' o' → Frm w0 w' S P A M Q ((b', o') :: O) → K (a.put o.dst v') w') : o.wp Try.prog a w K Qx := by
  obtain ⟨i0, hi0, hz0, hz1, hz2⟩ := info_parts3 infoPicB
  have hR := R
  obtain ⟨r1, cap, cur, rfl, rfl, r2, r3, r4, r5⟩ := R
  have hown : w.ownsRow 0 69 38 (.slice (some ⟨b, 0, none⟩) n cap) n xs := ⟨r1, .inr ⟨b, cap, cur, rfl, Nat.zero_le _, h.own (m0 _ _), r2, r3, r4, r5⟩⟩
  obtain ⟨v', w', hrun, h2, h3, h6, h5⟩ := run_append_own_at (P := Try.prog) w 0 27 o.type 69 i0 _ 38 176 Try.underlying27 hi0 hz0 hz1 hz2 zP_size (by omega) _ n _ hown ad 1 1 news (by omega) hnews h1 (by unfold maxLen; omega) (by omega) (Nat.zero_le _)
  unfold Oper.wp execOp
  simp only [ho, resolve, invoke, builtin, Sem.run_bind, Sem.run_pure, Result.andThen_ok, List.map_toArray, List.map_cons, List.map_nil, hs, hx, hrun]
  rcases h2.2 with ⟨rfl, h0⟩ | ⟨g, cap', cur', rfl, _, hg, k1, k2, k3, k4⟩
  · omega
  · have hrow : RowO 69 38 (.slice (some ⟨g, 0, none⟩) (n + 1) cap') (n + 1) (xs ++ news) g (.cells cur' 69 (0, 0)) := ⟨h2.1, cap', cur', rfl, rfl, k1, k2, k3, k4⟩
    refine hq _ w' g _ hrow ?_
    rcases h5 with h7 | h7
    · have e1 : g = b := by have := Option.some.inj h7; exact this
      subst e1
      exact h.put h3 _ hg
    · have e1 : g = w.heap.size := by have := Option.some.inj h7; exact this
      exact h.moved h3 g _ (by omega) hg
theorem Frm.up3 {x y z : Nat × Obj} (h : Frm w0 w S P A M Q (x :: y :: z :: O)) : Frm w0 w S P A M Q (z :: x :: y :: O) :=
  h.perm ((List.Perm.cons x (List.Perm.swap z y O)).trans (List.Perm.swap z x (y :: O)))
theorem Frm.up4 {x y z t : Nat × Obj} (h : Frm w0 w S P A M Q (x :: y :: z :: t :: O)) : Frm w0 w S P A M Q (t :: x :: y :: z :: O) :=
  h.perm ((List.Perm.cons x ((List.Perm.cons y (List.Perm.swap t z O)).trans (List.Perm.swap t y (z :: O)))).trans (List.Perm.swap t x (y :: z :: O)))
/-- append to the empty book -/
theorem wp_append_nil {o : Oper} {a : Act} {K : Act → World → Prop} {Qx : Exit → Act → World → Prop} (s x : Operand)
    (ho : o.op = .call { callee := .builtin .append, args := #[s, x], argTypes := #[27, 27] })
    (h : Frm w0 w S P A M Q O) (hs : a.eval s = .slice none 0 0)
    (ad : Addr) (news : List Value) (hx : a.eval x = .slice (some ad) 1 1) (hl : news.length = 38) (hnews : ∀ j u, news[j]? = some u → w.cell? (ad.add j) = some u) (h1 : ∀ u ∈ news, u.oneCell' = true)
    (hq : ∀ v' w' b' o', RowO 69 38 v' 1 news b' o' → Frm w0 w' S P A M Q ((b', o') :: O) → K (a.put o.dst v') w') : o.wp Try.prog a w K Qx := by
  obtain ⟨i0, hi0, hz0, hz1, hz2⟩ := info_parts3 infoPicB
  have hown : w.ownsRow w.heap.size 69 38 (.slice none 0 0) 0 [] := ⟨rfl, .inl ⟨rfl, rfl⟩⟩
  obtain ⟨v', w', hrun, h2, h3, h6, h5⟩ := run_append_own_at (P := Try.prog) w w.heap.size 27 o.type 69 i0 _ 38 176 Try.underlying27 hi0 hz0 hz1 hz2 zP_size (by omega) _ 0 _ hown ad 1 1 news (by omega) hnews h1 (by unfold maxLen; omega) (by omega) (Nat.le_refl _)
  unfold Oper.wp execOp
  simp only [ho, resolve, invoke, builtin, Sem.run_bind, Sem.run_pure, Result.andThen_ok, List.map_toArray, List.map_cons, List.map_nil, hs, hx, hrun]
  rcases h2.2 with ⟨rfl, h0⟩ | ⟨g, cap', cur', rfl, hgs, hg, k1, k2, k3, k4⟩
  · omega
  · have hrow : RowO 69 38 (.slice (some ⟨g, 0, none⟩) (0 + 1) cap') (0 + 1) ([] ++ news) g (.cells cur' 69 (0, 0)) := ⟨h2.1, cap', cur', rfl, rfl, k1, k2, k3, k4⟩
    refine hq _ w' g _ hrow ?_
    exact h.new ⟨h3.os, h3.tape, h3.output, h3.size, fun k hk => h3.block k hk (by simp [Value.ownBlock])⟩ g _ hgs hg
/-- append to the book, empty or not -/
theorem wp_append_bo {o : Oper} {a : Act} {K : Act → World → Prop} {Qx : Exit → Act → World → Prop} (s x : Operand)
    (ho : o.op = .call { callee := .builtin .append, args := #[s, x], argTypes := #[27, 27] })
    (hB : BO Bb B n N v O) (hn : B.length ≤ 60) {e1 e2 : Nat × Obj} (h : Frm w0 w S P A M Q (e1 :: e2 :: O)) (hs : a.eval s = v)
    (ad : Addr) (news : List Value) (hx : a.eval x = .slice (some ad) 1 1) (hl : news.length = 38) (hnews : ∀ j u, news[j]? = some u → w.cell? (ad.add j) = some u) (h1 : ∀ u ∈ news, u.oneCell' = true)
    (hq : ∀ v' w' b' o', RowO 69 38 v' (B.length + 1) (picsL B ++ news) b' o' → Frm w0 w' S P A M Q [(b', o'), e1, e2, (Bb, bookO v n N)] → K (a.put o.dst v') w') : o.wp Try.prog a w K Qx := by
  rcases hB with ⟨rfl, rfl, rfl⟩ | ⟨b, ob, R, rfl⟩
  · exact wp_append_nil s x ho h hs ad news hx hl hnews h1 (fun v' w' b' o' R F => hq v' w' b' o' R F)
  · exact wp_append_row s x ho h.up3 hn hs R ad news hx hl hnews h1 (fun v' w' b' o' R F => hq v' w' b' o' R F)
theorem Frm.book0 (h : Frm w0 w S P A M Q ((Bb, bookO v (n : Int) N) :: O)) (v' : Value) : Frm w0 (w.setCell ⟨Bb, 0, none⟩ v') S P A M Q ((Bb, bookO v' (n : Int) N) :: O) :=
  h.put (grown_st w ⟨Bb, 0, none⟩ v') _ (heap_setCell_same _ _ _ _ _ _ (h.own (m0 _ _)))
theorem Frm.book1 {n : Int} (h : Frm w0 w S P A M Q ((Bb, bookO v n N) :: O)) (n' : Int) : Frm w0 (w.setCell ⟨Bb, 1, none⟩ (.int .i64 n')) S P A M Q ((Bb, bookO v n' N) :: O) :=
  h.put (grown_st w ⟨Bb, 1, none⟩ (.int .i64 n')) _ (heap_setCell_same _ _ _ _ _ _ (h.own (m0 _ _)))
end
/-- an operation that yields a value, in this world -/
theorem wp_val {P : Program} {o : Oper} {a : Act} {w : World} {K : Act → World → Prop} {Q : Exit → Act → World → Prop} {v : Value} {dst : Option Tmp} (hd : o.dst = dst) (h : (execOp a.eval o).run P w = .ok (.value v) w) (hq : K (a.put dst v) w) : o.wp P a w K Q := by
  subst hd
  unfold Oper.wp
  rw [h]
  exact hq
theorem exec_load_q4 {S : World → Prop} {op : Oper} {a : Act} (x : Operand) (ho : op.op = .load 67 x)
    (b o : Nat) (hx : a.eval x = .pointer (some ⟨b, o, none⟩)) (f : Nat → Int) (hS : ∀ w, S w → w.rangeAt b o (q4L f)) (w : World) (hw : S w) :
    (execOp a.eval op).run Try.prog w = .ok (.value (.agg (q4A f))) w := by
  have := run_loadVar_mid (P := Try.prog) w b o 67 (q4L f) _ (hS w hw) Try.underlying67 rfl (by kernel_rfl)
  unfold execOp
  simp only [ho, hx, Instr.loadAt, Instr.sureAddr, Sem.run_bind, Sem.run_pure, Result.andThen_ok, this]
  rfl
theorem picC_pn (k : Nat) (p : Bp) (a : Nat) (ha : a < 4) : picC k p (34 + a) = .int .i64 (p.pn a) := by
  unfold picC
  rw [if_neg (by omega), if_neg (by omega), if_neg (by omega), show 34 + a - 34 = a by omega]
theorem picC_g (k : Nat) (p : Bp) (c : Nat) (hc : c < 32) : ∃ old, picC k p (2 + c) = .int .i32 old := by
  unfold picC
  rw [if_neg (by omega), if_neg (by omega), if_pos (by omega)]
  exact ⟨_, rfl⟩
theorem row_cell {w : World} {v : Value} {B : List Bp} {b k : Nat} {o : Obj} {p : Bp} (R : RowO 69 38 v B.length (picsL B) b o) (hb : w.heap[b]? = some o) (hp : B[k]? = some p) (c : Nat) (hc : c < 32) : ∃ old, w.cell? ⟨b, k * 38 + 2 + c, none⟩ = some (.int .i32 old) := by
  obtain ⟨old, h⟩ := picC_g k p c hc
  exact ⟨old, by rw [Nat.add_assoc, R.cell hb _ _ (picsL_at B k p hp (2 + c) (by omega)), h]⟩
theorem row_page {w : World} {v : Value} {B : List Bp} {b k : Nat} {o : Obj} {p : Bp} (R : RowO 69 38 v B.length (picsL B) b o) (hb : w.heap[b]? = some o) (hp : B[k]? = some p) (a : Nat) (ha : a < 4) : w.cell? ⟨b, k * 38 + 34 + a, none⟩ = some (.int .i64 (p.pn a)) := by
  rw [Nat.add_assoc, R.cell hb _ _ (picsL_at B k p hp (34 + a) (by omega)), picC_pn k p a ha]
theorem row_game {w : World} {v : Value} {B : List Bp} {b k : Nat} {o : Obj} {p : Bp} (R : RowO 69 38 v B.length (picsL B) b o) (hb : w.heap[b]? = some o) (hp : B[k]? = some p) (hg : p.g.length = 32) : w.rangeAt b (k * 38 + 2) (gC p.g).toList := fun j u hu => by
  have hj : j < 32 := by
    have := (List.getElem?_eq_some_iff.1 hu).1
    rw [Array.length_toList, gC_size] at this; omega
  rw [Nat.add_assoc, R.cell hb _ _ (picsL_at B k p hp (2 + j) (by omega))]
  unfold picC
  rw [if_neg (by omega), if_neg (by omega), if_pos (by omega), show 2 + j - 2 = j by omega]
  unfold gC at hu
  simp [show j < p.g.length by omega, vi] at hu
  rw [← hu]
  simp [List.getD, show j < p.g.length by omega]
theorem row_pages {w : World} {v : Value} {B : List Bp} {b k : Nat} {o : Obj} {p : Bp} (R : RowO 69 38 v B.length (picsL B) b o) (hb : w.heap[b]? = some o) (hp : B[k]? = some p) : w.rangeAt b (k * 38 + 34) (q4L p.pn) := fun j u hu => by
  have hj : j < 4 := (List.getElem?_eq_some_iff.1 hu).1
  rw [Nat.add_assoc, R.cell hb _ _ (picsL_at B k p hp (34 + j) (by omega))]
  rw [← hu]
  match j, hj with
  | 0, _ => rfl
  | 1, _ => rfl
  | 2, _ => rfl
  | 3, _ => rfl
/-- two may come up, not the store -/
theorem j_two {P : Program} {ops : Array Oper} {Q : Exit → Act → World → Prop} {md : Region.Mode} {S : World → Prop} {s : Nat} {i j : Nat} {dst dst2 : Option Tmp} {op op2 : Op} {ty ty2 : TypeId} {pos pos2 : String} {af af2 : _} {gd gd2 : _} {fuel : Nat} {listed : Array Bool} {a : Act} {w : World} (hi : ops[i]? = some ⟨dst, op, ty, pos, af, gd⟩) (hj : ops[j]? = some ⟨dst2, op2, ty2, pos2, af2, gd2⟩)
    (hr : Region.ready md ops listed = [i, j]) (hw : Region.wanted ⟨dst, op, ty, pos, af, gd⟩ (yielded ops a.tmps) = true) (hw2 : Region.wanted ⟨dst2, op2, ty2, pos2, af2, gd2⟩ (yielded ops a.tmps) = true)
    (h : ∀ K' : Act → World → Prop, Shut (∀ a w, S w → (S w → wpAnyJ P md ops Q S s fuel (listed.setIfInBounds i true) a w) → K' a w) → Oper.wp P ⟨dst, op, ty, pos, af, gd⟩ a w K' Q)
    (h2 : ∀ K' : Act → World → Prop, Shut (∀ a w, S w → (S w → wpAnyJ P md ops Q S s fuel (listed.setIfInBounds j true) a w) → K' a w) → Oper.wp P ⟨dst2, op2, ty2, pos2, af2, gd2⟩ a w K' Q) :
    wpAnyJ P md ops Q S s (fuel + 1) listed a w := by
  refine ⟨fun h0 => (by rw [hr] at h0; cases h0), ?_⟩
  rw [hr]
  intro l hl
  rcases List.mem_cons.1 hl with rfl | hl
  · exact wpOp_step hi (fun K' hK => by rw [if_pos hw]; exact h K' (fun a w hS hW => hK a w ⟨fun _ => hS, hW hS⟩))
  · obtain rfl : l = j := by simpa using hl
    exact wpOp_step hj (fun K' hK => by rw [if_pos hw2]; exact h2 K' (fun a w hS hW => hK a w ⟨fun _ => hS, hW hS⟩))
end Go.Proofs.Ytkmkjfbbpeocdaa
