/- WALK: EventValues. -/
import Derived.Test.YtmocpfdmlodgnaaZc
import Derived.Deep.DeepCutAuto
import Derived.Deep.RegionLaw
import Derived.Deep.RegionWith
import Derived.RegionTactic
import Derived.Laws.StructEq
import Derived.LoopN
import Derived.Tactics2
namespace Go.Proofs.Ytmocpfdmlodgnaa
set_option maxRecDepth 100000
open Go.RowKit
set_option linter.unusedVariables false
set_option linter.unusedSimpArgs false

/-- the array's cells, i events kept -/
def kept0 (p : Int) (i : Nat) : Value := if 0 < i then .iface 44 (.agg #[.int .i64 p]) else .nilIface
def kept1 (p : Int) (i : Nat) : Value := if 1 < i then .iface 45 (.agg #[.int .i64 p]) else .nilIface
def kept2 (p f : Int) (i : Nat) : Value := if 2 < i then .iface 47 (.agg #[.int .i64 p, .int .i64 f]) else .nilIface

theorem arr_keeps {wr w3 : World} {A : Nat} {o o2 : Obj} (hk : wr.heap[A]? = some o) (hs : A < wr.heap.size) (B : Below (wr.alloc o2).heap.size (wr.alloc o2) w3) (o3 : Obj) : (w3.alloc o3).heap[A]? = some o := by
  have h1 : A < (wr.alloc o2).heap.size := by simp; omega
  have h2 := B.size
  exact (((Below.refl w3.heap.size w3).alloc (Nat.le_refl _) o3).block A (by omega)).trans ((B.block A h1).trans ((((Below.refl wr.heap.size wr).alloc (Nat.le_refl _) o2).block A hs).trans hk))
/-- three variables hold the three events -/
def Kept3 (w wx : World) (p f : Int) (s12 s13 s14 : Value) : Prop := ∃ X Y Z : Nat, s12 = .pointer (some ⟨X, 0, none⟩) ∧ s13 = .pointer (some ⟨Y, 0, none⟩) ∧ s14 = .pointer (some ⟨Z, 0, none⟩) ∧
  wx.cell? ⟨X, 0, none⟩ = some (.iface 44 (.agg #[.int .i64 p])) ∧ wx.cell? ⟨Y, 0, none⟩ = some (.iface 45 (.agg #[.int .i64 p])) ∧ wx.cell? ⟨Z, 0, none⟩ = some (.iface 47 (.agg #[.int .i64 p, .int .i64 f])) ∧ Hid (Below w.heap.size w wx)
def cnt7 : Value → Nat
  | .int _ k => k.toNat
  | _ => 0
set_option maxHeartbeats 4000000 in
theorem values_law (p f : Int) (w : World) : Calls Try.prog 6 #[.int .i64 p, .int .i64 f] w fun e w' => e = .returned (.bool true) ∧ Below w.heap.size w w' := by
  have HB := Lib.hid begun12_any
  go_enter Try.func6, Try.ntmps6
  go_upto_region 4 with (go_at_call 7; with_reducible refine (HB.out _).mono ?_; rintro e w1 ⟨rfl, B0⟩)
  have BB := Lib.hid B0
  clear B0
  by_cases h : 0 ≤ p ∧ p ≤ 7 ∧ 0 ≤ f ∧ f ≤ 1000
  · obtain ⟨p0, p7, f0, f1⟩ := h
    have d1 : decide (p < 0) = false := by simp; omega
    have d2 : decide (7 < p) = false := by simp; omega
    have d3 : decide (f < 0) = false := by simp; omega
    have d4 : decide (1000 < f) = false := by simp; omega
    have e1 : ¬ p < 0 := by omega
    have e2 : ¬ 7 < p := by omega
    have e3 : ¬ f < 0 := by omega
    have e4 : ¬ 1000 < f := by omega
    go_wp2_with fail
    go_loopw [7] (fun s wr => ∃ i : Nat, s = .int .i64 i ∧ i ≤ 3 ∧ Hid (wr.heap[w1.heap.size]? = some (.cells #[kept0 p i, kept1 p i, kept2 p f i] 40 (0, 0))) ∧ Hid (Below w.heap.size w wr) ∧ w1.heap.size < wr.heap.size) (fun s _ => 3 - cnt7 s)
    case atStart => exact ⟨0, rfl, by omega, heap_alloc_new w1 _, below_alloc BB.out _, by simp⟩
    case round =>
      obtain ⟨i, rfl, hi, hk, hb, hs⟩ := hrel
      have HO0 := Lib.hid (of_quit p p0 p7)
      have HO1 := Lib.hid (of_late p p0 p7)
      have HO2 := Lib.hid (of_apart p f p0 p7 f0 f1)
      unfold rawV at HO0 HO1 HO2
      unfold evQ at HO0
      unfold evL at HO1
      unfold evA at HO2
      by_cases h3 : i = 3
      · subst h3
        have hk3 : wr.heap[w1.heap.size]? = some (.cells #[.iface 44 (.agg #[.int .i64 p]), .iface 45 (.agg #[.int .i64 p]), .iface 47 (.agg #[.int .i64 p, .int .i64 f])] 40 (0, 0)) := hk.out
        obtain ⟨⟨c0, c1, c2⟩, ⟨g0, g1, g2⟩⟩ := row3 hk3
        go_upto_region 18 with fail
        have hm := heap_alloc_new wr (.cells #[.iface 44 (.agg #[.int .i64 p]), .iface 45 (.agg #[.int .i64 p]), .iface 47 (.agg #[.int .i64 p, .int .i64 f])] 40)
        obtain ⟨⟨m0, m1, m2⟩, -⟩ := row3 hm
        have bm := Lib.hid (below_alloc hb.out (.cells #[.iface 44 (.agg #[.int .i64 p]), .iface 45 (.agg #[.int .i64 p]), .iface 47 (.agg #[.int .i64 p, .int .i64 f])] 40))
        clear hk hk3 hb c0 c1 c2 g0 g1 g2 HO0 HO1 HO2
        go_cut [12, 13, 14] from 60 to 66 (fun s12 s13 s14 wx => Kept3 w wx p f s12 s13 s14)
        case first =>
          go_region_held3 (fun w' => w'.cell? ⟨wr.heap.size, 0, none⟩ = some (.iface 44 (.agg #[.int .i64 p])) ∧ w'.cell? ⟨wr.heap.size, 1, none⟩ = some (.iface 45 (.agg #[.int .i64 p])) ∧ w'.cell? ⟨wr.heap.size, 2, none⟩ = some (.iface 47 (.agg #[.int .i64 p, .int .i64 f]))) (first | exact ⟨m0, m1, m2⟩ | go_keep) (fail)
          all_goals
            go_wp2_with fail
            go_meet
            exact ⟨_, _, _, rfl, rfl, rfl, by simp [go_sem], by simp [go_sem], by simp [go_sem], (below_alloc (below_alloc (below_alloc bm.out _) _) _).drew⟩
        case rest =>
          obtain ⟨X, Y, Z, rfl, rfl, rfl, x0, y0, z0, BC⟩ := hcut
          clear hm m0 m1 m2 bm BB
          have HFA := Lib.hid (frame_apart p f)
          have HFL := Lib.hid (frame_late p)
          have HRA := Lib.hid (raw_apart p f)
          have HRQ := Lib.hid (raw_quit p)
          have HRL := Lib.hid (raw_late p)
          have HPQ := Lib.hid (player_quit p)
          have HPL := Lib.hid (player_late p)
          have HPA := Lib.hid (player_apart p f)
          have hf0 := fldR0
          unfold rawV at HRA HRQ HRL
          unfold evA at HFA HRA HPA
          unfold evL at HFL HRL HPL
          unfold evQ at HRQ HPQ
          go_wp2_with (first
            | (go_at_call 14; with_reducible refine (HFA.out _).mono ?_; rintro e w5 ⟨rfl, B⟩; replace x0 := cell_keeps B x0; replace y0 := cell_keeps B y0; replace z0 := cell_keeps B z0; replace BC := Lib.hid (below_then BC.out B); clear B)
            | (go_at_call 14; with_reducible refine (HFL.out _).mono ?_; rintro e w5 ⟨rfl, B⟩; replace x0 := cell_keeps B x0; replace y0 := cell_keeps B y0; replace z0 := cell_keeps B z0; replace BC := Lib.hid (below_then BC.out B); clear B)
            | (go_at_call 11; with_reducible refine (HRA.out _).mono ?_; rintro e w5 ⟨rfl, B⟩; have hr := heap_alloc_new w5 (.cells #[.int .i64 3, .int .i64 p, .int .i64 f] 23); obtain ⟨⟨r0, r1, r2⟩, -⟩ := row3 hr; clear hr; replace x0 := cell_alloc (.cells #[.int .i64 3, .int .i64 p, .int .i64 f] 23) (cell_keeps B x0); replace y0 := cell_alloc (.cells #[.int .i64 3, .int .i64 p, .int .i64 f] 23) (cell_keeps B y0); replace z0 := cell_alloc (.cells #[.int .i64 3, .int .i64 p, .int .i64 f] 23) (cell_keeps B z0); replace BC := Lib.hid (below_alloc (below_then BC.out B) (.cells #[.int .i64 3, .int .i64 p, .int .i64 f] 23)); clear B)
            | (go_at_call 12; with_reducible refine (HPQ.out _).mono ?_; rintro e w5 ⟨rfl, B⟩; replace x0 := cell_keeps B x0; replace y0 := cell_keeps B y0; replace z0 := cell_keeps B z0; replace r0 := cell_keeps B r0; replace r1 := cell_keeps B r1; replace r2 := cell_keeps B r2; replace BC := Lib.hid (below_then BC.out B); clear B)
            | (go_at_call 12; with_reducible refine (HPL.out _).mono ?_; rintro e w5 ⟨rfl, B⟩; replace x0 := cell_keeps B x0; replace y0 := cell_keeps B y0; replace z0 := cell_keeps B z0; replace r0 := cell_keeps B r0; replace r1 := cell_keeps B r1; replace r2 := cell_keeps B r2; replace BC := Lib.hid (below_then BC.out B); clear B)
            | (go_at_call 12; with_reducible refine (HPA.out _).mono ?_; rintro e w5 ⟨rfl, B⟩; replace x0 := cell_keeps B x0; replace y0 := cell_keeps B y0; replace z0 := cell_keeps B z0; replace r0 := cell_keeps B r0; replace r1 := cell_keeps B r1; replace r2 := cell_keeps B r2; replace BC := Lib.hid (below_then BC.out B); clear B)
            | (go_at_call 11; with_reducible refine (HRQ.out _).mono ?_; rintro e w5 ⟨rfl, B⟩; replace x0 := cell_keeps B x0; replace y0 := cell_keeps B y0; replace z0 := cell_keeps B z0; replace r0 := cell_keeps B r0; replace r1 := cell_keeps B r1; replace r2 := cell_keeps B r2; replace BC := Lib.hid (below_then BC.out B); clear B)
            | (go_at_call 11; with_reducible refine (HRL.out _).mono ?_; rintro e w5 ⟨rfl, B⟩; replace x0 := cell_keeps B x0; replace y0 := cell_keeps B y0; replace z0 := cell_keeps B z0; replace r0 := cell_keeps B r0; replace r1 := cell_keeps B r1; replace r2 := cell_keeps B r2; replace BC := Lib.hid (below_then BC.out B); clear B))
          go_ret
          exact ⟨rfl, BC.out⟩
      · obtain rfl | rfl | rfl : i = 0 ∨ i = 1 ∨ i = 2 := by omega
        · go_wp2_with (go_at_call 8; with_reducible refine (HO0.out _).mono ?_; rintro e w3 ⟨rfl, B⟩; have hkk := arr_keeps hk.out hs B (.cells #[.iface 44 (.agg #[.int .i64 p])] 28); obtain ⟨⟨c0, c1, c2⟩, ⟨g0, g1, g2⟩⟩ := row3 hkk)
          refine ⟨⟨1, rfl, by omega, ?_, ?_, ?_⟩, by simp [cnt7]⟩
          · unfold Hid; simp [World.setCell, Array.getElem?_modify, hkk, kept0, kept1, kept2]
          · exact (below_alloc (below_then (below_alloc hb.out _) B) _).setCell BB.out.size _
          · have := B.size; simp at this ⊢; omega
        · go_wp2_with (go_at_call 8; with_reducible refine (HO1.out _).mono ?_; rintro e w3 ⟨rfl, B⟩; have hkk := arr_keeps hk.out hs B (.cells #[.iface 45 (.agg #[.int .i64 p])] 28); obtain ⟨⟨c0, c1, c2⟩, ⟨g0, g1, g2⟩⟩ := row3 hkk)
          refine ⟨⟨2, rfl, by omega, ?_, ?_, ?_⟩, by simp [cnt7]⟩
          · unfold Hid; simp [World.setCell, Array.getElem?_modify, hkk, kept0, kept1, kept2]
          · exact (below_alloc (below_then (below_alloc hb.out _) B) _).setCell BB.out.size _
          · have := B.size; simp at this ⊢; omega
        · go_wp2_with (go_at_call 8; with_reducible refine (HO2.out _).mono ?_; rintro e w3 ⟨rfl, B⟩; have hkk := arr_keeps hk.out hs B (.cells #[.iface 47 (.agg #[.int .i64 p, .int .i64 f])] 28); obtain ⟨⟨c0, c1, c2⟩, ⟨g0, g1, g2⟩⟩ := row3 hkk)
          refine ⟨⟨3, rfl, by omega, ?_, ?_, ?_⟩, by simp [cnt7]⟩
          · unfold Hid; simp [World.setCell, Array.getElem?_modify, hkk, kept0, kept1, kept2]
          · exact (below_alloc (below_then (below_alloc hb.out _) B) _).setCell BB.out.size _
          · have := B.size; simp at this ⊢; omega
  · have HBB := BB.out
    go_wp2_with fail
    all_goals first
      | (go_ret; exact ⟨rfl, HBB⟩)
      | (exfalso; omega)
end Go.Proofs.Ytmocpfdmlodgnaa
