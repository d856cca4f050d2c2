/- WALK of the law RunsCut. -/
import Derived.Test.YtifmohdfpfcikaaJl
import Derived.Test.YtifmohdfpfcikaaJi
import Derived.Test.YtifmohdfpfcikaaJr
import Derived.Test.YtifmohdfpfcikaaKi
import Derived.Maps.AppendAt
namespace Go.Proofs.Ytifmohdfpfcikaa
set_option maxRecDepth 100000
open Go.RowKit
set_option linter.unusedVariables false
set_option linter.unusedSimpArgs false

theorem int_info : (Try.prog.info? 3).map (fun i => (i.zero, i.size, i.bytes)) = some (some (.int .i64 0), 1, 8) := by kernel_rfl
/-- v is the call's own slice of the integers zs -/
def OI (w : World) (base : Nat) (v : Value) (zs : List Int) : Prop := w.ownsRow base 3 1 v zs.length (zs.map (Value.int .i64))
def iOne (z : Int) : Obj := .cells #[.int .i64 z] 3
theorem wpList_append_int {w : World} {ops : Array Oper} {rest : List Oper} {o : Oper} {a : Act} {Q : Exit → Act → World → Prop} (hgd : o.guard = none) (s x : Operand)
    (ho : o.op = .call { callee := .builtin .append, args := #[s, x], argTypes := #[33, 33] })
    (base : Nat) (v : Value) (zs : List Int) (z : Int) (hs : a.eval s = v) (hown : OI (w.alloc (iOne z)) base v zs) (hx : a.eval x = .slice (some ⟨w.heap.size, 0, none⟩) 1 1) (hlen : zs.length ≤ 1000) (hbase : base ≤ w.heap.size)
    (h : ∀ v' w', OI w' base v' (zs ++ [z]) → (w.alloc (iOne z)).grownBy w' v.ownBlock → (v'.ownBlock = v.ownBlock ∨ v'.ownBlock = some (w.heap.size + 1)) → wpList Try.prog ops Q rest (a.put o.dst v') w') : wpList Try.prog ops Q (o :: rest) a (w.alloc (iOne z)) := by
  obtain ⟨i0, hi0, hz0, hz1, hz2⟩ := info_parts int_info
  refine wpList_append_own_at (P := Try.prog) (w.alloc (iOne z)) hgd s x 33 ho base 3 i0 (.int .i64 0) 1 8 Try.underlying33 hi0 hz0 hz1 hz2 rfl (by decide) v zs.length _ hs hown ⟨w.heap.size, 0, none⟩ 1 1 [.int .i64 z] hx rfl (cell_one_new _ _ _) (by simp [Value.oneCell']) (by unfold maxLen; omega) (by omega) (by rw [World.size_alloc]; omega) ?_
  intro v' w' h1 h2 _ h4
  refine h v' w' ?_ h2 (by rw [World.size_alloc] at h4; exact h4)
  unfold OI
  rw [List.length_append, List.map_append]
  exact h1
/-- two rows that are not one -/
def Dst (v u : Value) : Prop := ∀ k, v.ownBlock = some k → u.ownBlock ≠ some k
theorem kept_dst {w w' : World} {base : Nat} {e : TypeId} {size n : Nat} {u v : Value} {xs : List Value} (h : w.ownsRow base e size u n xs) (hd : ∀ k, u.ownBlock = some k → v.ownBlock ≠ some k) (hg : w.grownBy w' v.ownBlock) : w'.ownsRow base e size u n xs := by
  refine World.ownsRow.kept h hg ?_
  cases hu : u.ownBlock with
  | none => exact .inl rfl
  | some k => exact .inr (fun e => hd k hu e.symm)
theorem Dst.symm {v u : Value} (h : Dst v u) : Dst u v := fun k e h2 => h k h2 e
theorem Dst.left {v u v2 : Value} {N : Nat} (h : Dst v u) (hu : ∀ k, u.ownBlock = some k → k < N) (e : v2.ownBlock = v.ownBlock ∨ v2.ownBlock = some N) : Dst v2 u := fun k ek hk => by
  rcases e with e | e
  · exact h k (e.symm.trans ek) hk
  · have h1 := Option.some.inj (e.symm.trans ek)
    have h2 := hu k hk
    omega
def lastI (gs : List Gr) (li : Int) : Prop := (gs = [] ∧ li = -1) ∨ ∃ p q, gs = p ++ [q] ∧ li = (q.2.toNat : Int)
theorem lastI_snoc (gs : List Gr) (n : Nat) (x : UInt8) (xi : Int) (h : (x.toNat : Int) = xi) : lastI (gs ++ [(n, x)]) xi := .inr ⟨gs, (n, x), rfl, h.symm⟩
theorem gd_more {gs : List Gr} {li xi : Int} {n : Nat} {x : UInt8} (h : Gd gs) (hl : lastI gs li) (hx : (x.toNat : Int) = xi) (hne : xi ≠ li) (hn : 1 ≤ n) : Gd (gs ++ [(n, x)]) := gd_snoc gs (n, x) h hn (fun p q e e2 => by
  rcases hl with ⟨rfl, _⟩ | ⟨p2, q2, e3, e4⟩
  · cases p <;> cases e
  · rw [e] at e3
    have e5 := List.append_inj' e3 rfl
    have e6 : q = q2 := by have := e5.2; injection this
    subst e6
    exact hne (by rw [e4, ← hx, e2]))
theorem sm_more {gs : List Gr} {n : Nat} {x : UInt8} (h : Sm gs) (hn : n ≤ 60) : Sm (gs ++ [(n, x)]) := fun g hg => by
  rcases List.mem_append.1 hg with h1 | h1
  · exact h g h1
  · rw [List.mem_singleton.1 h1]; exact hn
theorem flat_more (gs : List Gr) (n : Nat) (x : UInt8) : flat (gs ++ [(n, x)]) = flat gs ++ List.replicate n x := by
  rw [flat_app]; show _ ++ (List.replicate n x ++ []) = _; rw [List.append_nil]
theorem OI.form {w : World} {base : Nat} {v : Value} {zs : List Int} (h : OI w base v zs) (n : Nat) (hn : zs.length = n) : ∃ A c, v = .slice A n c ∧ n ≤ c ∧ (∀ j (hj : j < zs.length), ∃ g, A = some ⟨g, 0, none⟩ ∧ g < w.heap.size ∧ w.cell? ⟨g, j, none⟩ = some (.int .i64 zs[j])) := by
  subst hn
  have h' := h
  obtain ⟨hl, hd⟩ := h
  rcases hd with ⟨rfl, h0⟩ | ⟨g, cap, cur, rfl, _, hh, h1, _⟩
  · exact ⟨none, 0, by rw [h0], by omega, fun j hj => absurd hj (by omega)⟩
  · refine ⟨some ⟨g, 0, none⟩, cap, rfl, h1, fun j hj => ⟨g, rfl, ?_, ?_⟩⟩
    · rcases Nat.lt_or_ge g w.heap.size with hlt | hge
      · exact hlt
      · rw [Array.getElem?_eq_none hge] at hh; cases hh
    · have e := World.ownsRow.cellAt (w := w) h' j (by omega)
      rw [List.getElem?_map, List.getElem?_eq_getElem hj, Option.map_some] at e
      exact e
set_option maxHeartbeats 8000000 in
theorem cut_law (A0 : Option Addr) (l0 : List UInt8) (cap0 : Nat) (A1 : Option Addr) (zl : List Int) (cap1 : Nat) (cut : Int) (w : World) (h0 : RB w w.heap.size A0 l0) (k0 : l0.length ≤ cap0) (m0 : cap0 ≤ maxLen) (h1 : RI w w.heap.size A1 zl) (k1 : zl.length ≤ cap1) (m1 : cap1 ≤ maxLen) (hz : ∀ z ∈ zl, -9223372036854775808 ≤ z ∧ z ≤ 9223372036854775807) (b1 : -9223372036854775808 ≤ cut) (b2 : cut ≤ 9223372036854775807) :
    Calls Try.prog 7 #[.slice A0 l0.length cap0, .slice A1 zl.length cap1, .int .i64 cut] w fun e w' => e = .returned (.bool true) ∧ Below w.heap.size w w' := by
  have HG := Lib.hid begun14_any
  obtain ⟨X, hX⟩ : ∃ X, l0.length = X := ⟨_, rfl⟩
  obtain ⟨L, hL⟩ : ∃ L, zl.length = L := ⟨_, rfl⟩
  rw [hX] at k0 ⊢; rw [hL] at k1 ⊢
  have H0 := Lib.hid h0; have H1 := Lib.hid h1; have HX := Lib.hid hX; have HL := Lib.hid hL; have HZ := Lib.hid hz; have B1 := Lib.hid b1; have B2 := Lib.hid b2; have M0 := Lib.hid m0; have M1 := Lib.hid m1; have K0 := Lib.hid k0; have K1 := Lib.hid k1
  clear h0 h1 hX hL hz b1 b2 m0 m1 k0 k1
  go_enter Try.func7, Try.ntmps7
  go_wp2_with (go_at_call 8; with_reducible refine (HG.out _).mono ?_; rintro e w2 ⟨rfl, hb⟩; have HB := Lib.hid hb; clear hb)
  go_loopw [8, 9, 10, 11] (fun b es la i wr => ∃ (gs : List Gr) (zs : List Int) (k : Nat) (li : Int), i = .int .i64 (k : Int) ∧ k ≤ 8 ∧ la = .int .i64 li ∧ Hid (lastI gs li) ∧ Hid (Gd gs) ∧ Hid (Sm gs) ∧ Hid (gs.length ≤ k) ∧ Hid (endsOf gs zs) ∧ Hid (OB wr w.heap.size b (flat gs)) ∧ Hid (OI wr w.heap.size es zs) ∧ Hid (Dst b es) ∧ Hid (Below w.heap.size w wr)) (fun _ _ _ i _ => 8 - (intOf i).toNat)
  case atStart => exact ⟨[], [], 0, -1, rfl, by omega, rfl, .inl ⟨rfl, rfl⟩, trivial, (fun g h => by cases h), Nat.le_refl 0, ⟨rfl, (fun j h => by cases h)⟩, OB.nil _ _, World.ownsRow_nil _ _ _ _, (fun k e => by cases e), HB.out⟩
  case round =>
    obtain ⟨gs, zs, k, li, rfl, hk, rfl, hla, hgd, hsm, hgl, hes, hob, hoi, hds, hb⟩ := hrel
    by_cases hgo : k < X ∧ k < L ∧ k < 8
    · obtain ⟨g1, g2, g3⟩ := hgo
      obtain ⟨b0, off0, rfl, hb0, hc0⟩ := H0.out.below hb.out (by have := HX.out; omega)
      obtain ⟨b1, off1, rfl, hb1, hc1⟩ := H1.out.below hb.out (by have := HL.out; omega)
      have q0 := hc0 k (by have := HX.out; omega)
      have q1 := hc1 k (by have := HL.out; omega)
      obtain ⟨x, hx⟩ : ∃ x : UInt8, l0[k]'(by have := HX.out; omega) = x := ⟨_, rfl⟩
      obtain ⟨z, hz⟩ : ∃ z : Int, zl[k]'(by have := HL.out; omega) = z := ⟨_, rfl⟩
      rw [hx] at q0
      rw [hz] at q1
      unfold vb at q0
      obtain ⟨xi, hxi⟩ : ∃ xi : Int, Hid ((x.toNat : Int) = xi) := ⟨_, rfl⟩
      rw [hxi.out] at q0
      have hxr : 0 ≤ xi ∧ xi ≤ 255 := by have := hxi.out; have := x.toNat_lt; omega
      obtain ⟨hx0, hx1⟩ := hxr
      have e1 : (k : Int) < (X : Int) := by omega
      have e2 : (k : Int) < (L : Int) := by omega
      have e3 : (k : Int) < 8 := by omega
      obtain ⟨t, ht⟩ : ∃ t : Int, z.tmod 60 = t := ⟨_, rfl⟩
      have ht0 : -60 < t ∧ t < 60 := by
        rw [← ht]
        exact ⟨by have := Int.lt_tmod_of_pos z (show (0 : Int) < 60 by omega); omega, Int.tmod_lt_of_pos z (by omega)⟩
      obtain ⟨ht0, ht1⟩ := ht0
      clear hc0 hc1 hx hz
      obtain ⟨m6, hm6⟩ : ∃ m6 : Int, t % 60 = m6 := ⟨_, rfl⟩
      have hm7 : (t + 60) % 60 = m6 := by omega
      obtain ⟨nI, hnI⟩ : ∃ nI : Int, 1 + m6 = nI := ⟨_, rfl⟩
      have hn1 : 1 ≤ nI ∧ nI ≤ 60 := by omega
      obtain ⟨hn1, hn2⟩ := hn1
      obtain ⟨N, hN⟩ : ∃ N : Nat, Hid (nI = (N : Int)) := ⟨nI.toNat, by show _ = _; omega⟩
      have HQ0 : Hid (w.cell? ⟨b0, off0 + k, none⟩ = some (.int .u8 xi)) := (hb.out.cell (p := ⟨b0, off0 + k, none⟩) hb0).symm.trans q0
      have hk2 : Hid (k + 1 ≤ 8) := by show _ ≤ _; omega
      have hms : Hid (8 - (k + 1) < 8 - k) := by show _ < _; omega
      by_cases hxl : xi = li
      · have hb3 : (xi == li) = true := by simp [hxl]
        have HXL := Lib.hid hxl; clear hxl
        go_wp2
        go_roundw
        case rel => exact ⟨gs, zs, k + 1, li, by go_num, hk2.out, rfl, hla, hgd, hsm, Nat.le_succ_of_le hgl.out, hes, hob, hoi, hds, hb⟩
        case measure => simp [intOf]; have := hms.out; omega
      · have hb3 : (xi == li) = false := by simpa using hxl
        have HXL := Lib.hid hxl; clear hxl
        go_wp2_with fail
        generalize (t + 60) % 60 = m8
        clear hm6 hm7 hnI ht
        go_loopw [8, 13] (fun b c wr => ∃ (j : Nat) (yi : Int), c = .int .i64 yi ∧ Hid (yi = (j : Int)) ∧ 0 ≤ yi ∧ yi ≤ nI ∧ Hid (OB wr w.heap.size b (flat gs ++ List.replicate j x)) ∧ Hid (OI wr w.heap.size u9 zs) ∧ Hid (Dst b u9) ∧ Hid (Below w.heap.size w wr)) (fun _ c _ => (nI - intOf c).toNat)
        case atStart => exact ⟨0, 0, rfl, rfl, by omega, by omega, by show OB _ _ _ _; rw [List.replicate_zero, List.append_nil]; exact hob.out, hoi, hds, hb⟩
        case round =>
          obtain ⟨j, yi, rfl, hyj, hy0, hyn, hob2, hoi2, hds2, hb2⟩ := hrel
          have hfl : (flat gs).length ≤ 480 := by have h1 := flat_60 gs hsm.out; have h2 := hgl.out; omega
          have HFL := Lib.hid hfl; clear hfl
          have q0 := (hb2.out.cell (p := ⟨b0, off0 + k, none⟩) hb0).trans HQ0.out
          by_cases hlt3 : yi < nI
          · have hjn : j ≤ 60 := by have := hyj.out; omega
            have HLEN := Lib.hid (show (flat gs ++ List.replicate j x).length + [x].length ≤ 140737488355328 from app_one (flat gs) j 61 x (by have := HFL.out; omega) (by omega) (by omega))
            have HONE := Lib.hid (one_reads wr xi x hxi.out)
            have HBS : Hid (w.heap.size ≤ (wr.alloc (bOne xi)).heap.size) := by have := hb2.out.size; show _ ≤ _; rw [World.size_alloc]; omega
            have HB3 := Lib.hid (hb2.out.alloc hb2.out.size (bOne xi))
            have ho3 : OB (wr.alloc (bOne xi)) w.heap.size _ (flat gs ++ List.replicate j x) := hob2.out.alloc _
            have hi3 : OI (wr.alloc (bOne xi)) w.heap.size u9 zs := hoi2.out.alloc _
            have HO3 := Lib.hid ho3; have HI3 := Lib.hid hi3; clear ho3 hi3
            have hyj2 : Hid (yi + 1 = ((j + 1 : Nat) : Int)) := by have := hyj.out; show _ = _; omega
            have hms2 : Hid ((nI - (yi + 1)).toNat < (nI - yi).toNat) := by show _ < _; omega
            have hyn2 : Hid (yi + 1 ≤ nI) := by show _ ≤ _; omega
            have hy02 : Hid (0 ≤ yi + 1) := by show _ ≤ _; omega
            go_wp2_with (at_builtin; refine wpList_append_bytes rfl (.tmp 62) (.tmp 67) rfl w.heap.size _ (flat gs ++ List.replicate j x) [x] rfl HO3.out (wr.heap.size + 1) _ 1 rfl HONE.out HLEN.out HBS.out ?_; intro v2 w4 o2 gr2 e2; have hb4 := HB3.out.grown gr2 HBS.out HO3.out.ge; have hi4 : OI w4 w.heap.size u9 zs := kept_dst HI3.out (fun k e => hds2.out.symm k e) gr2; have hd4 := hds2.out.left (fun k e => (World.ownsRow.lt HI3.out k e).2) e2; have O2 := Lib.hid o2; have HB4 := Lib.hid hb4; have HI4 := Lib.hid hi4; have HD4 := Lib.hid hd4; clear o2 gr2 e2 hb4 hi4 hd4)
            go_roundw
            case rel => exact ⟨j + 1, yi + 1, rfl, hyj2, hy02.out, hyn2.out, by show OB _ _ _ _; rw [List.replicate_succ', ← List.append_assoc]; exact O2.out, HI4, HD4, HB4⟩
            case measure => exact hms2.out
          · have hjN : j = N := by have := hyj.out; have := hN.out; omega
            subst hjN
            have hj1 : 1 ≤ j := by have := hN.out; omega
            have hj60 : j ≤ 60 := by have := hN.out; omega
            have hfm := flat_more gs j x
            obtain ⟨F, hF⟩ : ∃ F, Hid ((flat (gs ++ [(j, x)])).length = F) := ⟨_, rfl⟩
            have hob3 := hob2.out
            rw [← hfm] at hob3
            obtain ⟨A8, c8, rfl, -, -, -⟩ := hob3.form_n F hF.out
            have GD2 := Lib.hid (gd_more hgd.out hla.out hxi.out HXL.out hj1)
            have SM2 := Lib.hid (sm_more (x := x) hsm.out hj60)
            have ES2 := Lib.hid (endsOf_snoc hes.out (j, x))
            have LA2 := Lib.hid (lastI_snoc gs j x xi hxi.out)
            have GL2 : Hid ((gs ++ [(j, x)]).length ≤ k + 1) := by have := hgl.out; show _ ≤ _; rw [List.length_append, List.length_singleton]; omega
            have hi3 : OI (wr.alloc (iOne (F : Int))) w.heap.size u9 zs := hoi2.out.alloc _
            have ho3 : OB (wr.alloc (iOne (F : Int))) w.heap.size (.slice A8 F c8) (flat (gs ++ [(j, x)])) := hob3.alloc _
            have HI3 := Lib.hid hi3; have HO3 := Lib.hid ho3
            have HZL : Hid (zs.length ≤ 1000) := by have h1 := hes.out.1; have h2 := hgl.out; show _ ≤ _; omega
            have HBS := Lib.hid hb2.out.size
            have HB3 := Lib.hid (hb2.out.alloc hb2.out.size (iOne (F : Int)))
            have HBZ : Hid (w.heap.size ≤ (wr.alloc (iOne (F : Int))).heap.size) := HB3.out.size
            rw [hF.out] at ES2
            clear hfm hob3 hi3 ho3
            go_wp2_with (at_builtin; refine wpList_append_int rfl (.tmp 69) (.tmp 72) rfl w.heap.size u9 zs (F : Int) rfl HI3.out rfl HZL.out HBS.out ?_; intro v9 w5 o5 g5 e5; have hb5 := HB3.out.grown g5 HBZ.out (fun k e => (World.ownsRow.lt HI3.out k e).1); have ho5 : OB w5 w.heap.size (.slice A8 F c8) (flat (gs ++ [(j, x)])) := kept_dst HO3.out (fun k e => hds2.out k e) g5; have hd5 : Dst (.slice A8 F c8) v9 := (hds2.out.symm.left (fun k e => (World.ownsRow.lt HO3.out k e).2) (by rw [World.size_alloc]; exact e5)).symm; have O5 := Lib.hid o5; have HB5 := Lib.hid hb5; have HO5 := Lib.hid ho5; have HD5 := Lib.hid hd5; clear o5 g5 e5 hb5 ho5 hd5)
            go_roundw
            case rel => exact ⟨gs ++ [(j, x)], zs ++ [(F : Int)], k + 1, xi, by go_num, hk2.out, rfl, LA2, GD2, SM2, GL2, ES2, HO5, O5, HD5, HB5⟩
            case measure => simp [intOf]; have := hms.out; omega
    · obtain ⟨F, hF⟩ : ∃ F, Hid ((flat gs).length = F) := ⟨_, rfl⟩
      obtain ⟨G, hG⟩ : ∃ G, Hid (gs.length = G) := ⟨_, rfl⟩
      have hzG : zs.length = G := by rw [← hG.out]; exact hes.out.1
      have hG8 : G ≤ 8 := by have := hgl.out; have := hG.out; omega
      have hF480 : Hid (F ≤ 480) := by have h1 := flat_60 gs hsm.out; have h2 := hG.out; have h3 := hF.out; show _ ≤ _; omega
      obtain ⟨A8, c8, rfl, hc8, hm8, hr8⟩ := hob.out.form_n F hF.out
      obtain ⟨A9, c9, rfl, hc9, hcz⟩ := hoi.out.form G hzG
      have HCZ := Lib.hid hcz; have HR8 := Lib.hid hr8
      obtain ⟨c, hc⟩ : ∃ c, encG 0 gs = c := ⟨_, rfl⟩
      obtain ⟨C, hC⟩ : ∃ C, Hid (c.length = C) := ⟨_, rfl⟩
      have hC2 : C = 2 * G := by rw [← hC.out, ← hc, encG_len2 gs hsm.out, hG.out]
      have HE : Hid (Calls Try.prog 10 #[.slice A8 F c8] wr fun e w' => ∃ v, e = .returned v ∧ OB w' wr.heap.size v c ∧ Below wr.heap.size wr w') := by
        have h := encode_any A8 (flat gs) F c8 0 wr hr8 hF.out hc8 hm8 (by have := hF480.out; omega)
        rw [groups_flat gs hgd.out, hc] at h
        exact h
      have HCE := Lib.hid hc
      have hG2 : 2 * (G : Int) = (C : Int) := by omega
      have hC16 : C ≤ 16 := by omega
      have HG8 := Lib.hid hG8; have HM8 := Lib.hid hm8; have HC2 := Lib.hid hC2
      have hgd3 : (¬ (k : Int) < (X : Int)) ∨ ((k : Int) < (X : Int) ∧ ¬ (k : Int) < (L : Int)) ∨ ((k : Int) < (X : Int) ∧ (k : Int) < (L : Int) ∧ ¬ (k : Int) < 8) := by omega
      clear hcz hr8 hc hzG hm8 hgo hC2 hG8
      have hgd4 : ∃ f1 f2 f3 : Prop, True := ⟨True, True, True, trivial⟩
      clear hgd4
      rcases hgd3 with e1 | ⟨e1, e2⟩ | ⟨e1, e2, e3⟩
      all_goals
        go_wp2_with fail
        (with_reducible refine HE.out.mono ?_)
        rintro e w3 ⟨v3, rfl, ho3, hb3⟩
        obtain ⟨A3, c3, rfl, hc3, hm3, hr3⟩ := ho3.form_n C hC.out
        have HB3 := Lib.hid (hb.out.trans (hb3.mono hb.out.size))
        have HR3 := Lib.hid hr3; have HM3 := Lib.hid hm3
        have HR83 := Lib.hid (HR8.out.next hb3)
        have HBB := Lib.hid hb3
        clear ho3 hb3 hr3 hm3
        by_cases n1 : cut < 0
        · go_wp2
          go_ret
          exact ⟨rfl, HB3.out⟩
        by_cases n2 : (C : Int) < cut
        · go_wp2
          go_ret
          exact ⟨rfl, HB3.out⟩
        have n3 : 0 ≤ cut := by omega
        obtain ⟨q, hq⟩ : ∃ q, cut.toNat = q := ⟨_, rfl⟩
        have hqC : q ≤ C := by omega
        have hcc : cut ≤ (c3 : Int) := by omega
        have HQ := Lib.hid hq
        have hdl : (c.take q).length = q := by rw [List.length_take, hC.out]; omega
        have HDL := Lib.hid hdl; clear hdl
        have HRD : Hid (RB w3 w3.heap.size A3 (c.take q)) := HR3.out.take q
        by_cases hodd : q % 2 = 1
        · obtain ⟨j, hj⟩ : ∃ j, q = 2 * j + 1 := ⟨q / 2, by omega⟩
          have hcn : cnt 1000 0 (items true (c.take q)) = .form := by rw [hj, ← HCE.out]; exact cut_odd gs hgd.out hsm.out (by have := hG.out; have := HG8.out; omega) j (by have := hG.out; have := HC2.out; omega)
          have hD := dec_any A3 (c.take q) q c3 1000 1000 w3 (.inr ⟨by omega, rfl⟩) (by omega) HRD.out HDL.out (by omega) HM3.out (by omega) (fun t h => by rw [hcn] at h; cases h)
          rw [hcn] at hD
          have HD : Hid (Calls Try.prog 12 #[.slice A3 q c3, .int .i64 1000] w3 fun e w' => e = .returned (.tuple #[.slice none 0 0, .int .i64 1]) ∧ Below w3.heap.size w3 w') := hD
          have p1 : cut % 2 = 1 := by omega
          have p2 : cut.tmod 2 = 1 := by rw [Int.tmod_eq_emod_of_nonneg n3]; exact p1
          clear hD hcn hj hodd hqC
          go_wp2_with fail
          (with_reducible refine HD.out.mono ?_)
          rintro e w4 ⟨rfl, hb4⟩
          have HB4 := Lib.hid (HB3.out.trans (hb4.mono HB3.out.size))
          clear hb4
          go_wp2
          go_ret
          exact ⟨rfl, HB4.out⟩
        · obtain ⟨j, hj⟩ : ∃ j, q = 2 * j := ⟨q / 2, by omega⟩
          obtain ⟨K, hK⟩ : ∃ K, (flat (gs.take j)).length = K := ⟨_, rfl⟩
          have hjG : j ≤ G := by have := HC2.out; omega
          have hKF : K ≤ F := by
            have e := congrArg List.length (flat_app (gs.take j) (gs.drop j))
            rw [List.take_append_drop, List.length_append, hF.out, hK] at e
            omega
          obtain ⟨hcn, hex⟩ := cut_even gs hgd.out hsm.out (by have := hG.out; have := HG8.out; omega) j (by have := hG.out; omega)
          rw [HCE.out, ← hj, hK] at hcn hex
          have hD := dec_any A3 (c.take q) q c3 1000 1000 w3 (.inr ⟨by omega, rfl⟩) (by omega) HRD.out HDL.out (by omega) HM3.out (by omega) (fun t h => by
            rw [hcn] at h
            have h2 := Cnt.ok.inj h
            have := hF480.out
            omega)
          rw [hcn, hex] at hD
          have p1 : (cut % 2 == 1) = false := by rw [beq_eq_false_iff_ne]; omega
          have p2 : (cut.tmod 2 == 1) = false := by rw [Int.tmod_eq_emod_of_nonneg n3]; exact p1
          have hK8 : (K : Int) ≤ (c8 : Int) := by omega
          have hK0 : (0 : Int) ≤ (K : Int) := by omega
          have HCE2 := Lib.hid hcn
          by_cases hc0 : cut ≤ 0
          · have hj0 : j = 0 := by omega
            have hKz : K = 0 := by rw [← hK, hj0]; rfl
            subst hKz
            have hq0 : q = 0 := by omega
            have HD : Hid (Calls Try.prog 12 #[.slice A3 q c3, .int .i64 1000] w3 fun e w' => (∃ v, e = .returned (.tuple #[v, .int .i64 0]) ∧ OB w' w3.heap.size v ((flat gs).take 0)) ∧ Below w3.heap.size w3 w') := hD
            clear hD hcn hex hj hj0 hq0 hK hodd hqC
            have HT5 : Hid (((flat gs).take 0).length = 0) := by show _ = _; rw [List.length_take, hF.out]; omega
            go_wp2_with fail
            (with_reducible refine HD.out.mono ?_)
            rintro e w4 ⟨⟨v5, rfl, ho5⟩, hb4⟩
            obtain ⟨A5, c5, rfl, -, -, hr5⟩ := ho5.form_n 0 HT5.out
            have HB4 := Lib.hid (HB3.out.trans (hb4.mono HB3.out.size))
            have q5 : (convert 22 9 (.slice A5 0 c5)).run Try.prog w4.drew = .ok (.string (str ((flat gs).take 0))) w4.drew := conv_rb (show RB w4.drew w4.drew.heap.size A5 ((flat gs).take 0) from hr5) 0 c5 HT5.out
            have q8 : (convert 22 9 (.slice A8 0 c8)).run Try.prog w4.drew = .ok (.string (str ((flat gs).take 0))) w4.drew := conv_rb (show RB w4.drew w4.drew.heap.size A8 ((flat gs).take 0) from ((HR83.out.next hb4).take 0)) 0 c8 HT5.out
            clear hb4 ho5 hr5
            go_wp2_with fail
            go_region
            go_wp2
            go_ret
            exact ⟨rfl, HB4.out.drew⟩
          · obtain ⟨i, hi⟩ : ∃ i, j = i + 1 := ⟨j - 1, by omega⟩
            subst hi
            have hiz : i < zs.length := by have := hes.out.1; have := hG.out; omega
            obtain ⟨g9, hA, hg9, hcell⟩ := HCZ.out i hiz
            subst hA
            have hzi := hes.out.2 i hiz
            rw [hK] at hzi
            rw [hzi] at hcell
            have hdv : cut / 2 = (i : Int) + 1 := by omega
            have hdv2 : cut.tdiv 2 = (i : Int) + 1 := by rw [Int.tdiv_eq_ediv_of_nonneg n3]; exact hdv
            have hiG : (i : Int) < (G : Int) := by omega
            have hiG2 : i < G := by omega
            have HCC := Lib.hid ((HBB.out.cell (p := ⟨g9, i, none⟩) hg9).trans hcell)
            have HG9 := Lib.hid (Nat.lt_of_lt_of_le hg9 HBB.out.size)
            have HD : Hid (Calls Try.prog 12 #[.slice A3 q c3, .int .i64 1000] w3 fun e w' => (∃ v, e = .returned (.tuple #[v, .int .i64 0]) ∧ OB w' w3.heap.size v ((flat gs).take K)) ∧ Below w3.heap.size w3 w') := hD
            have hcp : 0 < cut := by omega
            clear hD hcn hex hj hK hodd hqC hcell hzi hiz hc0
            have HT5 : Hid (((flat gs).take K).length = K) := by show _ = _; rw [List.length_take, hF.out]; omega
            go_wp2_with fail
            (with_reducible refine HD.out.mono ?_)
            rintro e w4 ⟨⟨v5, rfl, ho5⟩, hb4⟩
            obtain ⟨A5, c5, rfl, -, -, hr5⟩ := ho5.form_n K HT5.out
            have HB4 := Lib.hid (HB3.out.trans (hb4.mono HB3.out.size))
            have q5 : (convert 22 9 (.slice A5 K c5)).run Try.prog w4.drew = .ok (.string (str ((flat gs).take K))) w4.drew := conv_rb (show RB w4.drew w4.drew.heap.size A5 ((flat gs).take K) from hr5) K c5 HT5.out
            have q8 : (convert 22 9 (.slice A8 K c8)).run Try.prog w4.drew = .ok (.string (str ((flat gs).take K))) w4.drew := conv_rb (show RB w4.drew w4.drew.heap.size A8 ((flat gs).take K) from ((HR83.out.next hb4).take K)) K c8 HT5.out
            have qc := (hb4.cell (p := ⟨g9, i, none⟩) HG9.out).trans HCC.out
            clear hb4 ho5 hr5
            go_wp2_with fail
            go_region
            go_wp2
            go_ret
            exact ⟨rfl, HB4.out.drew⟩
end Go.Proofs.Ytifmohdfpfcikaa
