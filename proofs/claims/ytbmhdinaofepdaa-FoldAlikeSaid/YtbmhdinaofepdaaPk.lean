/- WALK of quintainlaw20.begun. -/
import Derived.Test.YtbmhdinaofepdaaPj
import Derived.Test.YtbmhdinaofepdaaMp
namespace Go.Proofs.Ytbmhdinaofepdaa
set_option maxRecDepth 100000
open Go.RowKit
set_option linter.unusedVariables false
set_option linter.unusedSimpArgs false

/-- a guarded load of a game, and of one in a row -/
theorem wpList_load_gp {P : Program} {ops : Array Oper} {rest : List Oper} {op : Oper} {a : Act} {w : World} {Q : Exit → Act → World → Prop} (hw : Region.wanted op (yielded ops a.tmps) = true) (ty : TypeId) (x : Operand) (ho : op.op = .load ty x)
    (b : Nat) (hx : a.eval x = .pointer (some ⟨b, 0, none⟩)) (t : TypeId) (g : List Int) (h : GA w b t g) {n : Nat} {e : TypeId} (hu : P.underlying ty = some (.array n e)) (hi : (P.info? ty).map (·.size) = some g.length)
    (hk : wpList P ops Q rest (a.put op.dst (.agg (gC g))) w) : wpList P ops Q (op :: rest) a w :=
  wpList_step fun K hK => by rw [if_pos hw]; exact wp_load_g ty x ho b hx t g h hu hi (hK _ _ hk)
theorem wpList_load_gsp {P : Program} {ops : Array Oper} {rest : List Oper} {op : Oper} {a : Act} {w : World} {Q : Exit → Act → World → Prop} {b n : Nat} {T : TypeId} {G : Nat → List Int} (hw : Region.wanted op (yielded ops a.tmps) = true) (ty : TypeId) (x : Operand) (ho : op.op = .load ty x)
    (k q : Nat) (hq : k * 32 = q) (hx : a.eval x = .pointer (some ⟨b, q, none⟩)) (hk : k < n) (g : List Int) (hg : G k = g) (h : GS w b T n G) {m : Nat} {e : TypeId} (hu : P.underlying ty = some (.array m e)) (hi : (P.info? ty).map (·.size) = some 32)
    (hkk : wpList P ops Q rest (a.put op.dst (.agg (gC g))) w) : wpList P ops Q (op :: rest) a w := by
  subst hg hq
  refine wpList_step fun K hK => ?_
  rw [if_pos hw]
  refine wp_load_mid ty x ho b (k * 32) hx (gC (G k)).toList _ (h.range k hk) hu rfl (by rw [hi]; simp [gC_size, h.len k hk]) (hK _ _ ?_)
  simpa using hkk
def kOps : List O4 := [⟨11, 1, 0, 0⟩, ⟨3, 2, 2, 1⟩]
def kPs : List (List UInt8) := [[3], [4]]
def kT : ByteArray := ⟨#[116]⟩
def kG : List Int := fdN kT kOps 0 kPs (zG 32) 2
def kH : List Int := fdN kT kOps 2 kPs kG 2
theorem k_g0 : (fdN kT kOps 0 kPs (zG 32) 0)[2]? = some 0 := by decide +kernel
theorem k_g1 : (fdN kT kOps 0 kPs (zG 32) 1)[2]? = some 3 := by decide +kernel
theorem k_g2 : kG[2]? = some 7 := by decide +kernel
theorem k_h2 : kH[2]? = some 14 := by decide +kernel
theorem GS.cell_of {w : World} {b n : Nat} {T : TypeId} {G : Nat → List Int} (h : GS w b T n G) (k j q : Nat) (hk : k < n) (hj : j < 32) (hq : k * 32 + j = q) (x : Int) (hx : (G k)[j]? = some x) : w.cell? ⟨b, q, none⟩ = some (.int .i32 x) := by
  subst hq
  rw [World.rowIs.cell h.row (i := k * 32 + j) (by omega), gsF_at _ _ _ hj, List.getD_eq_getElem?_getD, hx]; rfl
theorem infoC32 : (Try.prog.info? 21).map (·.size) = some 1 := by kernel_rfl
theorem k_index (w : World) : (Instr.index 31 (.agg (gC kH)) (.int .i64 2)).run Try.prog w = .ok (.int .i32 14) w := by
  have hl : kH.length = 32 := by decide +kernel
  have := index_g (P := Try.prog) 31 kH Try.underlying31 Try.underlying21 rfl infoC32 2 (by rw [hl]; omega) hl w
  have e : kH[2]'(by rw [hl]; omega) = 14 := by
    have h := k_h2
    rw [List.getElem?_eq_getElem (by rw [hl]; omega)] at h
    exact Option.some.inj h
  rw [e] at this
  exact this
def begunW (w : World) : World := ((((w.alloc (.cells #[.int .i64 11, .int .i64 1, .int .i64 0, .int .i64 0, .int .i64 3, .int .i64 2, .int .i64 2, .int .i64 1] 46)).alloc (.cells #[.string ⟨#[116]⟩, .slice (some ⟨w.heap.size, 0, none⟩) 2 2] 24)).alloc (.cells #[.int .u8 3] 5)).alloc (.cells #[.int .u8 4] 5)).alloc (.cells #[.slice (some ⟨w.heap.size + 1 + 1, 0, none⟩) 1 1, .slice (some ⟨w.heap.size + 1 + 1 + 1, 0, none⟩) 1 1] 43)
theorem begunW_facts (w W : World) (h : W = begunW w) : RO W W.heap.size (some ⟨w.heap.size, 0, none⟩) kOps ∧ RP W W.heap.size (some ⟨w.heap.size + 1 + 1 + 1 + 1, 0, none⟩) kPs ∧
    W.cell? ⟨w.heap.size + 1, 0, none⟩ = some (.string ⟨#[116]⟩) ∧ W.cell? ⟨w.heap.size + 1, 1, none⟩ = some (.slice (some ⟨w.heap.size, 0, none⟩) 2 2) ∧ Below w.heap.size w W ∧ w.heap.size + 1 < W.heap.size := by
  unfold begunW at h
  obtain ⟨o1, ho1⟩ : ∃ o : Obj, o = (.cells #[.int .i64 11, .int .i64 1, .int .i64 0, .int .i64 0, .int .i64 3, .int .i64 2, .int .i64 2, .int .i64 1] 46) := ⟨_, rfl⟩
  obtain ⟨o2, ho2⟩ : ∃ o : Obj, o = .cells #[.string ⟨#[116]⟩, .slice (some ⟨w.heap.size, 0, none⟩) 2 2] 24 := ⟨_, rfl⟩
  obtain ⟨o3, ho3⟩ : ∃ o : Obj, o = .cells #[.int .u8 3] 5 := ⟨_, rfl⟩
  obtain ⟨o4, ho4⟩ : ∃ o : Obj, o = .cells #[.int .u8 4] 5 := ⟨_, rfl⟩
  obtain ⟨o5, ho5⟩ : ∃ o : Obj, o = .cells #[.slice (some ⟨w.heap.size + 1 + 1, 0, none⟩) 1 1, .slice (some ⟨w.heap.size + 1 + 1 + 1, 0, none⟩) 1 1] 43 := ⟨_, rfl⟩
  rw [← ho1, ← ho2, ← ho3, ← ho4, ← ho5] at h
  obtain ⟨W1, h1⟩ : ∃ x, x = w.alloc o1 := ⟨_, rfl⟩
  rw [← h1] at h
  obtain ⟨W2, h2⟩ : ∃ x, x = W1.alloc o2 := ⟨_, rfl⟩
  rw [← h2] at h
  obtain ⟨W3, h3⟩ : ∃ x, x = W2.alloc o3 := ⟨_, rfl⟩
  rw [← h3] at h
  obtain ⟨W4, h4⟩ : ∃ x, x = W3.alloc o4 := ⟨_, rfl⟩
  rw [← h4] at h
  have s1 : W1.heap.size = w.heap.size + 1 := by rw [h1, World.size_alloc]
  have s2 : W2.heap.size = w.heap.size + 1 + 1 := by rw [h2, World.size_alloc, s1]
  have s3 : W3.heap.size = w.heap.size + 1 + 1 + 1 := by rw [h3, World.size_alloc, s2]
  have s4 : W4.heap.size = w.heap.size + 1 + 1 + 1 + 1 := by rw [h4, World.size_alloc, s3]
  have s5 : W.heap.size = w.heap.size + 1 + 1 + 1 + 1 + 1 := by rw [h, World.size_alloc, s4]
  have b1 : Below w.heap.size w W1 := by rw [h1]; exact (Below.refl _ _).alloc (Nat.le_refl _) _
  have b2 : Below W1.heap.size W1 W2 := by rw [h2]; exact (Below.refl _ _).alloc (Nat.le_refl _) _
  have b3 : Below W2.heap.size W2 W3 := by rw [h3]; exact (Below.refl _ _).alloc (Nat.le_refl _) _
  have b4 : Below W3.heap.size W3 W4 := by rw [h4]; exact (Below.refl _ _).alloc (Nat.le_refl _) _
  have b5 : Below W4.heap.size W4 W := by rw [h]; exact (Below.refl _ _).alloc (Nat.le_refl _) _
  have b45 : Below W3.heap.size W3 W := b4.trans (b5.mono (by omega))
  have b35 : Below W2.heap.size W2 W := b3.trans (b45.mono (by omega))
  have b25 : Below W1.heap.size W1 W := b2.trans (b35.mono (by omega))
  have r1 : RO W1 W1.heap.size (some ⟨w.heap.size, 0, none⟩) kOps := by rw [s1, h1, ho1]; exact ops_new w kOps
  have r3 : RB W W.heap.size (some ⟨w.heap.size + 1 + 1, 0, none⟩) [3] := by
    have : RB W3 W3.heap.size (some ⟨w.heap.size + 1 + 1, 0, none⟩) [3] := by rw [s3, ← s2, h3, ho3]; exact bytes_new W2 [3]
    exact (this.below b45).more (by omega)
  have r4 : RB W W.heap.size (some ⟨w.heap.size + 1 + 1 + 1, 0, none⟩) [4] := by
    have : RB W4 W4.heap.size (some ⟨w.heap.size + 1 + 1 + 1, 0, none⟩) [4] := by rw [s4, ← s3, h4, ho4]; exact bytes_new W3 [4]
    exact (this.below b5).more (by omega)
  have c2 := two_cells (w := W1) (w1 := W) (u := .string ⟨#[116]⟩) (v := .slice (some ⟨w.heap.size, 0, none⟩) 2 2) (T := 24) (B := W2.heap.size) (by rw [← ho2, ← h2]; exact b35) (by omega)
  rw [s1] at c2
  have c5 := two_cells (w := W4) (w1 := W) (u := .slice (some ⟨w.heap.size + 1 + 1, 0, none⟩) 1 1) (v := .slice (some ⟨w.heap.size + 1 + 1 + 1, 0, none⟩) 1 1) (T := 43) (B := W.heap.size) (by rw [← ho5, ← h]; exact Below.refl _ _) (by omega)
  rw [s4] at c5
  refine ⟨(r1.below b25).more (by omega), fun _ => ⟨w.heap.size + 1 + 1 + 1 + 1, 0, rfl, by omega, fun j l hj => ?_⟩, c2.1, c2.2.1, b1.trans (b25.mono (by omega)), by omega⟩
  match j, hj with
  | 0, hj =>
    obtain rfl : [3] = l := Option.some.inj hj
    exact ⟨_, 1, c5.1, r3, Nat.le_refl _, by unfold maxLen; omega⟩
  | 1, hj =>
    obtain rfl : [4] = l := Option.some.inj hj
    exact ⟨_, 1, c5.2.1, r4, Nat.le_refl _, by unfold maxLen; omega⟩
  | n + 2, hj => simp [kPs] at hj
set_option maxHeartbeats 1000000 in
theorem begun20_any (w : World) : Calls Try.prog 7 #[] w fun e w' => e = .returned (.bool true) ∧ Below w.heap.size w w' := by
  have hz := zeroState
  obtain ⟨W, hW⟩ : ∃ W, W = begunW w := ⟨_, rfl⟩
  obtain ⟨ro, rp, c0, c1, bW, hs⟩ := begunW_facts w W hW
  unfold begunW at hW
  obtain ⟨cG, hcG⟩ : ∃ G, fdN kT kOps 0 kPs (zG 32) 2 = G := ⟨_, rfl⟩
  obtain ⟨cH, hcH⟩ : ∃ H, fdN kT kOps 2 kPs cG 2 = H := ⟨_, rfl⟩
  have hgG : gam cG := by rw [← hcG]; exact fdN_gam gam.zero 2
  have HZ1 := Lib.hid (gam_len hgG)
  have HL1 := Lib.hid hgG.1
  have HGG := Lib.hid hgG
  have HW := Lib.hid hW; have RO' := Lib.hid ro; have RP' := Lib.hid rp; have C0 := Lib.hid c0; have C1 := Lib.hid c1; have BW := Lib.hid bW; have HS := Lib.hid hs
  have HE : Hid (Calls Try.prog 13 #[.agg #[.string ⟨#[116]⟩, .slice (some ⟨w.heap.size, 0, none⟩) 2 2], .slice (some ⟨w.heap.size + 1 + 1 + 1 + 1, 0, none⟩) 2 2] W fun e w' => ∃ X, e = .returned (.slice (some ⟨X, 0, none⟩) 3 3) ∧ W.heap.size ≤ X ∧ GS w' X 31 3 (fdN kT kOps 0 kPs (zG 32)) ∧ Below W.heap.size W w') :=
    each_any W kT kOps 2 rfl _ 2 W.heap.size ro (Nat.le_refl _) (by omega) (by unfold maxLen; omega) (by decide) _ kPs 2 2 rfl rp (by omega) 3 rfl
  have K0 := Lib.hid k_g0; have K1 := Lib.hid k_g1; have K2 : Hid (cG[2]? = some 7) := by rw [← hcG]; exact k_g2
  have hix : ∀ w, (Instr.index 31 (.agg (gC cH)) (.int .i64 2)).run Try.prog w = .ok (.int .i32 14) w := by rw [← hcH, ← hcG]; exact k_index
  have HCG := Lib.hid hcG; have HCH := Lib.hid hcH
  clear hW ro rp c0 c1 bW hs hgG hcG hcH
  go_enter Try.func7, Try.ntmps7
  go_wp2_with fail
  rw [← HW.out]
  (with_reducible refine HE.out.mono ?_)
  rintro e w1 ⟨X, rfl, hX, gs, b1⟩
  have hs1 : Hid (W.heap.size ≤ w1.heap.size) := b1.size
  have HA : Hid (Calls Try.prog 14 #[.agg #[.string ⟨#[116]⟩, .slice (some ⟨w.heap.size, 0, none⟩) 2 2], .slice (some ⟨w.heap.size + 1 + 1 + 1 + 1, 0, none⟩) 2 2] w1 fun e w' => e = .returned (.agg (gC cG)) ∧ Below w1.heap.size w1 w') :=
    all_any w1 kT kOps 2 rfl _ 2 W.heap.size (RO'.out.below b1) b1.size (by omega) (by unfold maxLen; omega) (by decide) _ kPs 2 2 rfl (RP'.out.then_ (Nat.le_refl _) b1) (by omega) cG HCG.out
  have d0 := (b1.cell (p := ⟨w.heap.size + 1, 0, none⟩) HS.out).trans C0.out
  have d1 := (b1.cell (p := ⟨w.heap.size + 1, 1, none⟩) HS.out).trans C1.out
  have GS1 := Lib.hid gs; have B1 := Lib.hid b1; have HX := Lib.hid hX
  clear gs b1 hX HE
  go_wp2_with fail
  (with_reducible refine HA.out.mono ?_)
  rintro e w2 ⟨rfl, b2⟩
  have G2 := Lib.hid (GA.new w2 31 (zG 32))
  have B2 := Lib.hid b2
  clear d0 d1 HA b2
  go_upto_region 5 with (with_reducible refine wpList_store_g rfl 31 (.tmp 4) (.tmp 17) rfl w2.heap.size (by with_unfolding_all rfl) 31 (zG 32) cG G2.out (by with_unfolding_all rfl) HZ1.out (by rw [HL1.out]; exact infoState) ?_; intro w3 G3 S3 R3; have H3 := Lib.hid G3; have R3' := Lib.hid R3; clear G3 S3 R3)
  have b23 : Below w2.heap.size w2 w3 := ((Below.refl _ _).alloc (Nat.le_refl _) _).grown R3'.out (by simp) (by simp)
  have b13 := B2.out.trans (b23.mono B2.out.size)
  have B3 := Lib.hid (B1.out.trans (b13.mono hs1.out))
  have GS3 := Lib.hid (GS1.out.below b13 GS1.out.lt)
  have d0 := (B3.out.cell (p := ⟨w.heap.size + 1, 0, none⟩) HS.out).trans C0.out
  have d1 := (B3.out.cell (p := ⟨w.heap.size + 1, 1, none⟩) HS.out).trans C1.out
  have e2 := H3.out.cell_of K2.out
  have f1 := GS3.out.cell_of 1 2 34 (by omega) (by omega) rfl 3 K1.out
  have f0 := GS3.out.cell_of 0 2 2 (by omega) (by omega) rfl 0 K0.out
  have HF : Hid (Calls Try.prog 11 #[.agg #[.string ⟨#[116]⟩, .slice (some ⟨w.heap.size, 0, none⟩) 2 2], .agg (gC cG), .int .i64 2, .slice (some ⟨w.heap.size + 1 + 1 + 1 + 1, 0, none⟩) 2 2] w3 fun e w' => e = .returned (.agg (gC cH)) ∧ Below w3.heap.size w3 w') :=
    from_any w3 cG kT kOps 2 rfl _ 2 W.heap.size (RO'.out.below B3.out) B3.out.size (by omega) (by unfold maxLen; omega) (by decide) HGG.out _ kPs 2 2 rfl (RP'.out.then_ (Nat.le_refl _) B3.out) (by omega) 2 (by omega) (by omega) cH HCH.out
  have HBW : Hid (Below w.heap.size w w3) := BW.out.trans (B3.out.mono BW.out.size)
  clear b23 b13 B1 B2 GS1 G2 R3' hz
  go_wp2_with (with_reducible refine wpList_load_gp (by with_unfolding_all rfl) 31 (.tmp 4) rfl w2.heap.size (by with_unfolding_all rfl) 31 cG H3.out Try.underlying31 (by rw [HL1.out]; exact infoState) ?_)
  (with_reducible refine HF.out.mono ?_)
  rintro e w4 ⟨rfl, b4⟩
  have HB4 : Hid (Below w.heap.size w w4) := HBW.out.trans (b4.mono HBW.out.size)
  clear b4
  go_wp2_with fail
  go_ret
  exact ⟨rfl, HB4.out⟩
end Go.Proofs.Ytbmhdinaofepdaa
