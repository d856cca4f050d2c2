/- MERGED of XPj XPk -/
import Derived.Test.YtbmhdinaofepdaaPh
import Derived.Test.YtbmhdinaofepdaaKr
import Derived.Laws.MakeOwn
import Derived.Deep.OwnRows
import Derived.Test.YtbmhdinaofepdaaMp
/- XPj -/
namespace Go.Proofs.Ytbmhdinaofepdaa
set_option maxRecDepth 100000
open Go.RowKit
set_option linter.unusedVariables false
set_option linter.unusedSimpArgs false

/-- the cells of a row of games -/
def gsF (G : Nat → List Int) (i : Nat) : Value := .int .i32 ((G (i / 32)).getD (i % 32) 0)
theorem gsF_at (G : Nat → List Int) (k j : Nat) (hj : j < 32) : gsF G (k * 32 + j) = .int .i32 ((G k).getD j 0) := by
  unfold gsF
  rw [show (k * 32 + j) / 32 = k by omega, show (k * 32 + j) % 32 = j by omega]
theorem gC_list (g : List Int) (j : Nat) (v : Value) (h : (gC g).toList[j]? = some v) : j < g.length ∧ v = .int .i32 (g.getD j 0) := by
  unfold gC at h
  rw [List.toList_toArray, List.getElem?_map] at h
  cases e : g[j]? with
  | none => rw [e] at h; cases h
  | some x =>
    rw [e] at h
    refine ⟨(List.getElem?_eq_some_iff.1 e).1, ?_⟩
    rw [List.getD_eq_getElem?_getD, e, ← Option.some.inj h]; rfl
/-- block b is a row of n games -/
structure GS (w : World) (b : Nat) (T : TypeId) (n : Nat) (G : Nat → List Int) : Prop where
  row : w.rowIs b T (n * 32) (gsF G)
  len : ∀ k, k < n → (G k).length = 32
theorem rowIs_sets {b : Nat} {t : TypeId} {n : Nat} : ∀ (vs : List Value) (o : Nat) (w : World) (f : Nat → Value), w.rowIs b t n f →
    (w.setCells b o vs).rowIs b t n (fun j => if o ≤ j ∧ j < o + vs.length then vs.getD (j - o) (f j) else f j)
  | [], o, w, f, h => by
    refine World.rowIs.congr (f := f) h (fun i _ => ?_)
    rw [if_neg (by simp)]
  | v :: r, o, w, f, h => by
    rw [World.setCells]
    refine World.rowIs.congr (rowIs_sets r (o + 1) _ _ (World.rowIs.set h o v)) (fun i _ => ?_)
    simp only [List.length_cons]
    by_cases e : i = o
    · subst e
      rw [if_neg (by omega), if_pos rfl, if_pos (by omega)]; simp
    · by_cases e1 : o + 1 ≤ i ∧ i < o + 1 + r.length
      · rw [if_neg e, if_pos e1, if_pos (by omega), show i - o = (i - (o + 1)) + 1 by omega, List.getD_cons_succ]
      · rw [if_neg e1, if_neg e, if_neg (by omega)]
theorem grown_sets (b : Nat) : ∀ (vs : List Value) (o : Nat) (w : World), w.grownBy (w.setCells b o vs) (some b) ∧ (w.setCells b o vs).heap.size = w.heap.size
  | [], o, w => ⟨⟨rfl, rfl, rfl, Nat.le_refl _, fun _ _ _ => rfl⟩, rfl⟩
  | v :: r, o, w => by
    rw [World.setCells]
    obtain ⟨h, hs⟩ := grown_sets b r (o + 1) (w.setCell ⟨b, o, none⟩ v)
    have h0 : w.grownBy (w.setCell ⟨b, o, none⟩ v) (some b) := ⟨rfl, rfl, rfl, by simp [World.setCell], fun k hk hne => Below.heap_setCell _ _ _ _ (fun e => hne (by rw [e]))⟩
    exact ⟨⟨h.os.trans h0.os, h.tape.trans h0.tape, h.output.trans h0.output, Nat.le_trans h0.size h.size, fun i hi hr => (h.block i (Nat.lt_of_lt_of_le hi h0.size) hr).trans (h0.block i hi hr)⟩, hs.trans (by simp)⟩
section
variable {w w' : World} {b n : Nat} {T : TypeId} {G G' : Nat → List Int}
theorem GS.lt (h : GS w b T n G) : b < w.heap.size := World.rowIs.lt h.row
theorem GS.below {B : Nat} (h : GS w b T n G) (hb : Below B w w') (hB : b < B) : GS w' b T n G := ⟨World.rowIs.of_block h.row (hb.block b hB), h.len⟩
theorem GS.drew (h : GS w b T n G) : GS w.drew b T n G := ⟨h.row, h.len⟩
theorem GS.congr (h : GS w b T n G) (e : ∀ k, k < n → G k = G' k) : GS w b T n G' := by
  refine ⟨h.row.congr fun i hi => ?_, fun k hk => by rw [← e k hk]; exact h.len k hk⟩
  unfold gsF
  rw [e (i / 32) (by omega)]
theorem GS.range (h : GS w b T n G) (k : Nat) (hk : k < n) : w.rangeAt b (k * 32) (gC (G k)).toList := fun j v hv => by
  obtain ⟨hj, rfl⟩ := gC_list _ _ _ hv
  rw [h.len k hk] at hj
  rw [World.rowIs.cell h.row (i := k * 32 + j) (by omega), gsF_at _ _ _ hj]
theorem GS.there (h : GS w b T n G) (k : Nat) (hk : k < n) : w.there b (k * 32) 32 := fun j hj =>
  ⟨by rw [World.rowIs.cell h.row (i := k * 32 + j) (by omega)]; rfl, World.rowIs.frozen h.row _⟩
theorem GS.set (h : GS w b T n G) (k : Nat) (hk : k < n) (g : List Int) (hg : g.length = 32) : GS (w.setCells b (k * 32) (gC g).toList) b T n (fun j => if j = k then g else G j) := by
  have hl : (gC g).toList.length = 32 := by rw [Array.length_toList, gC_size, hg]
  refine ⟨(rowIs_sets (gC g).toList (k * 32) w _ h.row).congr (fun i hi => ?_), fun j hj => ?_⟩
  · rw [hl]
    unfold gsF
    dsimp only
    by_cases e : i / 32 = k
    · rw [if_pos (by omega), if_pos e]
      have e1 : (gC g).toList[i - k * 32]? = some (.int .i32 (g.getD (i % 32) 0)) := by
        unfold gC
        rw [List.toList_toArray, List.getElem?_map, List.getElem?_eq_getElem (by omega)]
        show some (vi _) = _
        rw [List.getD_eq_getElem?_getD, show i % 32 = i - k * 32 by omega, List.getElem?_eq_getElem (by omega)]; rfl
      rw [List.getD_eq_getElem?_getD, e1]; rfl
    · rw [if_neg (by omega), if_neg e]
  · show (if j = k then g else G j).length = 32
    split
    · exact hg
    · exact h.len j hj
theorem exec_load_gs {P : Program} {S : World → Prop} {op : Oper} {a : Act} (ty : TypeId) (x : Operand) (ho : op.op = .load ty x)
    (k : Nat) (hx : a.eval x = .pointer (some ⟨b, k * 32, none⟩)) (hk : k < n) (g : List Int) (hS : ∀ w, S w → ∃ G, GS w b T n G ∧ G k = g) {m : Nat} {e : TypeId} (hu : P.underlying ty = some (.array m e)) (hi : (P.info? ty).map (·.size) = some 32) (w : World) (hw : S w) :
    (execOp a.eval op).run P w = .ok (.value (.agg (gC g))) w := by
  obtain ⟨G, hG, rfl⟩ := hS w hw
  have := run_loadVar_mid (P := P) w b (k * 32) ty (gC (G k)).toList _ (hG.range k hk) hu rfl (by rw [hi]; simp [gC_size, hG.len k hk])
  unfold execOp
  simp only [ho, hx, Instr.loadAt, Instr.sureAddr, Sem.run_bind, Sem.run_pure, Result.andThen_ok, this]
theorem wpList_load_gs {P : Program} {ops : Array Oper} {rest : List Oper} {op : Oper} {a : Act} {Q : Exit → Act → World → Prop} (hgd : op.guard = none) (ty : TypeId) (x : Operand) (ho : op.op = .load ty x)
    (k : Nat) (hx : a.eval x = .pointer (some ⟨b, k * 32, none⟩)) (hk : k < n) (g : List Int) (hg : G k = g) (h : GS w b T n G) {m : Nat} {e : TypeId} (hu : P.underlying ty = some (.array m e)) (hi : (P.info? ty).map (·.size) = some 32)
    (hq : wpList P ops Q rest (a.put op.dst (.agg (gC g))) w) : wpList P ops Q (op :: rest) a w := by
  subst hg
  refine wpList_load_mid hgd ty x ho b (k * 32) hx (gC (G k)).toList _ (h.range k hk) hu rfl (by rw [hi]; simp [gC_size, h.len k hk]) ?_
  simpa using hq
theorem wp_store_gs {P : Program} {op : Oper} {a : Act} {K : Act → World → Prop} {Q : Exit → Act → World → Prop} (ty : TypeId) (x y : Operand) (ho : op.op = .store ty x y)
    (k : Nat) (hx : a.eval x = .pointer (some ⟨b, k * 32, none⟩)) (hk : k < n) (g : List Int) (hy : a.eval y = .agg (gC g)) (hg : g.length = 32) (h : GS w b T n G) (hi : (P.info? ty).map (·.size) = some 32)
    (hq : ∀ w', GS w' b T n (fun j => if j = k then g else G j) → w'.heap.size = w.heap.size → w.grownBy w' (some b) → K (a.put op.dst undef) w') : op.wp P a w K Q :=
  wp_store_mid ty x y ho b (k * 32) (gC g) hx hy (by rw [gC_size, hg]; exact h.there k hk) (by rw [hi, gC_size, hg]) (gC_one g) (hq _ (h.set k hk g hg) (grown_sets b _ _ w).2 (grown_sets b _ _ w).1)
end
def madeG (T : TypeId) (n : Nat) : Obj := .cells (madeCells (Value.agg (gC (zG 32))).cells (n * 32)) T
theorem zG_at (j : Nat) (hj : j < 32) : (zG 32)[j]? = some 0 := by unfold zG; rw [List.getElem?_replicate, if_pos hj]
theorem made_gs (w : World) (n : Nat) (T : TypeId) : GS (w.alloc (madeG T n)) w.heap.size T n (fun _ => zG 32) := by
  refine ⟨⟨_, heap_alloc_new w _, size_madeCells _ _, fun i hi => ?_⟩, fun _ _ => zG_length 32⟩
  have h9 : i % 32 < 32 := by omega
  have e : (Value.agg (gC (zG 32))).cells = gC (zG 32) := rfl
  unfold madeCells gsF
  rw [Array.getElem?_map, Array.getElem?_range, if_pos hi, e]
  simp only [Option.map_some, Option.some.injEq]
  have e2 : (gC (zG 32))[i % 32]? = some (.int .i32 0) := by
    rw [gC_get _ _ (by rw [zG_length]; exact h9)]
    have := zG_at _ h9
    rw [List.getElem?_eq_getElem (by rw [zG_length]; exact h9)] at this
    rw [Option.some.inj this]
  show (gC (zG 32))[i % (gC (zG 32)).size]! = _
  rw [gC_size, zG_length, getElem!_def, e2, List.getD_eq_getElem?_getD, zG_at _ h9]
  rfl
theorem state_info : (Try.prog.info? 31).map (fun i => (i.zero, i.size, i.bytes)) = some (some (.agg (gC (zG 32))), 32, 128) := by kernel_rfl
theorem make_gs (n : Nat) (hn : n ≤ 65536) (w : World) : (Instr.makeSlice 36 (.int .i64 (n : Int)) (.int .i64 (n : Int))).run Try.prog w = .ok (.slice (some ⟨w.heap.size, 0, none⟩) n n) (w.alloc (madeG 31 n)) := by
  obtain ⟨i0, hi0, hz0, hz1, hz2⟩ := info_parts state_info
  have h := run_make (P := Try.prog) w 36 31 i0 (.agg (gC (zG 32))) Try.underlying36 hi0 hz0 .i64 .i64 n n (by omega) (by omega) (by rw [hz2]; omega) (by omega)
  simp only [Int.toNat_natCast] at h
  rw [hz1] at h
  exact h
set_option maxHeartbeats 400000 in
theorem all_any (w : World) (t : ByteArray) (os : List O4) (n : Nat) (hn : os.length = n) (A : Option Addr) (cap B : Nat) (hr : RO w B A os) (hB : B ≤ w.heap.size) (hc : n ≤ cap) (hm : cap ≤ maxLen) (ht : t.size ≤ 549755813888)
    (PA : Option Addr) (ps : List (List UInt8)) (M pc : Nat) (hM : ps.length = M) (hp : RP w w.heap.size PA ps) (hM12 : M ≤ 1000) (G : List Int) (hG : fdN t os 0 ps (zG 32) M = G) :
    Calls Try.prog 14 #[.agg #[.string t, .slice A n cap], .slice PA M pc] w fun e w' => e = .returned (.agg (gC G)) ∧ Below w.heap.size w w' := by
  have hz := zeroState
  obtain ⟨W0, hW0⟩ : ∃ W0, ((w.alloc (.cells #[.string t, .slice A n cap] 24)).alloc (.cells (gC (zG 32)) 31)) = W0 := ⟨_, rfl⟩
  have b0 : Below w.heap.size w W0 := by rw [← hW0]; exact ((Below.refl _ _).alloc (Nat.le_refl _) _).alloc (by simp) _
  have g4 : GA W0 (w.heap.size + 1) 31 (zG 32) := by
    rw [← hW0]
    have := GA.new (w.alloc (.cells #[.string t, .slice A n cap] 24)) 31 (zG 32)
    simpa only [World.size_alloc] using this
  have hgm : gam G := by rw [← hG]; exact fdN_gam gam.zero _
  have HF := Lib.hid (from_any W0 (zG 32) t os n hn A cap B (hr.below (b0.mono hB)) (Nat.le_trans hB b0.size) hc hm ht gam.zero PA ps M pc hM (hp.then_ (Nat.le_refl _) b0) hM12 0 (by omega) (by omega) G hG)
  have HL1 := Lib.hid hgm.1
  have HL2 := Lib.hid (gam_len hgm)
  have HW0 := Lib.hid hW0; have B0 := Lib.hid b0; have G4 := Lib.hid g4
  have c0 : ((w.alloc (.cells #[.string t, .slice A n cap] 24)).alloc (.cells (gC (zG 32)) 31)).cell? ⟨w.heap.size, 0, none⟩ = some (.string t) := by simp [go_sem]
  have c1 : ((w.alloc (.cells #[.string t, .slice A n cap] 24)).alloc (.cells (gC (zG 32)) 31)).cell? ⟨w.heap.size, 1, none⟩ = some (.slice A n cap) := by simp [go_sem]
  clear hr hB hc hm ht hM hp hM12 hG hgm hW0 b0 g4 hn
  go_enter Try.func14, Try.ntmps14
  go_wp2_with fail
  rw [HW0.out]
  (with_reducible refine HF.out.mono ?_)
  rintro e w3 ⟨rfl, hb3⟩
  have g5 := Lib.hid (G4.out.below hb3 G4.out.lt)
  have B3 := Lib.hid (B0.out.trans (hb3.mono B0.out.size))
  have hs : Hid (w.heap.size + 1 < W0.heap.size) := G4.out.lt
  have hs3 : Hid (W0.heap.size ≤ w3.heap.size) := hb3.size
  clear hb3 G4 HF c0 c1
  go_wp2_with (with_reducible refine wpList_store_g rfl 31 (.tmp 4) (.tmp 8) rfl (w.heap.size + 1) (by with_unfolding_all rfl) 31 (zG 32) G g5.out (by with_unfolding_all rfl) HL2.out (by rw [HL1.out]; exact infoState) ?_; intro w7 G7 S7 R7)
  exact bodyPost_ret (results_g rfl G7 rfl Try.underlying31 (by rw [HL1.out]; exact infoState)) rfl ⟨rfl, B3.out.grown R7 (by have := hs.out; have := hs3.out; omega) (fun k e => by have := Option.some.inj e; omega)⟩
/-- the games so far -/
def eG (F : Nat → List Int) (i k : Nat) : List Int := if k ≤ i then F k else zG 32
theorem eG_put (F : Nat → List Int) (i : Nat) : (fun j => if j = i + 1 then F (i + 1) else eG F i j) = eG F (i + 1) := by
  funext j
  unfold eG
  by_cases e : j = i + 1
  · rw [if_pos e, if_pos (by omega), e]
  · rw [if_neg e]
    by_cases c : j ≤ i
    · rw [if_pos c, if_pos (by omega)]
    · rw [if_neg c, if_neg (by omega)]
set_option maxHeartbeats 1000000 in
theorem each_any (w : World) (t : ByteArray) (os : List O4) (n : Nat) (hn : os.length = n) (A : Option Addr) (cap B : Nat) (hr : RO w B A os) (hB : B ≤ w.heap.size) (hc : n ≤ cap) (hm : cap ≤ maxLen) (ht : t.size ≤ 549755813888)
    (PA : Option Addr) (ps : List (List UInt8)) (M pc : Nat) (hM : ps.length = M) (hp : RP w w.heap.size PA ps) (hM12 : M ≤ 1000) (M1 : Nat) (hM1 : M1 = M + 1) :
    Calls Try.prog 13 #[.agg #[.string t, .slice A n cap], .slice PA M pc] w fun e w' => ∃ X, e = .returned (.slice (some ⟨X, 0, none⟩) M1 M1) ∧ w.heap.size ≤ X ∧ GS w' X 31 M1 (fdN t os 0 ps (zG 32)) ∧ Below w.heap.size w w' := by
  have HR := Lib.hid hr; have HP := Lib.hid hp; have HM := Lib.hid hM; have HN := Lib.hid hn; have HB := Lib.hid hB; have HM1 := Lib.hid hM1
  have hc' := Lib.hid hc; have hm' := Lib.hid hm; have ht' := Lib.hid ht
  have mk := make_gs M1 (by omega)
  have m0 : 1 + (M : Int) = (M1 : Int) := by omega
  obtain ⟨W0, hW0⟩ : ∃ W0, (w.alloc (.cells #[.string t, .slice A n cap] 24)).alloc (madeG 31 M1) = W0 := ⟨_, rfl⟩
  have b0 : Below w.heap.size w W0 := by rw [← hW0]; exact ((Below.refl _ _).alloc (Nat.le_refl _) _).alloc (by simp) _
  have g4 : GS W0 (w.heap.size + 1) 31 M1 (eG (fdN t os 0 ps (zG 32)) 0) := by
    rw [← hW0]
    have h := made_gs (w.alloc (.cells #[.string t, .slice A n cap] 24)) M1 31
    rw [World.size_alloc] at h
    refine h.congr fun k _ => ?_
    unfold eG
    split
    · rw [show k = 0 by omega]; rfl
    · rfl
  have c0 : W0.cell? ⟨w.heap.size, 0, none⟩ = some (.string t) := by rw [← hW0]; simp [go_sem, madeG]
  have c1 : W0.cell? ⟨w.heap.size, 1, none⟩ = some (.slice A n cap) := by rw [← hW0]; simp [go_sem, madeG]
  have hs0 : W0.heap.size = w.heap.size + 1 + 1 := by rw [← hW0]; simp
  have HW0 := Lib.hid hW0; have B0 := Lib.hid b0; have G4 := Lib.hid g4; have C0 := Lib.hid c0; have C1 := Lib.hid c1; have HS0 := Lib.hid hs0
  have hM2 : M1 ≤ 1001 := by omega
  obtain ⟨F, hF⟩ : ∃ F, fdN t os 0 ps (zG 32) = F := ⟨_, rfl⟩
  have HF := Lib.hid hF
  rw [hF] at G4 ⊢
  clear hr hp hM hn hB hM1 hc hm ht hW0 b0 g4 c0 c1 hs0 hF
  go_enter Try.func13, Try.ntmps13
  go_wp2_with fail
  rw [HW0.out]
  clear mk m0
  go_loopw [6, 7, 14] (fun v6 v7 v14 wr => ∃ i : Nat, v14 = .int .i64 (i : Int) ∧ i ≤ M ∧ Hid (Below w.heap.size w wr) ∧ Hid (W0.heap.size ≤ wr.heap.size) ∧ Hid (wr.cell? ⟨w.heap.size, 0, none⟩ = some (.string t)) ∧ Hid (wr.cell? ⟨w.heap.size, 1, none⟩ = some (.slice A n cap)) ∧ Hid (GS wr (w.heap.size + 1) 31 M1 (eG F i))) (fun _ _ v14 _ => M - (intOf v14).toNat)
  case atStart => exact ⟨0, rfl, by omega, B0, Nat.le_refl _, C0, C1, G4⟩
  case round =>
    obtain ⟨i, rfl, hiM, HBr, HSr, HC0, HC1, HGS⟩ := hrel
    clear G4 C0 C1 B0 HW0
    by_cases hlt : i < M
    · have hiz : (i : Int) < (M : Int) := by omega
      have hi1 : (i : Int) < (M1 : Int) := by have := HM1.out; omega
      obtain ⟨q, hqe⟩ : ∃ q, i + 1 = q := ⟨_, rfl⟩
      have hi2 : (q : Int) < (M1 : Int) := by have := HM1.out; omega
      have hwi : IntKind.i64.wrap ((i : Int) + 1) = (q : Int) := by rw [IntKind.wrap_i64]; omega
      have HQ := Lib.hid hqe
      obtain ⟨l, hl⟩ : ∃ l, ps[i]? = some l := ⟨_, List.getElem?_eq_getElem (by rw [HM.out]; exact hlt)⟩
      obtain ⟨L, hL⟩ : ∃ L, l.length = L := ⟨_, rfl⟩
      obtain ⟨pg, off, a, c, rfl, hgB, hq⟩ := (HP.out.below HBr.out).at i l hl
      have hcell := hq.cell
      have hle := hq.le
      rw [hL] at hcell hle
      have hst := fdN_step t os 0 ps (zG 32) i l (i : Int) hl (by omega)
      have hgm := fdN_gam (t := t) (os := os) (f := 0) (ps := ps) gam.zero i
      have hgm2 := fdN_gam (t := t) (os := os) (f := 0) (ps := ps) gam.zero (i + 1)
      rw [HF.out] at hst hgm hgm2
      obtain ⟨g1, hg1⟩ : ∃ g1, F i = g1 := ⟨_, rfl⟩
      obtain ⟨g2, hg2⟩ : ∃ g2, F (i + 1) = g2 := ⟨_, rfl⟩
      rw [hg1] at hst hgm
      rw [hg2] at hst hgm2
      have heg : Hid (eG F i i = g1) := by show _ = _; unfold eG; rw [if_pos (Nat.le_refl _)]; exact hg1
      have hpt : Hid ((fun j => if j = i + 1 then g2 else eG F i j) = eG F (i + 1)) := by show _ = _; rw [← hg2]; exact eG_put F i
      have heg2 : Hid (eG F (i + 1) i = g1) := by show _ = _; unfold eG; rw [if_pos (by omega)]; exact hg1
      have HST := Lib.hid (step_at wr.drew g1 t i l A os n HN.out cap B a c L hL (HR.out.below (HBr.out.drew.mono HB.out)) (Nat.le_trans HB.out HBr.out.size) hc'.out hm'.out ht'.out hgm ((hq.rb.more HBr.out.size).below (Below.refl _ _).drew) hle hq.cm g2 hst.symm)
      rw [hqe] at hpt heg2
      have hl2 := Lib.hid hgm2.1
      have hks : Hid (i < M1) := by show _ < _; omega
      have hks2 : Hid (q < M1) := by show _ < _; omega
      have hms : Hid (M - (i + 1) < M - i) := by show _ < _; omega
      clear hl hL hq hle hgm hgm2 hst hg1 hg2 hgB hqe
      go_upto_region 5 with fail
      refine wp_region_held_drew (S := (fun w' => w'.cell? ⟨w.heap.size, 0, none⟩ = some (.string t) ∧ w'.cell? ⟨w.heap.size, 1, none⟩ = some (.slice A n cap) ∧ ∃ Gx, GS w' (w.heap.size + 1) 31 M1 Gx ∧ Gx i = g1)) (by kernel_rfl) (⟨HC0.out, HC1.out, _, HGS.out.drew, heg.out⟩) (fun hHeld => ?_)
      refine held_take (i := 0) (v := ?_) rfl (by kernel_rfl) (by kernel_rfl) (by kernel_rfl) (fun _ _ _ h => h) (by rfl) hHeld ?_ ?_
      rotate_left 1
      · (intro w hSw; (try dsimp only at hSw); go_simp; try (with_reducible rfl))
      try simp only [Act.put, List.setIfInBounds_toArray, List.set_cons_zero, List.set_cons_succ]
      refine held_take (i := 1) (v := ?_) rfl (by kernel_rfl) (by kernel_rfl) (by kernel_rfl) (fun _ _ _ h => h) (by rfl) hHeld ?_ ?_
      rotate_left 1
      · (intro w hSw; (try dsimp only at hSw); go_simp; try (with_reducible rfl))
      try simp only [Act.put, List.setIfInBounds_toArray, List.set_cons_zero, List.set_cons_succ]
      refine held_take (i := 2) (v := ?_) rfl (by kernel_rfl) (by kernel_rfl) (by kernel_rfl) (fun _ _ _ h => h) (by rfl) hHeld ?_ ?_
      rotate_left 1
      · (intro w hSw; (try dsimp only at hSw); go_simp; try (with_reducible rfl))
      try simp only [Act.put, List.setIfInBounds_toArray, List.set_cons_zero, List.set_cons_succ]
      refine held_take (i := 3) (v := ?_) rfl (by kernel_rfl) (by kernel_rfl) (by kernel_rfl) (fun _ _ _ h => h) (by rfl) hHeld ?_ ?_
      rotate_left 1
      · (intro w hSw; (try dsimp only at hSw); go_simp; try (with_reducible rfl))
      try simp only [Act.put, List.setIfInBounds_toArray, List.set_cons_zero, List.set_cons_succ]
      refine held_take (i := 4) (v := ?_) rfl (by kernel_rfl) (by kernel_rfl) (by kernel_rfl) (fun _ _ _ h => h) (by rfl) hHeld ?_ ?_
      rotate_left 1
      · (intro w hSw; (try dsimp only at hSw); go_simp; try (with_reducible rfl))
      try simp only [Act.put, List.setIfInBounds_toArray, List.set_cons_zero, List.set_cons_succ]
      refine held_take (i := 5) (v := ?_) rfl (by kernel_rfl) (by kernel_rfl) (by kernel_rfl) (fun _ _ _ h => h) (by rfl) hHeld ?_ ?_
      rotate_left 1
      · (intro w hSw; (try dsimp only at hSw); go_simp; try (with_reducible rfl))
      try simp only [Act.put, List.setIfInBounds_toArray, List.set_cons_zero, List.set_cons_succ]
      refine held_take (i := 6) (v := ?_) rfl (by kernel_rfl) (by kernel_rfl) (by kernel_rfl) (fun _ _ _ h => h) (by rfl) hHeld ?_ ?_
      rotate_left 1
      · (intro w hSw; (try dsimp only at hSw); go_simp; try (with_reducible rfl))
      try simp only [Act.put, List.setIfInBounds_toArray, List.set_cons_zero, List.set_cons_succ]
      refine held_take (i := 7) (v := .agg (gC g1)) rfl (by kernel_rfl) (by kernel_rfl) (by kernel_rfl) (fun _ _ _ h => h) (by rfl) hHeld (exec_load_gs 31 _ rfl i (by rfl) hks.out g1 (fun w h => h.2.2) Try.underlying31 infoState) ?_
      try simp only [Act.put, List.setIfInBounds_toArray, List.set_cons_zero, List.set_cons_succ]
      refine held_take (i := 8) (v := ?_) rfl (by kernel_rfl) (by kernel_rfl) (by kernel_rfl) (fun _ _ _ h => h) (by rfl) hHeld ?_ ?_
      rotate_left 1
      · (intro w hSw; (try dsimp only at hSw); go_simp; try (with_reducible rfl))
      try simp only [Act.put, List.setIfInBounds_toArray, List.set_cons_zero, List.set_cons_succ]
      refine held_take (i := 9) (v := ?_) rfl (by kernel_rfl) (by kernel_rfl) (by kernel_rfl) (fun _ _ _ h => h) (by rfl) hHeld ?_ ?_
      rotate_left 1
      · (intro w hSw; (try dsimp only at hSw); go_simp; try (with_reducible rfl))
      try simp only [Act.put, List.setIfInBounds_toArray, List.set_cons_zero, List.set_cons_succ]
      refine held_one (i := 10) rfl (by kernel_rfl) (by rfl) (fun K hK => ?_)
      go_simp
      with_reducible refine HST.out.mono ?_
      rintro e w3 ⟨rfl, hb3⟩
      have hws : Hid (w.heap.size + 1 < wr.drew.heap.size) := HGS.out.lt
      have C03 := Lib.hid ((hb3.cell (p := ⟨w.heap.size, 0, none⟩) (by show w.heap.size < _; have := hws.out; omega)).trans HC0.out)
      have C13 := Lib.hid ((hb3.cell (p := ⟨w.heap.size, 1, none⟩) (by show w.heap.size < _; have := hws.out; omega)).trans HC1.out)
      have GS3 := Lib.hid (HGS.out.drew.below hb3 HGS.out.lt)
      have HB3 : Hid (Below w.heap.size w w3) := HBr.out.drew.trans (hb3.mono HBr.out.size)
      have HS3 : Hid (W0.heap.size ≤ w3.heap.size) := Nat.le_trans HSr.out hb3.size
      clear hb3
      refine hK.out _ _ (⟨C03.out, C13.out, _, GS3.out, heg.out⟩) (fun hHeld2 => ?_)
      clear hK K hHeld; have hHeld := hHeld2; clear hHeld2
      try simp only [Act.put, List.setIfInBounds_toArray, List.set_cons_zero, List.set_cons_succ]
      refine held_take (i := 11) (v := ?_) rfl (by kernel_rfl) (by kernel_rfl) (by kernel_rfl) (fun _ _ _ h => h) (by rfl) hHeld ?_ ?_
      rotate_left 1
      · (intro w hSw; (try dsimp only at hSw); go_simp; try (with_reducible rfl))
      try simp only [Act.put, List.setIfInBounds_toArray, List.set_cons_zero, List.set_cons_succ]
      refine held_one (i := 12) rfl (by kernel_rfl) (by rfl) (fun K hK => ?_)
      refine wp_store_gs 31 (.tmp 30) (.tmp 29) rfl q (by rfl) hks2.out g2 (by rfl) hl2.out GS3.out infoState ?_; intro w7 G7 S7 R7; rw [hpt.out] at G7; have HG7 := Lib.hid G7; have HC07 := Lib.hid (grown_cell R7 C03.out (by simp)); have HC17 := Lib.hid (grown_cell R7 C13.out (by simp)); have HB7 : Hid (Below w.heap.size w w7) := HB3.out.grown R7 HB3.out.size (fun k e => by have := Option.some.inj e; omega); have HS7 : Hid (W0.heap.size ≤ w7.heap.size) := by show _ ≤ _; rw [S7]; exact HS3.out
      refine hK.out _ _ (⟨HC07.out, HC17.out, _, HG7.out, heg2.out⟩) (fun hHeld2 => ?_)
      clear hK K hHeld; have hHeld := hHeld2; clear hHeld2
      try simp only [Act.put, List.setIfInBounds_toArray, List.set_cons_zero, List.set_cons_succ]
      refine wpAnyH_done (by kernel_rfl) ?_ _
      go_wp2
      go_roundw
      case rel => exact ⟨q, by go_num, by have := HQ.out; omega, HB7, HS7, HC07, HC17, HG7⟩
      case measure => simp [intOf]; have := hms.out; have := HQ.out; omega
    · have hiz : ¬ (i : Int) < (M : Int) := by omega
      obtain rfl : i = M := by omega
      have HG7 : Hid (GS wr (w.heap.size + 1) 31 M1 F) := HGS.out.congr fun k hk => by unfold eG; rw [if_pos (by have := HM1.out; omega)]
      clear HGS
      go_wp2_with fail
      go_ret
      exact ⟨_, rfl, by omega, HG7.out, HBr.out⟩
end Go.Proofs.Ytbmhdinaofepdaa

/- XPk -/
namespace Go.Proofs.Ytbmhdinaofepdaa
set_option maxRecDepth 100000
open Go.RowKit
set_option linter.unusedVariables false
set_option linter.unusedSimpArgs false

/-- a guarded load of a game, and of one in a row -/
theorem wpList_load_gp {P : Program} {ops : Array Oper} {rest : List Oper} {op : Oper} {a : Act} {w : World} {Q : Exit → Act → World → Prop} (hw : Region.wanted op (yielded ops a.tmps) = true) (ty : TypeId) (x : Operand) (ho : op.op = .load ty x)
    (b : Nat) (hx : a.eval x = .pointer (some ⟨b, 0, none⟩)) (t : TypeId) (g : List Int) (h : GA w b t g) {n : Nat} {e : TypeId} (hu : P.underlying ty = some (.array n e)) (hi : (P.info? ty).map (·.size) = some g.length)
    (hk : wpList P ops Q rest (a.put op.dst (.agg (gC g))) w) : wpList P ops Q (op :: rest) a w :=
  wpList_step fun K hK => by rw [if_pos hw]; exact wp_load_g ty x ho b hx t g h hu hi (hK _ _ hk)
theorem wpList_load_gsp {P : Program} {ops : Array Oper} {rest : List Oper} {op : Oper} {a : Act} {w : World} {Q : Exit → Act → World → Prop} {b n : Nat} {T : TypeId} {G : Nat → List Int} (hw : Region.wanted op (yielded ops a.tmps) = true) (ty : TypeId) (x : Operand) (ho : op.op = .load ty x)
    (k q : Nat) (hq : k * 32 = q) (hx : a.eval x = .pointer (some ⟨b, q, none⟩)) (hk : k < n) (g : List Int) (hg : G k = g) (h : GS w b T n G) {m : Nat} {e : TypeId} (hu : P.underlying ty = some (.array m e)) (hi : (P.info? ty).map (·.size) = some 32)
    (hkk : wpList P ops Q rest (a.put op.dst (.agg (gC g))) w) : wpList P ops Q (op :: rest) a w := by
  subst hg hq
  refine wpList_step fun K hK => ?_
  rw [if_pos hw]
  refine wp_load_mid ty x ho b (k * 32) hx (gC (G k)).toList _ (h.range k hk) hu rfl (by rw [hi]; simp [gC_size, h.len k hk]) (hK _ _ ?_)
  simpa using hkk
def kOps : List O4 := [⟨11, 1, 0, 0⟩, ⟨3, 2, 2, 1⟩]
def kPs : List (List UInt8) := [[3], [4]]
def kT : ByteArray := ⟨#[116]⟩
def kG : List Int := fdN kT kOps 0 kPs (zG 32) 2
def kH : List Int := fdN kT kOps 2 kPs kG 2
theorem k_g0 : (fdN kT kOps 0 kPs (zG 32) 0)[2]? = some 0 := by decide +kernel
theorem k_g1 : (fdN kT kOps 0 kPs (zG 32) 1)[2]? = some 3 := by decide +kernel
theorem k_g2 : kG[2]? = some 7 := by decide +kernel
theorem k_h2 : kH[2]? = some 14 := by decide +kernel
theorem GS.cell_of {w : World} {b n : Nat} {T : TypeId} {G : Nat → List Int} (h : GS w b T n G) (k j q : Nat) (hk : k < n) (hj : j < 32) (hq : k * 32 + j = q) (x : Int) (hx : (G k)[j]? = some x) : w.cell? ⟨b, q, none⟩ = some (.int .i32 x) := by
  subst hq
  rw [World.rowIs.cell h.row (i := k * 32 + j) (by omega), gsF_at _ _ _ hj, List.getD_eq_getElem?_getD, hx]; rfl
theorem infoC32 : (Try.prog.info? 21).map (·.size) = some 1 := by kernel_rfl
theorem guardGame20 : Try.prog.eqGuardType Try.prog.depth 33 = false := by kernel_rfl
/-- a game is itself -/
theorem eq_game (G : List Int) (hG : G.length = 32) (w : World) : (Op.equalIn 10000 33 (.agg (gC G)) (.agg (gC G))).run Try.prog w = .ok true w := by
  rw [equalIn_g (P := Try.prog) 33 Try.underlying33 Try.underlying21 infoC32 G G hG hG w, decide_eq_true rfl]
theorem k_index (w : World) : (Instr.index 31 (.agg (gC kH)) (.int .i64 2)).run Try.prog w = .ok (.int .i32 14) w := by
  have hl : kH.length = 32 := by decide +kernel
  have := index_g (P := Try.prog) 31 kH Try.underlying31 Try.underlying21 rfl infoC32 2 (by rw [hl]; omega) hl w
  have e : kH[2]'(by rw [hl]; omega) = 14 := by
    have h := k_h2
    rw [List.getElem?_eq_getElem (by rw [hl]; omega)] at h
    exact Option.some.inj h
  rw [e] at this
  exact this
def begunW (w : World) : World := ((((w.alloc (.cells #[.int .i64 11, .int .i64 1, .int .i64 0, .int .i64 0, .int .i64 3, .int .i64 2, .int .i64 2, .int .i64 1] 46)).alloc (.cells #[.string ⟨#[116]⟩, .slice (some ⟨w.heap.size, 0, none⟩) 2 2] 24)).alloc (.cells #[.int .u8 3] 5)).alloc (.cells #[.int .u8 4] 5)).alloc (.cells #[.slice (some ⟨w.heap.size + 1 + 1, 0, none⟩) 1 1, .slice (some ⟨w.heap.size + 1 + 1 + 1, 0, none⟩) 1 1] 43)
theorem begunW_facts (w W : World) (h : W = begunW w) : RO W W.heap.size (some ⟨w.heap.size, 0, none⟩) kOps ∧ RP W W.heap.size (some ⟨w.heap.size + 1 + 1 + 1 + 1, 0, none⟩) kPs ∧
    W.cell? ⟨w.heap.size + 1, 0, none⟩ = some (.string ⟨#[116]⟩) ∧ W.cell? ⟨w.heap.size + 1, 1, none⟩ = some (.slice (some ⟨w.heap.size, 0, none⟩) 2 2) ∧ Below w.heap.size w W ∧ w.heap.size + 1 < W.heap.size := by
  unfold begunW at h
  obtain ⟨o1, ho1⟩ : ∃ o : Obj, o = (.cells #[.int .i64 11, .int .i64 1, .int .i64 0, .int .i64 0, .int .i64 3, .int .i64 2, .int .i64 2, .int .i64 1] 46) := ⟨_, rfl⟩
  obtain ⟨o2, ho2⟩ : ∃ o : Obj, o = .cells #[.string ⟨#[116]⟩, .slice (some ⟨w.heap.size, 0, none⟩) 2 2] 24 := ⟨_, rfl⟩
  obtain ⟨o3, ho3⟩ : ∃ o : Obj, o = .cells #[.int .u8 3] 5 := ⟨_, rfl⟩
  obtain ⟨o4, ho4⟩ : ∃ o : Obj, o = .cells #[.int .u8 4] 5 := ⟨_, rfl⟩
  obtain ⟨o5, ho5⟩ : ∃ o : Obj, o = .cells #[.slice (some ⟨w.heap.size + 1 + 1, 0, none⟩) 1 1, .slice (some ⟨w.heap.size + 1 + 1 + 1, 0, none⟩) 1 1] 43 := ⟨_, rfl⟩
  rw [← ho1, ← ho2, ← ho3, ← ho4, ← ho5] at h
  obtain ⟨W1, h1⟩ : ∃ x, x = w.alloc o1 := ⟨_, rfl⟩
  rw [← h1] at h
  obtain ⟨W2, h2⟩ : ∃ x, x = W1.alloc o2 := ⟨_, rfl⟩
  rw [← h2] at h
  obtain ⟨W3, h3⟩ : ∃ x, x = W2.alloc o3 := ⟨_, rfl⟩
  rw [← h3] at h
  obtain ⟨W4, h4⟩ : ∃ x, x = W3.alloc o4 := ⟨_, rfl⟩
  rw [← h4] at h
  have s1 : W1.heap.size = w.heap.size + 1 := by rw [h1, World.size_alloc]
  have s2 : W2.heap.size = w.heap.size + 1 + 1 := by rw [h2, World.size_alloc, s1]
  have s3 : W3.heap.size = w.heap.size + 1 + 1 + 1 := by rw [h3, World.size_alloc, s2]
  have s4 : W4.heap.size = w.heap.size + 1 + 1 + 1 + 1 := by rw [h4, World.size_alloc, s3]
  have s5 : W.heap.size = w.heap.size + 1 + 1 + 1 + 1 + 1 := by rw [h, World.size_alloc, s4]
  have b1 : Below w.heap.size w W1 := by rw [h1]; exact (Below.refl _ _).alloc (Nat.le_refl _) _
  have b2 : Below W1.heap.size W1 W2 := by rw [h2]; exact (Below.refl _ _).alloc (Nat.le_refl _) _
  have b3 : Below W2.heap.size W2 W3 := by rw [h3]; exact (Below.refl _ _).alloc (Nat.le_refl _) _
  have b4 : Below W3.heap.size W3 W4 := by rw [h4]; exact (Below.refl _ _).alloc (Nat.le_refl _) _
  have b5 : Below W4.heap.size W4 W := by rw [h]; exact (Below.refl _ _).alloc (Nat.le_refl _) _
  have b45 : Below W3.heap.size W3 W := b4.trans (b5.mono (by omega))
  have b35 : Below W2.heap.size W2 W := b3.trans (b45.mono (by omega))
  have b25 : Below W1.heap.size W1 W := b2.trans (b35.mono (by omega))
  have r1 : RO W1 W1.heap.size (some ⟨w.heap.size, 0, none⟩) kOps := by rw [s1, h1, ho1]; exact ops_new w kOps
  have r3 : RB W W.heap.size (some ⟨w.heap.size + 1 + 1, 0, none⟩) [3] := by
    have : RB W3 W3.heap.size (some ⟨w.heap.size + 1 + 1, 0, none⟩) [3] := by rw [s3, ← s2, h3, ho3]; exact bytes_new W2 [3]
    exact (this.below b45).more (by omega)
  have r4 : RB W W.heap.size (some ⟨w.heap.size + 1 + 1 + 1, 0, none⟩) [4] := by
    have : RB W4 W4.heap.size (some ⟨w.heap.size + 1 + 1 + 1, 0, none⟩) [4] := by rw [s4, ← s3, h4, ho4]; exact bytes_new W3 [4]
    exact (this.below b5).more (by omega)
  have c2 := two_cells (w := W1) (w1 := W) (u := .string ⟨#[116]⟩) (v := .slice (some ⟨w.heap.size, 0, none⟩) 2 2) (T := 24) (B := W2.heap.size) (by rw [← ho2, ← h2]; exact b35) (by omega)
  rw [s1] at c2
  have c5 := two_cells (w := W4) (w1 := W) (u := .slice (some ⟨w.heap.size + 1 + 1, 0, none⟩) 1 1) (v := .slice (some ⟨w.heap.size + 1 + 1 + 1, 0, none⟩) 1 1) (T := 43) (B := W.heap.size) (by rw [← ho5, ← h]; exact Below.refl _ _) (by omega)
  rw [s4] at c5
  refine ⟨(r1.below b25).more (by omega), fun _ => ⟨w.heap.size + 1 + 1 + 1 + 1, 0, rfl, by omega, fun j l hj => ?_⟩, c2.1, c2.2.1, b1.trans (b25.mono (by omega)), by omega⟩
  match j, hj with
  | 0, hj =>
    obtain rfl : [3] = l := Option.some.inj hj
    exact ⟨_, 1, c5.1, r3, Nat.le_refl _, by unfold maxLen; omega⟩
  | 1, hj =>
    obtain rfl : [4] = l := Option.some.inj hj
    exact ⟨_, 1, c5.2.1, r4, Nat.le_refl _, by unfold maxLen; omega⟩
  | n + 2, hj => simp [kPs] at hj
set_option maxHeartbeats 1000000 in
theorem begun20_any (w : World) : Calls Try.prog 7 #[] w fun e w' => e = .returned (.bool true) ∧ Below w.heap.size w w' := by
  have hz := zeroState
  obtain ⟨W, hW⟩ : ∃ W, W = begunW w := ⟨_, rfl⟩
  obtain ⟨ro, rp, c0, c1, bW, hs⟩ := begunW_facts w W hW
  unfold begunW at hW
  obtain ⟨cG, hcG⟩ : ∃ G, fdN kT kOps 0 kPs (zG 32) 2 = G := ⟨_, rfl⟩
  obtain ⟨cH, hcH⟩ : ∃ H, fdN kT kOps 2 kPs cG 2 = H := ⟨_, rfl⟩
  have hgG : gam cG := by rw [← hcG]; exact fdN_gam gam.zero 2
  have HZ1 := Lib.hid (gam_len hgG)
  have HL1 := Lib.hid hgG.1
  have HGG := Lib.hid hgG
  have HW := Lib.hid hW; have RO' := Lib.hid ro; have RP' := Lib.hid rp; have C0 := Lib.hid c0; have C1 := Lib.hid c1; have BW := Lib.hid bW; have HS := Lib.hid hs
  have HE : Hid (Calls Try.prog 13 #[.agg #[.string ⟨#[116]⟩, .slice (some ⟨w.heap.size, 0, none⟩) 2 2], .slice (some ⟨w.heap.size + 1 + 1 + 1 + 1, 0, none⟩) 2 2] W fun e w' => ∃ X, e = .returned (.slice (some ⟨X, 0, none⟩) 3 3) ∧ W.heap.size ≤ X ∧ GS w' X 31 3 (fdN kT kOps 0 kPs (zG 32)) ∧ Below W.heap.size W w') :=
    each_any W kT kOps 2 rfl _ 2 W.heap.size ro (Nat.le_refl _) (by omega) (by unfold maxLen; omega) (by decide) _ kPs 2 2 rfl rp (by omega) 3 rfl
  have K0 := Lib.hid k_g0; have K1 := Lib.hid k_g1; have K2 : Hid (cG[2]? = some 7) := by rw [← hcG]; exact k_g2
  have hix : ∀ w, (Instr.index 31 (.agg (gC cH)) (.int .i64 2)).run Try.prog w = .ok (.int .i32 14) w := by rw [← hcH, ← hcG]; exact k_index
  have HCG := Lib.hid hcG; have HCH := Lib.hid hcH
  clear hW ro rp c0 c1 bW hs hgG hcG hcH
  go_enter Try.func7, Try.ntmps7
  go_wp2_with fail
  rw [← HW.out]
  (with_reducible refine HE.out.mono ?_)
  rintro e w1 ⟨X, rfl, hX, gs, b1⟩
  have hs1 : Hid (W.heap.size ≤ w1.heap.size) := b1.size
  have HA : Hid (Calls Try.prog 14 #[.agg #[.string ⟨#[116]⟩, .slice (some ⟨w.heap.size, 0, none⟩) 2 2], .slice (some ⟨w.heap.size + 1 + 1 + 1 + 1, 0, none⟩) 2 2] w1 fun e w' => e = .returned (.agg (gC cG)) ∧ Below w1.heap.size w1 w') :=
    all_any w1 kT kOps 2 rfl _ 2 W.heap.size (RO'.out.below b1) b1.size (by omega) (by unfold maxLen; omega) (by decide) _ kPs 2 2 rfl (RP'.out.then_ (Nat.le_refl _) b1) (by omega) cG HCG.out
  have d0 := (b1.cell (p := ⟨w.heap.size + 1, 0, none⟩) HS.out).trans C0.out
  have d1 := (b1.cell (p := ⟨w.heap.size + 1, 1, none⟩) HS.out).trans C1.out
  have GS1 := Lib.hid gs; have B1 := Lib.hid b1; have HX := Lib.hid hX
  clear gs b1 hX HE
  go_wp2_with fail
  (with_reducible refine HA.out.mono ?_)
  rintro e w2 ⟨rfl, b2⟩
  have G2 := Lib.hid (GA.new w2 31 (zG 32))
  have B2 := Lib.hid b2
  clear d0 d1 HA b2
  go_upto_region 5 with (with_reducible refine wpList_store_g rfl 31 (.tmp 4) (.tmp 17) rfl w2.heap.size (by with_unfolding_all rfl) 31 (zG 32) cG G2.out (by with_unfolding_all rfl) HZ1.out (by rw [HL1.out]; exact infoState) ?_; intro w3 G3 S3 R3; have H3 := Lib.hid G3; have R3' := Lib.hid R3; clear G3 S3 R3)
  have b23 : Below w2.heap.size w2 w3 := ((Below.refl _ _).alloc (Nat.le_refl _) _).grown R3'.out (by simp) (by simp)
  have b13 := B2.out.trans (b23.mono B2.out.size)
  have B3 := Lib.hid (B1.out.trans (b13.mono hs1.out))
  have GS3 := Lib.hid (GS1.out.below b13 GS1.out.lt)
  have d0 := (B3.out.cell (p := ⟨w.heap.size + 1, 0, none⟩) HS.out).trans C0.out
  have d1 := (B3.out.cell (p := ⟨w.heap.size + 1, 1, none⟩) HS.out).trans C1.out
  have e2 := H3.out.cell_of K2.out
  have f1 := GS3.out.cell_of 1 2 34 (by omega) (by omega) rfl 3 K1.out
  have f0 := GS3.out.cell_of 0 2 2 (by omega) (by omega) rfl 0 K0.out
  have HF : Hid (Calls Try.prog 11 #[.agg #[.string ⟨#[116]⟩, .slice (some ⟨w.heap.size, 0, none⟩) 2 2], .agg (gC cG), .int .i64 2, .slice (some ⟨w.heap.size + 1 + 1 + 1 + 1, 0, none⟩) 2 2] w3 fun e w' => e = .returned (.agg (gC cH)) ∧ Below w3.heap.size w3 w') :=
    from_any w3 cG kT kOps 2 rfl _ 2 W.heap.size (RO'.out.below B3.out) B3.out.size (by omega) (by unfold maxLen; omega) (by decide) HGG.out _ kPs 2 2 rfl (RP'.out.then_ (Nat.le_refl _) B3.out) (by omega) 2 (by omega) (by omega) cH HCH.out
  have HBW : Hid (Below w.heap.size w w3) := BW.out.trans (B3.out.mono BW.out.size)
  clear b23 b13 B1 B2 GS1 G2 R3' hz
  go_wp2_with (with_reducible refine wpList_load_gp (by with_unfolding_all rfl) 31 (.tmp 4) rfl w2.heap.size (by with_unfolding_all rfl) 31 cG H3.out Try.underlying31 (by rw [HL1.out]; exact infoState) ?_)
  (with_reducible refine HF.out.mono ?_)
  rintro e w4 ⟨rfl, b4⟩
  have HB4 : Hid (Below w.heap.size w w4) := HBW.out.trans (b4.mono HBW.out.size)
  clear b4
  go_wp2_with fail
  go_ret
  exact ⟨rfl, HB4.out⟩
end Go.Proofs.Ytbmhdinaofepdaa
