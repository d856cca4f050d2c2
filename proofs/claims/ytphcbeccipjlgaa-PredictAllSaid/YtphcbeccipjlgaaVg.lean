/- THE REFERENCE: Chain. -/
import Derived.Test.YtphcbeccipjlgaaVf
namespace Go.Proofs.Ytphcbeccipjlgaa
set_option maxRecDepth 100000
open Go.RowKit Go.Maps
set_option linter.unusedVariables false
set_option linter.unusedSimpArgs false

/-- two rows that lie apart -/
def Ap (l out : Value) : Prop := ∀ k, l.ownBlock = some k → out.ownBlock ≠ some k
theorem ap_kept {w w' : World} {base : Nat} {l out : Value} {x : List UInt8} (h : OB w base out x) (ha : Ap l out) (hg : w.grownBy w' l.ownBlock) : OB w' base out x := by
  refine World.ownsRow.kept h hg ?_
  cases hv : out.ownBlock with
  | none => exact .inl rfl
  | some k => exact .inr (fun e => ha k e.symm hv)
theorem ap_kept' {w w' : World} {base : Nat} {l out : Value} {x : List UInt8} (h : OB w base l x) (ha : Ap l out) (hg : w.grownBy w' out.ownBlock) : OB w' base l x := by
  refine World.ownsRow.kept h hg ?_
  cases hv : l.ownBlock with
  | none => exact .inl rfl
  | some k => exact .inr (fun e => ha k hv e.symm)
set_option maxHeartbeats 1000000 in
theorem rchain_none (z o : Int) (A : Option Addr) (n c : Nat) (P : Option Addr) (L pc : Nat) (k : Int) (w : World) (hn : n ≤ maxLen) (hmay : mayB z o n = false) :
    Calls Try.prog 20 #[.agg #[.int .i64 z, .int .i64 o, .slice A n c], .slice P L pc, .int .i64 k] w fun e w' => e = .returned (.slice none 0 0) ∧ Below w.heap.size w w' := by
  obtain ⟨w2, hw2⟩ : ∃ w2, w.alloc (.cells #[.int .i64 z, .int .i64 o, .slice A n c] 24) = w2 := ⟨_, rfl⟩
  have b2 : Below w.heap.size w w2 := by rw [← hw2]; exact (Below.refl _ _).alloc (Nat.le_refl _) _
  have HM := Lib.hid (mayBy_at z o A n c w2 hn false hmay)
  rw [← hw2] at HM
  have HW := Lib.hid hw2
  have B2 := Lib.hid b2
  clear hw2 b2 hmay
  go_enter Try.func20, Try.ntmps20
  go_wp2_with fail
  (with_reducible refine HM.out.mono ?_)
  rintro e w5 ⟨rfl, hb5⟩
  rw [HW.out] at hb5
  have HB5 := Lib.hid (B2.out.trans (hb5.mono B2.out.size))
  clear hb5
  go_wp2_with fail
  go_ret
  exact ⟨rfl, HB5.out⟩
set_option maxHeartbeats 4000000 in
theorem rchain_any (b : Kd) (z o : Int) (hz : z = (b.k : Int)) (ho : o = (b.o : Int)) (A : Option Addr) (n c : Nat) (P : Option Addr) (p : List UInt8) (L pc : Nat) (k : Int) (w : World) (hk : KM w b A n c) (hp : PM w P p L pc) (hl : L ≤ 900) (m : Nat) (hm : min (max k 0) 1000 = (m : Int)) :
    Calls Try.prog 20 #[.agg #[.int .i64 z, .int .i64 o, .slice A n c], .slice P L pc, .int .i64 k] w fun e w' => (∃ v, e = .returned v ∧ OB w' w.heap.size v (chN b m p)) ∧ Below w.heap.size w w' := by
  obtain ⟨w2, hw2⟩ : ∃ w2, w.alloc (.cells #[.int .i64 z, .int .i64 o, .slice A n c] 24) = w2 := ⟨_, rfl⟩
  have b2 : Below w.heap.size w w2 := by rw [← hw2]; exact (Below.refl _ _).alloc (Nat.le_refl _) _
  have s2 : w2.heap.size = w.heap.size + 1 := by rw [← hw2]; simp
  have hbox : w2.heap[w.heap.size]? = some (.cells #[.int .i64 z, .int .i64 o, .slice A n c] 24 (0, 0)) := by
    rw [← hw2]; exact heap_alloc_last w _
  have hmay : mayB z o n = true := by rw [hz, ho]; exact hk.may
  have HM := Lib.hid (mayBy_at z o A n c w2 hk.nm true hmay)
  rw [← hw2] at HM
  have HW := Lib.hid hw2
  have B2 := Lib.hid b2; have S2 := Lib.hid s2; have BX := Lib.hid (box3 hbox)
  have hk2 := hk.then_ b2
  have HKx : Hid (∀ wx, Below (w.heap.size + 1) w2 wx → KM wx b A n c) := fun wx hx => ⟨hk2.ok, hk2.len, hk2.nc, hk2.cm, RB.more (hk2.t.below (hx.mono (by rw [s2]; exact Nat.le_refl _))) hx.size⟩
  have HP := Lib.hid (hp.then_ b2)
  have HZ := Lib.hid hz; have HO := Lib.hid ho
  have HMm := Lib.hid hm
  have HLp : Hid (p.length = L) := hp.len
  clear hw2 b2 s2 hbox hmay hk hk2 hp hz ho hm
  go_enter Try.func20, Try.ntmps20
  go_wp2_with fail
  (with_reducible refine HM.out.mono ?_)
  rintro e w3 ⟨rfl, hb3⟩
  rw [HW.out] at hb3
  have HB3 := Lib.hid (B2.out.trans (hb3.mono B2.out.size))
  have X3 : Hid (Below (w.heap.size + 1) w2 w3) := hb3.mono (by rw [S2.out]; exact Nat.le_refl _)
  have HP3 := Lib.hid (HP.out.then_ hb3)
  have hs3 : Hid (w.heap.size + 1 ≤ w3.heap.size) := by unfold Hid; have := X3.out.size; have := S2.out; omega
  have hP1 : Hid (Value.slice P L pc = .slice P p.length pc) := by rw [HP3.out.len]; rfl
  have hl1 : Hid (([] : List UInt8).length + p.length ≤ 140737488355328) := by unfold Hid; rw [HP3.out.len]; simp; omega
  clear hb3 HM HP HW
  go_wp2_with (at_builtin; refine wpList_append_bytes rfl (.const (.slice none 0 0)) (.tmp 14) rfl (w.heap.size + 1) _ [] p rfl (OB.nil _ _) w3.heap.size P pc hP1.out HP3.out.t hl1.out hs3.out ?_; intro v5 w5 O5 G5 E5)
  rw [List.nil_append] at O5
  have hb35 : Below w3.heap.size w3 w5 := (Below.refl _ _).grown G5 (Nat.le_refl _) (fun k e => by cases e)
  have X5 : Hid (Below (w.heap.size + 1) w2 w5) := X3.out.trans (hb35.mono hs3.out)
  have O6 : Hid (OB w5 (w.heap.size + 1) v5 (p ++ chN b 0 p)) := by simpa [Hid, chN] using O5
  have O7 : Hid (OB w5 (w.heap.size + 1) (.slice none 0 0) (chN b 0 p)) := OB.nil _ _
  have A7 : Hid (Ap v5 (.slice none 0 0)) := fun k hk e => by cases e
  clear O5 G5 E5 hb35 hP1 hl1 HP3 HB3 X3 hs3
  go_loopw [7, 8, 9] (fun s7 s8 s9 wr => ∃ (j : Nat) (l out : Value), s7 = l ∧ s8 = out ∧ s9 = .int .i64 j ∧ j ≤ m ∧ Hid (OB wr (w.heap.size + 1) l (p ++ chN b j p)) ∧ Hid (OB wr (w.heap.size + 1) out (chN b j p)) ∧ Hid (Ap l out) ∧ Hid (Below (w.heap.size + 1) w2 wr)) (fun _ _ v _ => m - (intOf v).toNat)
  case atStart => exact ⟨0, _, _, rfl, rfl, rfl, Nat.zero_le _, O6, O7, A7, X5⟩
  case round =>
    clear O6 O7 A7 X5
    obtain ⟨j, l, out, rfl, rfl, rfl, hj, HL, HOu, HAp, HB⟩ := hrel
    have hm1 : m ≤ 1000 := by have := HMm.out; omega
    by_cases hlt : j < m
    · have hjk : (j : Int) < k := by have := HMm.out; omega
      have hj1 : (j : Int) < 1000 := by omega
      obtain ⟨q, hq⟩ : ∃ q, p ++ chN b j p = q := ⟨_, rfl⟩
      rw [hq] at HL
      have hqL : q.length = L + j := by rw [← hq, List.length_append, chN_len, HLp.out]
      obtain ⟨A7, c7, rfl, hc7, hm7, hr7⟩ := HL.out.form_n (L + j) hqL
      obtain ⟨B7, d7, rfl, -, -, -⟩ := HOu.out.form_n j (chN_len _ _ _)
      have c0 := (BX.out _ HB.out).1
      have c1 := (BX.out _ HB.out).2.1
      have c2 := (BX.out _ HB.out).2.2
      obtain ⟨x, hx⟩ : ∃ x, nxt b q = x := ⟨_, rfl⟩
      have hR := rrank_any b z o HZ.out HO.out A n c A7 q (L + j) c7 1 wr (HKx.out wr HB.out) ⟨hqL, hc7, hm7, hr7⟩ (by omega) (by omega) 1 (by decide)
      have ht1 : (rk (sc b q)).take 1 = [x] := by obtain ⟨t, ht⟩ := rk_cons (sc b q); rw [ht, ← hx]; rfl
      rw [ht1] at hR
      have HR := Lib.hid hR
      have HX := Lib.hid hx; have HQ := Lib.hid hq; have HQL := Lib.hid hqL
      clear hR ht1 hx hq hqL hr7
      go_wp2_with fail
      (with_reducible refine HR.out.mono ?_)
      rintro e w10 ⟨⟨v, rfl, o10⟩, hb10⟩
      obtain ⟨gr, cr, rfl, hgr, -, -⟩ := o10.some_ (by simp)
      have rr := o10.cells
      have cr0 := rr.cell_ 0 (by simp)
      have e0 : ([x] : List UInt8).getD 0 0 = x := rfl
      rw [e0] at cr0
      simp only [Nat.add_zero] at cr0
      have hgr10 : gr < w10.heap.size := cell_lt cr0
      have CR0 := Lib.hid cr0
      have HL10 : Hid (OB w10 (w.heap.size + 1) (.slice A7 (L + j) c7) q) := HL.out.below hb10 (Nat.le_refl _)
      have HO10 : Hid (OB w10 (w.heap.size + 1) (.slice B7 j d7) (chN b j p)) := HOu.out.below hb10 (Nat.le_refl _)
      have LOl : Hid (Low (.slice A7 (L + j) c7) wr.heap.size) := HL.out.low
      have LOo : Hid (Low (.slice B7 j d7) wr.heap.size) := HOu.out.low
      have hwr : w.heap.size + 1 ≤ wr.heap.size := by have := HB.out.size; have := S2.out; omega
      have hw10 : wr.heap.size ≤ w10.heap.size := hb10.size
      have HB10 : Hid (Below (w.heap.size + 1) w2 w10) := HB.out.trans (hb10.mono hwr)
      obtain ⟨w11, hw11⟩ : ∃ w11, w10.alloc (.cells #[.int .u8 (x.toNat : Int)] 5) = w11 := ⟨_, rfl⟩
      have b11 : Below w10.heap.size w10 w11 := by rw [← hw11]; exact (Below.refl _ _).alloc (Nat.le_refl _) _
      have s11 : w11.heap.size = w10.heap.size + 1 := by rw [← hw11]; simp
      have R11 : Hid (RB w11 (w10.heap.size + 1) (some ⟨w10.heap.size, 0, none⟩) [x]) := by rw [← hw11]; exact rb_cells w10 [x] 5 (w10.heap.size + 1) (by omega)
      have HL11 : Hid (OB w11 (w.heap.size + 1) (.slice A7 (L + j) c7) q) := HL10.out.below b11 (Nat.le_refl _)
      have HO11 : Hid (OB w11 (w.heap.size + 1) (.slice B7 j d7) (chN b j p)) := HO10.out.below b11 (Nat.le_refl _)
      have hl11 : Hid (q.length + [x].length ≤ 140737488355328) := by unfold Hid; rw [HQL.out]; simp; omega
      have hb11 : Hid (w.heap.size + 1 ≤ w11.heap.size) := by unfold Hid; omega
      have HW11 := Lib.hid hw11
      have C11 : Hid (w11.cell? ⟨gr, 0, none⟩ = some (.int .u8 (x.toNat : Int))) := (b11.cell (p := ⟨gr, 0, none⟩) hgr10).trans CR0.out
      have HB11 : Hid (Below (w.heap.size + 1) w2 w11) := HB10.out.trans (b11.mono (by omega))
      have S11 := Lib.hid s11
      clear o10 rr hb10 e0 hw11 b11 HL HOu HR HB c0 c1 c2 HL10 HO10 HB10 s11
      go_upto_region 10 with (at_builtin; refine wpList_append_bytes rfl (.tmp 28) (.tmp 32) rfl (w.heap.size + 1) _ q [x] rfl (by rw [HW11.out]; exact HL11.out) (w10.heap.size + 1) (some ⟨w10.heap.size, 0, none⟩) 1 rfl (by rw [HW11.out]; exact R11.out) hl11.out (by rw [HW11.out]; exact hb11.out) ?_; intro v12 w12 O12 G12 E12)
      rw [HW11.out] at G12 E12
      have cr12 : w12.cell? ⟨gr, 0, none⟩ = some (.int .u8 (x.toNat : Int)) := by
        rw [← C11.out]
        have hb := G12.block gr (by have := S11.out; omega) (fun e => absurd (LOl.out gr e.symm) (Nat.not_lt.2 hgr))
        unfold World.cell?
        simp only [hb]
      have HO12 : Hid (OB w12 (w.heap.size + 1) (.slice B7 j d7) (chN b j p)) := ap_kept HO11.out HAp.out G12
      have HA12 : Hid (Ap v12 (.slice B7 j d7)) := fun k hk e => by
        rcases E12 with h | h
        · rw [h] at hk; exact HAp.out k hk e
        · rw [h] at hk
          have h1 := LOo.out k e
          have h2 := Option.some.inj hk
          have := S11.out
          omega
      have hz12 := G12.size
      have HB12 : Hid (Below (w.heap.size + 1) w2 w12) := HB11.out.grown G12 (by have := hb11.out; have := HB11.out.size; omega) HL11.out.ge
      obtain ⟨A12, c12, rfl, -, -, -⟩ := O12.form_n (L + j + 1) (by rw [List.length_append, HQL.out]; rfl)
      have HL12 := Lib.hid O12
      have hs12 : w.heap.size + 1 ≤ w12.heap.size := by have := hb11.out; omega
      obtain ⟨w13, hw13⟩ : ∃ w13, w12.alloc (.cells #[.int .u8 (x.toNat : Int)] 5) = w13 := ⟨_, rfl⟩
      have b13 : Below w12.heap.size w12 w13 := by rw [← hw13]; exact (Below.refl _ _).alloc (Nat.le_refl _) _
      have s13 : w13.heap.size = w12.heap.size + 1 := by rw [← hw13]; simp
      have R13 : Hid (RB w13 (w12.heap.size + 1) (some ⟨w12.heap.size, 0, none⟩) [x]) := by rw [← hw13]; exact rb_cells w12 [x] 5 (w12.heap.size + 1) (by omega)
      have HL13 : Hid (OB w13 (w.heap.size + 1) (.slice A12 (L + j + 1) c12) (q ++ [x])) := HL12.out.below b13 (Nat.le_refl _)
      have HO13 : Hid (OB w13 (w.heap.size + 1) (.slice B7 j d7) (chN b j p)) := HO12.out.below b13 (Nat.le_refl _)
      have hl13 : Hid ((chN b j p).length + [x].length ≤ 140737488355328) := by unfold Hid; rw [chN_len]; simp; omega
      have hb13 : Hid (w.heap.size + 1 ≤ w13.heap.size) := by unfold Hid; omega
      have HB13 : Hid (Below (w.heap.size + 1) w2 w13) := HB12.out.trans (b13.mono hs12)
      have LO12 : Hid (Low (.slice A12 (L + j + 1) c12) w12.heap.size) := HL12.out.low
      have HW13 := Lib.hid hw13
      have S13 := Lib.hid s13
      clear hw13 b13 s13 O12 E12 G12
      go_wp2_with (at_builtin; refine wpList_append_bytes rfl (.tmp 34) (.tmp 38) rfl (w.heap.size + 1) _ (chN b j p) [x] rfl (by rw [HW13.out]; exact HO13.out) (w12.heap.size + 1) (some ⟨w12.heap.size, 0, none⟩) 1 rfl (by rw [HW13.out]; exact R13.out) hl13.out (by rw [HW13.out]; exact hb13.out) ?_; intro v14 w14 O14 G14 E14)
      rw [HW13.out] at G14 E14
      have hjj : chN b (j + 1) p = chN b j p ++ [x] := by rw [chN_snoc, HQ.out, HX.out]
      have hq2 : p ++ chN b (j + 1) p = q ++ [x] := by rw [hjj, ← List.append_assoc, HQ.out]
      refine ⟨⟨j + 1, _, v14, rfl, rfl, by go_num, by omega, ?_, ?_, ?_, ?_⟩, by simp [intOf]; omega⟩
      · rw [hq2]; exact ap_kept' HL13.out HA12.out G14
      · rw [hjj]; exact O14
      · intro k hk e
        rcases E14 with h | h
        · rw [h] at e; exact HA12.out k hk e
        · rw [h] at e
          have h1 := LO12.out k hk
          have h2 := Option.some.inj e
          have := S13.out
          omega
      · exact HB13.out.grown G14 hb13.out HO13.out.ge
    · obtain rfl : j = m := by omega
      obtain ⟨A7, c7, rfl, -, -, -⟩ := HL.out.form_n (L + j) (by rw [List.length_append, chN_len, HLp.out])
      have HBf := Lib.hid (B2.out.trans (HB.out.mono (by omega)))
      have HOf := Lib.hid (HOu.out.less (b' := w.heap.size) (by omega))
      by_cases hjk : (j : Int) < k
      · have hj1 : ¬ (j : Int) < 1000 := by have := HMm.out; omega
        go_wp2_with fail
        go_ret
        exact ⟨⟨_, rfl, HOf.out⟩, HBf.out⟩
      · go_wp2_with fail
        go_ret
        exact ⟨⟨_, rfl, HOf.out⟩, HBf.out⟩
end Go.Proofs.Ytphcbeccipjlgaa
