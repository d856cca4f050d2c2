/- WALK of the law NetAll. -/
import Derived.Test.YtolnafpicfemnaaHo
import Derived.Test.YtolnafpicfemnaaHi
import Derived.Test.YtolnafpicfemnaaKr
import Derived.Test.YtolnafpicfemnaaYk
import Derived.Deep.CutBlock
namespace Go.Proofs.Ytolnafpicfemnaa
set_option maxRecDepth 100000
open Go.RowKit
set_option linter.unusedVariables false
set_option linter.unusedSimpArgs false

theorem short_n (A : Option Addr) (l : List UInt8) (n cap k : Nat) (w : World) (hn : l.length = n) (hk : k ≤ 1000) (hc : n ≤ cap) (hc2 : cap ≤ maxLen) (X : Nat) (hX : (l.take k).length = X) (K : Int) (hK : K = (k : Int)) :
    Calls Try.prog 10 #[.slice A n cap, .int .i64 K] w fun e w' => e = .returned (.slice A X cap) ∧ w = w' := by
  subst hn hX hK
  exact short_any A l cap k w hk hc hc2
theorem LW.spare {w : World} {O : Nat → Prop} {A : Option Addr} {n cap : Nat} {ls : List Ml} {ps : List Pm} (h : LW w O (.slice A n cap) ls ps) : ps.length = n ∧ n ≤ cap ∧ cap ≤ maxLen := by
  obtain ⟨A', cap', e, h1, h2⟩ := h.row.form _ h.len
  injection e with e1 e2 e3
  subst e2 e3
  exact ⟨rfl, h1, h2⟩
theorem wpList_load_opn {w : World} {ops : Array Oper} {rest : List Oper} {o : Oper} {a : Act} {Q : Exit → Act → World → Prop} (hgd : o.guard = none) (x : Operand) (ho : o.op = .load 31 x)
    (g off : Nat) (hx : a.eval x = .pointer (some ⟨g, off, none⟩)) {q : O7} (h : at7 w g off q) (n : Nat) (hn : q.l.length = n)
    (hk : wpList Try.prog ops Q rest (a.put o.dst (opV q.k q.i q.p q.x q.f q.t q.a n q.cap)) w) : wpList Try.prog ops Q (o :: rest) a w := by
  subst hn
  exact wpList_load_op hgd x ho g off hx h hk
theorem ob_a1 {w5 w6 : World} {B : Nat} {v : Value} {y : List UInt8} {o : Obj} (h : OB w5 B v y) (g6 : (w5.alloc o).grownBy w6 (some w5.heap.size)) : OB w6 B v y :=
  h.same fun k hk => (g6.block k (by have := (h.lt k hk).2; simp; omega) (fun e => by have h1 := (h.lt k hk).2; have h2 := Option.some.inj e; omega)).trans (Below.heap_alloc w5 o k (h.lt k hk).2)
theorem ob_a2 {w3 w5 w6 : World} {B : Nat} {v : Value} {y : List UInt8} {o : Obj} (h : OB w5 B v y) (e : v.ownBlock = (Value.slice none 0 0).ownBlock ∨ v.ownBlock = some (w3.alloc o).heap.size) (g6 : w5.grownBy w6 (some w3.heap.size)) : OB w6 B v y :=
  h.same fun k hk => g6.block k (h.lt k hk).2 (fun e2 => by
    have h1 := Option.some.inj e2
    rcases e with e | e
    · rw [hk] at e; cases e
    · rw [hk] at e
      have h2 := Option.some.inj e
      simp at h2
      omega)
theorem nf_mlen {w0 w : World} {b : Nat} {ps : List Pm} {O : Nat → Prop} (h : NF w0 w b ps O) {j : Nat} {p : Pm} (hp : ps[j]? = some p) : p.l.length ≤ 1000 := by
  obtain ⟨v, ms, h1, h2, _⟩ := h
  obtain ⟨hj, rfl⟩ := nf_at h2 hp
  exact h1.mlen j hj
theorem keep29 {w w' : World} {P g o R : Nat} {f t I : Int} {A B : Option Addr} {n c m c2 : Nat} (h : MlM w P f t A n c ∧ (w.cell? ⟨g, o, none⟩ = some (.int .i64 f) ∧ w.cell? ⟨g, o + 1, none⟩ = some (.int .i64 t) ∧ w.cell? ⟨g, o + 2, none⟩ = some (.slice B m c2)) ∧ w.cell? ⟨R, 1, none⟩ = some (.int .i64 I)) (hb : Below w.heap.size w w') :
    MlM w' P f t A n c ∧ (w'.cell? ⟨g, o, none⟩ = some (.int .i64 f) ∧ w'.cell? ⟨g, o + 1, none⟩ = some (.int .i64 t) ∧ w'.cell? ⟨g, o + 2, none⟩ = some (.slice B m c2)) ∧ w'.cell? ⟨R, 1, none⟩ = some (.int .i64 I) :=
  ⟨h.1.then_ hb, ⟨(hb.cell (p := ⟨g, _, none⟩) (cell_lt h.2.1.1)).trans h.2.1.1, (hb.cell (p := ⟨g, _, none⟩) (cell_lt h.2.1.1)).trans h.2.1.2.1, (hb.cell (p := ⟨g, _, none⟩) (cell_lt h.2.1.1)).trans h.2.1.2.2⟩, (hb.cell (p := ⟨R, _, none⟩) (cell_lt h.2.2)).trans h.2.2⟩
theorem grab_up {O : Nat → Prop} {w w1 w2 : World} (h : w1.heap.size ≤ w2.heap.size) (k : Nat) (hk : Grab O w w1 k) : Grab O w w2 k := hk.imp id (fun h2 => ⟨h2.1, Nat.lt_of_lt_of_le h2.2 h⟩)
theorem erase_len {ps : List Pm} (j : Nat) : (ps.eraseIdx j).length ≤ ps.length := (List.eraseIdx_sublist ps j).length_le
theorem RB9 {w w' : World} {O O' : Nat → Prop} {g n cap j m c : Nat} {ls : List Ml} {ps : List Pm} {B : Option Addr} {p : Pm} (h : LW w O (.slice (some ⟨g, 0, none⟩) n cap) ls ps) (hp : ps[j]? = some p) (hc : w.cell? ⟨g, j * 3 + 2, none⟩ = some (.slice B m c)) (h' : LW w' O' (.slice (some ⟨g, 0, none⟩) n cap) ls ps) (hm : p.l.length = m) : RB w' w'.heap.size B p.l := by
  obtain ⟨g1, B1, c1, hj, e1, e2, _, _, k2, _⟩ := h.at rfl j p hp m hm
  obtain ⟨g2, B2, c2, hj2, e3, e4, _, _, _, _, _, r⟩ := h'.at rfl j p hp m hm
  have e5 : g1 = g := by injection e1 with e1; injection e1 with e1; exact e1.symm
  subst e5
  have e6 : Value.slice B m c = Value.slice B1 m c1 := Option.some.inj (hc.symm.trans k2)
  injection e6 with e6 e7 e8
  have e9 : ls[j].v = .slice B2 m c2 := by rw [e4]
  rw [e2] at e9
  injection e9 with e9 e10 e11
  rw [e6, e9]
  exact r
theorem keep44 {w w' : World} {P g o : Nat} {f t : Int} {A B : Option Addr} {n c m c2 : Nat} (h : MlM w P f t A n c ∧ w.cell? ⟨g, o, none⟩ = some (.int .i64 f) ∧ w.cell? ⟨g, o + 1, none⟩ = some (.int .i64 t) ∧ w.cell? ⟨g, o + 2, none⟩ = some (.slice B m c2)) (hb : Below w.heap.size w w') :
    MlM w' P f t A n c ∧ w'.cell? ⟨g, o, none⟩ = some (.int .i64 f) ∧ w'.cell? ⟨g, o + 1, none⟩ = some (.int .i64 t) ∧ w'.cell? ⟨g, o + 2, none⟩ = some (.slice B m c2) :=
  ⟨h.1.then_ hb, (hb.cell (p := ⟨g, _, none⟩) (cell_lt h.2.1)).trans h.2.1, (hb.cell (p := ⟨g, _, none⟩) (cell_lt h.2.1)).trans h.2.2.1, (hb.cell (p := ⟨g, _, none⟩) (cell_lt h.2.1)).trans h.2.2.2⟩
set_option maxHeartbeats 40000000 in
theorem all_law (A0 : Option Addr) (qs : List O7) (cap0 : Nat) (w : World) (h0 : RO7 w w.heap.size A0 qs) (k0 : qs.length ≤ cap0) (m0 : cap0 ≤ maxLen) (q0 : ∀ o ∈ qs, InO7 w o) :
    Calls Try.prog 3 #[.slice A0 qs.length cap0] w fun e w' => e = .returned (.bool true) ∧ Below w.heap.size w w' := by
  have HG := Lib.hid (begun16_any w)
  have HR := Lib.hid h0
  have HQ := Lib.hid q0
  obtain ⟨L, hL⟩ : ∃ L, qs.length = L := ⟨_, rfl⟩
  have HL := Lib.hid hL
  rw [hL] at k0 ⊢
  unfold maxLen at m0
  clear h0 q0 hL
  go_enter Try.func3, Try.ntmps3
  go_wp2_with fail
  (with_reducible refine HG.out.mono ?_)
  rintro e w1 ⟨rfl, b1⟩
  have HNw := Lib.hid (nf_new w w1 b1 noB (no_noB w w1))
  clear HG b1
  go_wp2_with fail
  (with_reducible refine HNw.out.mono ?_)
  rintro e w2 ⟨rfl, F2, -⟩
  have HF2 := Lib.hid F2
  clear HNw F2
  go_upto_block 0 with fail
  go_cut [5, 6, 7, 8, 9, 10, 11, 12, 13] (fun s5 s6 s7 s8 s9 s10 s11 s12 s13 wx => ∃ (ps : List Pm) (O : Nat → Prop) (A : Option Addr) (n cap : Nat) (ls : List Ml), s5 = .slice A n cap ∧ Hid (ps.length ≤ 60) ∧ Hid (NF w wx w1.heap.size ps O) ∧ Hid (LW wx O (.slice A n cap) ls ps))
  case first =>
    go_wp2_with fail
    go_loopw [5, 6] (fun lv iv wr => ∃ (c : Nat) (ps : List Pm) (O : Nat → Prop) (A : Option Addr) (n cap : Nat) (ls : List Ml), iv = .int .i64 c ∧ lv = .slice A n cap ∧ c ≤ 60 ∧ Hid (ps.length ≤ c) ∧ Hid (NF w wr w1.heap.size ps O) ∧ Hid (LW wr O (.slice A n cap) ls ps)) (fun _ iv _ => 60 - (intOf iv).toNat)
    case atStart => exact ⟨0, [], noB, none, 0, 0, [], rfl, rfl, by omega, Lib.hid (Nat.le_refl _), HF2, Lib.hid (LW.nil _ _)⟩
    case round =>
      clear HF2
      obtain ⟨c, ps, O, A, n, cap, ls, rfl, rfl, hc, HPC, HF, HLW⟩ := hrel
      by_cases c1 : c < L
      · have z1 : (c : Int) < L := by omega
        by_cases c2 : c < 60
        · have z2 : (c : Int) < 60 := by omega
          obtain ⟨b0, o0, rfl, -, hcell⟩ := (show RO7 wr w.heap.size A0 qs from HR.out.below HF.out.be) (by rw [HL.out]; omega)
          obtain ⟨o, ho⟩ : ∃ o, qs[c]'(by rw [HL.out]; exact c1) = o := ⟨_, rfl⟩
          have h7 := hcell c (by rw [HL.out]; exact c1)
          have hI := HQ.out o (by rw [← ho]; exact List.getElem_mem _)
          rw [ho] at h7
          clear ho hcell
          obtain ⟨k, i, p, x, f, t, a, l, cp⟩ := o
          obtain ⟨hi, hp, ⟨hx0, hx1⟩, hrb, hle, hcm⟩ := hI
          dsimp only at hi hp hx0 hx1 hrb hle hcm
          obtain ⟨x8, rfl⟩ : ∃ y : UInt8, x = (y.toNat : Int) := ⟨UInt8.ofNat x.toNat, by rw [UInt8.toNat_ofNat']; omega⟩
          obtain ⟨ln, hln⟩ : ∃ m, l.length = m := ⟨_, rfl⟩
          have H7 := Lib.hid h7; have HLNN := Lib.hid hln
          obtain ⟨hn, hnc, hcm2⟩ := HLW.out.spare
          obtain ⟨y, hy⟩ : ∃ y, l.take 40 = y := ⟨_, rfl⟩
          obtain ⟨Y, hY⟩ : ∃ Y, y.length = Y := ⟨_, rfl⟩
          have hY40 : Y ≤ 40 ∧ Y ≤ cp := by rw [← hy, List.length_take] at hY; omega
          have R0 : Hid (RB wr w.heap.size a y) := by rw [← hy]; exact (hrb.below HF.out.be).take 40
          have HSh := Lib.hid (fun W => short_n a l ln cp 40 W hln (by omega) (by omega) hcm Y (by rw [hy, hY]) 40 rfl)
          have HY := Lib.hid hY
          obtain ⟨hY1, hY2⟩ := hY40
          have HLn : Hid (([] : List UInt8).length + y.length ≤ 140737488355328) := by show _ ≤ _; rw [HY.out]; simp; omega
          have HPN := Lib.hid hn
          have HCM2 := Lib.hid hcm2
          have HI := Lib.hid hi; have HP := Lib.hid hp
          have HWS : Hid (w.heap.size ≤ wr.heap.size) := HF.out.be.size
          have HC0 : 0 ≤ (c : Int) := by omega
          rw [hln] at hle
          clear hx0 hx1 h7 hn hcm hcm2 hle hi hp hln hy hY hrb
          go_wp2_with (first
            | (refine wpList_load_opn rfl (.tmp 33) rfl b0 (o0 + c * 7) (by rfl) H7.out ln HLNN.out ?_; dsimp only)
            | (refine wpList_store_op rfl (.tmp 7) (.tmp 34) rfl wr.heap.size (by rfl) (OpM.new wr 0 0 0 0 0 0 none 0 0) (by rfl) ?_; intro w3 p3 g3; have P3 := Lib.hid p3; have B3 : Hid (Below wr.heap.size wr w3) := below_own ((Below.refl _ _).alloc (Nat.le_refl _) _) g3 (Nat.le_refl _); clear p3 g3))
          try simp only [Act.put, List.setIfInBounds_toArray, List.set_cons_zero, List.set_cons_succ]
          go_cut [8] (fun s8 wx => ∃ (Q : Nat) (A8 : Option Addr) (c8 : Nat), s8 = .pointer (some ⟨Q, 0, none⟩) ∧ Hid (wr.heap.size < Q) ∧ Hid (MlM wx Q f t A8 Y c8) ∧ Hid (OB wx (wr.heap.size + 1) (.slice A8 Y c8) y) ∧ Hid (Below wr.heap.size wr wx) ∧ Hid (OpM wx wr.heap.size k i p (x8.toNat : Int) f t a ln cp))
          case first =>
            as_aux_lemma =>
              have HC : Hid (Below wr.heap.size wr w3.drew) := B3.out.drew
              have HS : Hid (wr.heap.size + 1 ≤ w3.drew.heap.size) := P3.out.lt
              have HO : Hid (OpM w3.drew wr.heap.size k i p (x8.toNat : Int) f t a ln cp) := P3.out
              refine wp_region_held_drew (S := (fun w' => w'.cell? ⟨wr.heap.size, 4, none⟩ = some (.int .i64 f) ∧ w'.cell? ⟨wr.heap.size, 5, none⟩ = some (.int .i64 t) ∧ w'.cell? ⟨wr.heap.size, 6, none⟩ = some (.slice a ln cp))) (by kernel_rfl) (⟨(HO.out).c.2.2.2.2.1, (HO.out).c.2.2.2.2.2.1, (HO.out).c.2.2.2.2.2.2⟩) (fun hHeld => ?_)
              refine held_take (i := 0) (v := ?_) rfl (by kernel_rfl) (by kernel_rfl) (by kernel_rfl) (fun _ _ _ h => h) (by rfl) hHeld ?_ ?_
              rotate_left 1
              · (intro w hSw; (try dsimp only at hSw); go_simp; try (with_reducible rfl))
              try simp only [Act.put, List.setIfInBounds_toArray, List.set_cons_zero, List.set_cons_succ]
              refine held_take (i := 1) (v := ?_) rfl (by kernel_rfl) (by kernel_rfl) (by kernel_rfl) (fun _ _ _ h => h) (by rfl) hHeld ?_ ?_
              rotate_left 1
              · (intro w hSw; (try dsimp only at hSw); go_simp; try (with_reducible rfl))
              try simp only [Act.put, List.setIfInBounds_toArray, List.set_cons_zero, List.set_cons_succ]
              refine held_take (i := 2) (v := ?_) rfl (by kernel_rfl) (by kernel_rfl) (by kernel_rfl) (fun _ _ _ h => h) (by rfl) hHeld ?_ ?_
              rotate_left 1
              · (intro w hSw; (try dsimp only at hSw); go_simp; try (with_reducible rfl))
              try simp only [Act.put, List.setIfInBounds_toArray, List.set_cons_zero, List.set_cons_succ]
              refine held_take (i := 3) (v := ?_) rfl (by kernel_rfl) (by kernel_rfl) (by kernel_rfl) (fun _ _ _ h => h) (by rfl) hHeld ?_ ?_
              rotate_left 1
              · (intro w hSw; (try dsimp only at hSw); go_simp; try (with_reducible rfl))
              try simp only [Act.put, List.setIfInBounds_toArray, List.set_cons_zero, List.set_cons_succ]
              refine held_take (i := 4) (v := ?_) rfl (by kernel_rfl) (by kernel_rfl) (by kernel_rfl) (fun _ _ _ h => h) (by rfl) hHeld ?_ ?_
              rotate_left 1
              · (intro w hSw; (try dsimp only at hSw); go_simp; try (with_reducible rfl))
              try simp only [Act.put, List.setIfInBounds_toArray, List.set_cons_zero, List.set_cons_succ]
              refine held_take (i := 5) (v := ?_) rfl (by kernel_rfl) (by kernel_rfl) (by kernel_rfl) (fun _ _ _ h => h) (by rfl) hHeld ?_ ?_
              rotate_left 1
              · (intro w hSw; (try dsimp only at hSw); go_simp; try (with_reducible rfl))
              try simp only [Act.put, List.setIfInBounds_toArray, List.set_cons_zero, List.set_cons_succ]
              refine held_take (i := 6) (v := ?_) rfl (by kernel_rfl) (by kernel_rfl) (by kernel_rfl) (fun _ _ _ h => h) (by rfl) hHeld ?_ ?_
              rotate_left 1
              · (intro w hSw; (try dsimp only at hSw); go_simp; try (with_reducible rfl))
              try simp only [Act.put, List.setIfInBounds_toArray, List.set_cons_zero, List.set_cons_succ]
              refine held_take (i := 7) (v := ?_) rfl (by kernel_rfl) (by kernel_rfl) (by kernel_rfl) (fun _ _ _ h => h) (by rfl) hHeld ?_ ?_
              rotate_left 1
              · (intro w hSw; (try dsimp only at hSw); go_simp; try (with_reducible rfl))
              try simp only [Act.put, List.setIfInBounds_toArray, List.set_cons_zero, List.set_cons_succ]
              refine held_take (i := 8) (v := ?_) rfl (by kernel_rfl) (by kernel_rfl) (by kernel_rfl) (fun _ _ _ h => h) (by rfl) hHeld ?_ ?_
              rotate_left 1
              · (intro w hSw; (try dsimp only at hSw); go_simp; try (with_reducible rfl))
              try simp only [Act.put, List.setIfInBounds_toArray, List.set_cons_zero, List.set_cons_succ]
              refine held_two (i := 9) (j := 12) rfl rfl (by kernel_rfl) (by rfl) (by rfl) (fun K hK => ?_) (fun K hK => ?_)
              · go_simp
                (with_reducible refine (HSh.out _).mono ?_)
                rintro e4 w4 ⟨rfl, rfl⟩
                refine hK.out _ _ (hHeld) (fun hHeld2 => ?_)
                clear hK K hHeld; have hHeld := hHeld2; clear hHeld2
                try simp only [Act.put, List.setIfInBounds_toArray, List.set_cons_zero, List.set_cons_succ]
                refine held_two (i := 10) (j := 12) rfl rfl (by kernel_rfl) (by rfl) (by rfl) (fun K hK => ?_) (fun K hK => ?_)
                · refine wp_append_bytes (.const (.slice none 0 0)) (.tmp 44) (by rfl) (wr.heap.size + 1) (.slice none 0 0) [] y (by rfl) (OB.nil _ _) w.heap.size a cp (by rw [HY.out]; rfl) (R0.out.below (HC.out.mono HWS.out)) HLn.out HS.out ?_
                  intro v5 w5 o5 g5 e5
                  rw [List.nil_append] at o5
                  obtain ⟨A5, c5, rfl, -, -, -⟩ := o5.form_n Y HY.out
                  have HO5 := Lib.hid o5; have HE5 := Lib.hid e5; have G5 := Lib.hid g5
                  replace HO : Hid (OpM w5 wr.heap.size k i p (x8.toNat : Int) f t a ln cp) := HO.out.gr g5 (by simp [Value.ownBlock])
                  replace HC : Hid (Below wr.heap.size wr w5) := HC.out.grown g5 HC.out.size (fun k hk => by cases hk)
                  replace HS : Hid (wr.heap.size + 1 ≤ w5.heap.size) := Nat.le_trans HS.out g5.size
                  clear o5 g5 e5
                  refine hK.out _ _ (⟨(HO.out).c.2.2.2.2.1, (HO.out).c.2.2.2.2.2.1, (HO.out).c.2.2.2.2.2.2⟩) (fun hHeld2 => ?_)
                  clear hK K hHeld; have hHeld := hHeld2; clear hHeld2
                  try simp only [Act.put, List.setIfInBounds_toArray, List.set_cons_zero, List.set_cons_succ]
                  refine held_take (i := 11) (v := ?_) rfl (by kernel_rfl) (by kernel_rfl) (by kernel_rfl) (fun _ _ _ h => h) (by rfl) hHeld ?_ ?_
                  rotate_left 1
                  · (intro w hSw; (try dsimp only at hSw); go_simp; try (with_reducible rfl))
                  try simp only [Act.put, List.setIfInBounds_toArray, List.set_cons_zero, List.set_cons_succ]
                  refine held_one (i := 12) rfl (by kernel_rfl) (by rfl) (fun K hK => ?_)
                  go_simp
                  have HQ0 : Hid (wr.heap.size < w5.heap.size) := HS.out
                  replace HO : Hid (OpM (w5.alloc (mlO 0 0 none 0 0)) wr.heap.size k i p (x8.toNat : Int) f t a ln cp) := HO.out.then_ ((Below.refl _ _).alloc (Nat.le_refl _) _)
                  replace HC : Hid (Below wr.heap.size wr (w5.alloc (mlO 0 0 none 0 0))) := HC.out.alloc HC.out.size _
                  replace HS : Hid (wr.heap.size + 1 ≤ (w5.alloc (mlO 0 0 none 0 0)).heap.size) := Nat.le_trans HS.out (by simp)
                  have HM : Hid (MlM (w5.alloc (mlO 0 0 none 0 0)) w5.heap.size 0 0 none 0 0) := MlM.new _ _ _ _ _ _
                  refine hK.out _ _ (⟨(HO.out).c.2.2.2.2.1, (HO.out).c.2.2.2.2.2.1, (HO.out).c.2.2.2.2.2.2⟩) (fun hHeld2 => ?_)
                  clear hK K hHeld; have hHeld := hHeld2; clear hHeld2
                  try simp only [Act.put, List.setIfInBounds_toArray, List.set_cons_zero, List.set_cons_succ]
                  refine held_one (i := 13) rfl (by kernel_rfl) (by rfl) (fun K hK => ?_)
                  refine wp_store_ml (.tmp 8) (.tmp 46) rfl w5.heap.size (by rfl) HM.out (by rfl) ?_
                  intro w6 p6 s6 g6
                  have HP6 := Lib.hid p6
                  have HBE : Hid (Below wr.heap.size wr w6) := below_own HC.out g6 (Nat.le_of_lt HQ0.out)
                  have HOB := Lib.hid (ob_a1 HO5.out g6)
                  replace HO : Hid (OpM w6 wr.heap.size k i p (x8.toNat : Int) f t a ln cp) := HO.out.kept g6 (by have := HQ0.out; omega)
                  clear p6 s6 g6
                  refine hK.out _ _ (⟨(HO.out).c.2.2.2.2.1, (HO.out).c.2.2.2.2.2.1, (HO.out).c.2.2.2.2.2.2⟩) (fun hHeld2 => ?_)
                  clear hK K hHeld; have hHeld := hHeld2; clear hHeld2
                  try simp only [Act.put, List.setIfInBounds_toArray, List.set_cons_zero, List.set_cons_succ]
                  refine wpAnyH_done (by kernel_rfl) ?_ _
                  skip
                  go_wp2
                  go_meet
                  exact ⟨_, A5, c5, rfl, HQ0, HP6, HOB, HBE, HO⟩
                · go_simp
                  have HQ0 : Hid (wr.heap.size < w3.drew.heap.size) := HS.out
                  replace HO : Hid (OpM (w3.drew.alloc (mlO 0 0 none 0 0)) wr.heap.size k i p (x8.toNat : Int) f t a ln cp) := HO.out.then_ ((Below.refl _ _).alloc (Nat.le_refl _) _)
                  replace HC : Hid (Below wr.heap.size wr (w3.drew.alloc (mlO 0 0 none 0 0))) := HC.out.alloc HC.out.size _
                  replace HS : Hid (wr.heap.size + 1 ≤ (w3.drew.alloc (mlO 0 0 none 0 0)).heap.size) := Nat.le_trans HS.out (by simp)
                  have HM : Hid (MlM (w3.drew.alloc (mlO 0 0 none 0 0)) w3.drew.heap.size 0 0 none 0 0) := MlM.new _ _ _ _ _ _
                  refine hK.out _ _ (⟨(HO.out).c.2.2.2.2.1, (HO.out).c.2.2.2.2.2.1, (HO.out).c.2.2.2.2.2.2⟩) (fun hHeld2 => ?_)
                  clear hK K hHeld; have hHeld := hHeld2; clear hHeld2
                  try simp only [Act.put, List.setIfInBounds_toArray, List.set_cons_zero, List.set_cons_succ]
                  refine held_one (i := 10) rfl (by kernel_rfl) (by rfl) (fun K hK => ?_)
                  refine wp_append_bytes (.const (.slice none 0 0)) (.tmp 44) (by rfl) (wr.heap.size + 1) (.slice none 0 0) [] y (by rfl) (OB.nil _ _) w.heap.size a cp (by rw [HY.out]; rfl) (R0.out.below (HC.out.mono HWS.out)) HLn.out HS.out ?_
                  intro v5 w5 o5 g5 e5
                  rw [List.nil_append] at o5
                  obtain ⟨A5, c5, rfl, -, -, -⟩ := o5.form_n Y HY.out
                  have HO5 := Lib.hid o5; have HE5 := Lib.hid e5; have G5 := Lib.hid g5
                  replace HO : Hid (OpM w5 wr.heap.size k i p (x8.toNat : Int) f t a ln cp) := HO.out.gr g5 (by simp [Value.ownBlock])
                  replace HC : Hid (Below wr.heap.size wr w5) := HC.out.grown g5 HC.out.size (fun k hk => by cases hk)
                  replace HS : Hid (wr.heap.size + 1 ≤ w5.heap.size) := Nat.le_trans HS.out g5.size
                  replace HM : Hid (MlM w5 w3.drew.heap.size 0 0 none 0 0) := (g5.block _ (by simp) (by simp [Value.ownBlock])).trans HM.out
                  clear o5 g5 e5
                  refine hK.out _ _ (⟨(HO.out).c.2.2.2.2.1, (HO.out).c.2.2.2.2.2.1, (HO.out).c.2.2.2.2.2.2⟩) (fun hHeld2 => ?_)
                  clear hK K hHeld; have hHeld := hHeld2; clear hHeld2
                  try simp only [Act.put, List.setIfInBounds_toArray, List.set_cons_zero, List.set_cons_succ]
                  refine held_take (i := 11) (v := ?_) rfl (by kernel_rfl) (by kernel_rfl) (by kernel_rfl) (fun _ _ _ h => h) (by rfl) hHeld ?_ ?_
                  rotate_left 1
                  · (intro w hSw; (try dsimp only at hSw); go_simp; try (with_reducible rfl))
                  try simp only [Act.put, List.setIfInBounds_toArray, List.set_cons_zero, List.set_cons_succ]
                  refine held_one (i := 13) rfl (by kernel_rfl) (by rfl) (fun K hK => ?_)
                  refine wp_store_ml (.tmp 8) (.tmp 46) rfl w3.drew.heap.size (by rfl) HM.out (by rfl) ?_
                  intro w6 p6 s6 g6
                  have HP6 := Lib.hid p6
                  have HBE : Hid (Below wr.heap.size wr w6) := below_own HC.out g6 (Nat.le_of_lt HQ0.out)
                  have HOB := Lib.hid (ob_a2 HO5.out HE5.out g6)
                  replace HO : Hid (OpM w6 wr.heap.size k i p (x8.toNat : Int) f t a ln cp) := HO.out.kept g6 (by have := HQ0.out; omega)
                  clear p6 s6 g6
                  refine hK.out _ _ (⟨(HO.out).c.2.2.2.2.1, (HO.out).c.2.2.2.2.2.1, (HO.out).c.2.2.2.2.2.2⟩) (fun hHeld2 => ?_)
                  clear hK K hHeld; have hHeld := hHeld2; clear hHeld2
                  try simp only [Act.put, List.setIfInBounds_toArray, List.set_cons_zero, List.set_cons_succ]
                  refine wpAnyH_done (by kernel_rfl) ?_ _
                  skip
                  go_wp2
                  go_meet
                  exact ⟨_, A5, c5, rfl, HQ0, HP6, HOB, HBE, HO⟩
              · go_simp
                have HQ0 : Hid (wr.heap.size < w3.drew.heap.size) := HS.out
                replace HO : Hid (OpM (w3.drew.alloc (mlO 0 0 none 0 0)) wr.heap.size k i p (x8.toNat : Int) f t a ln cp) := HO.out.then_ ((Below.refl _ _).alloc (Nat.le_refl _) _)
                replace HC : Hid (Below wr.heap.size wr (w3.drew.alloc (mlO 0 0 none 0 0))) := HC.out.alloc HC.out.size _
                replace HS : Hid (wr.heap.size + 1 ≤ (w3.drew.alloc (mlO 0 0 none 0 0)).heap.size) := Nat.le_trans HS.out (by simp)
                have HM : Hid (MlM (w3.drew.alloc (mlO 0 0 none 0 0)) w3.drew.heap.size 0 0 none 0 0) := MlM.new _ _ _ _ _ _
                refine hK.out _ _ (⟨(HO.out).c.2.2.2.2.1, (HO.out).c.2.2.2.2.2.1, (HO.out).c.2.2.2.2.2.2⟩) (fun hHeld2 => ?_)
                clear hK K hHeld; have hHeld := hHeld2; clear hHeld2
                try simp only [Act.put, List.setIfInBounds_toArray, List.set_cons_zero, List.set_cons_succ]
                refine held_one (i := 9) rfl (by kernel_rfl) (by rfl) (fun K hK => ?_)
                go_simp
                (with_reducible refine (HSh.out _).mono ?_)
                rintro e4 w4 ⟨rfl, rfl⟩
                refine hK.out _ _ (hHeld) (fun hHeld2 => ?_)
                clear hK K hHeld; have hHeld := hHeld2; clear hHeld2
                try simp only [Act.put, List.setIfInBounds_toArray, List.set_cons_zero, List.set_cons_succ]
                refine held_one (i := 10) rfl (by kernel_rfl) (by rfl) (fun K hK => ?_)
                refine wp_append_bytes (.const (.slice none 0 0)) (.tmp 44) (by rfl) (wr.heap.size + 1) (.slice none 0 0) [] y (by rfl) (OB.nil _ _) w.heap.size a cp (by rw [HY.out]; rfl) (R0.out.below (HC.out.mono HWS.out)) HLn.out HS.out ?_
                intro v5 w5 o5 g5 e5
                rw [List.nil_append] at o5
                obtain ⟨A5, c5, rfl, -, -, -⟩ := o5.form_n Y HY.out
                have HO5 := Lib.hid o5; have HE5 := Lib.hid e5; have G5 := Lib.hid g5
                replace HO : Hid (OpM w5 wr.heap.size k i p (x8.toNat : Int) f t a ln cp) := HO.out.gr g5 (by simp [Value.ownBlock])
                replace HC : Hid (Below wr.heap.size wr w5) := HC.out.grown g5 HC.out.size (fun k hk => by cases hk)
                replace HS : Hid (wr.heap.size + 1 ≤ w5.heap.size) := Nat.le_trans HS.out g5.size
                replace HM : Hid (MlM w5 w3.drew.heap.size 0 0 none 0 0) := (g5.block _ (by simp) (by simp [Value.ownBlock])).trans HM.out
                clear o5 g5 e5
                refine hK.out _ _ (⟨(HO.out).c.2.2.2.2.1, (HO.out).c.2.2.2.2.2.1, (HO.out).c.2.2.2.2.2.2⟩) (fun hHeld2 => ?_)
                clear hK K hHeld; have hHeld := hHeld2; clear hHeld2
                try simp only [Act.put, List.setIfInBounds_toArray, List.set_cons_zero, List.set_cons_succ]
                refine held_take (i := 11) (v := ?_) rfl (by kernel_rfl) (by kernel_rfl) (by kernel_rfl) (fun _ _ _ h => h) (by rfl) hHeld ?_ ?_
                rotate_left 1
                · (intro w hSw; (try dsimp only at hSw); go_simp; try (with_reducible rfl))
                try simp only [Act.put, List.setIfInBounds_toArray, List.set_cons_zero, List.set_cons_succ]
                refine held_one (i := 13) rfl (by kernel_rfl) (by rfl) (fun K hK => ?_)
                refine wp_store_ml (.tmp 8) (.tmp 46) rfl w3.drew.heap.size (by rfl) HM.out (by rfl) ?_
                intro w6 p6 s6 g6
                have HP6 := Lib.hid p6
                have HBE : Hid (Below wr.heap.size wr w6) := below_own HC.out g6 (Nat.le_of_lt HQ0.out)
                have HOB := Lib.hid (ob_a2 HO5.out HE5.out g6)
                replace HO : Hid (OpM w6 wr.heap.size k i p (x8.toNat : Int) f t a ln cp) := HO.out.kept g6 (by have := HQ0.out; omega)
                clear p6 s6 g6
                refine hK.out _ _ (⟨(HO.out).c.2.2.2.2.1, (HO.out).c.2.2.2.2.2.1, (HO.out).c.2.2.2.2.2.2⟩) (fun hHeld2 => ?_)
                clear hK K hHeld; have hHeld := hHeld2; clear hHeld2
                try simp only [Act.put, List.setIfInBounds_toArray, List.set_cons_zero, List.set_cons_succ]
                refine wpAnyH_done (by kernel_rfl) ?_ _
                skip
                go_wp2
                go_meet
                exact ⟨_, A5, c5, rfl, HQ0, HP6, HOB, HBE, HO⟩
          case rest =>
            obtain ⟨Q, A8, c8, rfl, HQ1, HM8, HO8, HB8, HP8⟩ := hcut
            have HFA := Lib.hid (HF.out.grab HB8.out)
            have HLA := Lib.hid (HLW.out.grab HF.out HB8.out)
            have HOP : Hid (Grab O wr wc wr.heap.size) := .inr ⟨Nat.le_refl _, HP8.out.lt⟩
            have HOQ : Hid (Grab O wr wc Q) := .inr ⟨Nat.le_of_lt HQ1.out, HM8.out.lt⟩
            have HOA : Hid (∀ k, (Value.slice A8 Y c8).ownBlock = some k → Grab O wr wc k) := fun k hk => .inr ⟨by have := (HO8.out.lt k hk).1; omega, (HO8.out.lt k hk).2⟩
            have HNA : Hid (∀ k, (Value.slice A8 Y c8).ownBlock = some k → (Value.slice A n cap).ownBlock ≠ some k) := fun k hk e => by have := (HO8.out.lt k hk).1; have := HLW.out.row.lt k e; omega
            have HWC : Hid (wr.heap.size ≤ wc.heap.size) := HB8.out.size
            have HRL : Hid (∀ k, (Value.slice A n cap).ownBlock = some k → k < wr.heap.size) := fun k hk => HLW.out.row.lt k hk
            generalize Grab O wr wc = O1 at *
            generalize wr.heap.size = P at *
            clear HF HLW HB8
            obtain ⟨q0, q1, q2, q3, -, -, -⟩ := HP8.out.c
            obtain ⟨inb, hinb⟩ : ∃ b, decide (0 ≤ i ∧ i < (n : Int)) = b := ⟨_, rfl⟩
            have HIN := Lib.hid hinb
            clear hinb
            go_upto_region 11 with fail
            try simp only [Act.put, List.setIfInBounds_toArray, List.set_cons_zero, List.set_cons_succ]
            go_cut [9] (fun s9 wx => s9 = .bool inb ∧ wx = wc)
            case first =>
              by_cases i0 : 0 ≤ i
              · by_cases i1 : i < (n : Int)
                · have i2 : Hid (inb = true) := by show _ = _; rw [← HIN.out]; simp; omega
                  go_wp2
                  go_meet
                  exact ⟨by rw [i2.out], rfl⟩
                · have i2 : Hid (inb = false) := by show _ = _; rw [← HIN.out]; simp; omega
                  have i3 : decide (i < (n : Int)) = false := by simp; omega
                  go_wp2
                  go_meet
                  exact ⟨by rw [i2.out] <;> first | rfl | (simp [i3]; done), rfl⟩
              · have i2 : Hid (inb = false) := by show _ = _; rw [← HIN.out]; simp; omega
                go_wp2
                go_meet
                exact ⟨by rw [i2.out], rfl⟩
            case rest =>
              obtain ⟨rfl, rfl⟩ := hcut
              go_upto_block 2 with fail
              try simp only [Act.put, List.setIfInBounds_toArray, List.set_cons_zero, List.set_cons_succ]
              go_cut [5, 10, 11, 12, 13] (fun s5 s10 s11 s12 s13 wx => ∃ (ps' : List Pm) (O' : Nat → Prop) (A' : Option Addr) (n' cap' : Nat) (ls' : List Ml), s5 = .slice A' n' cap' ∧ Hid (ps'.length ≤ c + 1) ∧ Hid (NF w wx w1.heap.size ps' O') ∧ Hid (LW wx O' (.slice A' n' cap') ls' ps'))
              case first =>
                by_cases e0 : k = 0
                · subst e0
                  as_aux_lemma =>
                    have HS := Lib.hid (nf_send HFA.out f t A8 Y c8 y HO8.out.cells HY.out (by have := HPC.out; omega) (by omega))
                    go_wp2_with ((fail_if_success (go_at_call 11)); refine wpList_load_ml rfl (.tmp 8) rfl Q (by rfl) HM8.out ?_)
                    (with_reducible refine HS.out.mono ?_)
                    rintro e wd ⟨rfl, Fd, Sd⟩
                    have HFd := Lib.hid Fd; have HSd := Lib.hid Sd
                    have HMd : Hid (MlM wd Q f t A8 Y c8) := (Sd Q HOQ.out).trans HM8.out
                    have HLd := Lib.hid (HLA.out.same Sd)
                    have HOd := Lib.hid (HO8.out.same fun k hk => Sd k (HOA.out k hk))
                    have Be : Hid (Below wd.heap.size wd (wd.alloc (mlO f t A8 Y c8))) := (Below.refl _ _).alloc (Nat.le_refl _) _
                    have HLe := Lib.hid (HLd.out.same (HFd.out.same Be.out))
                    have HFe := Lib.hid (HFd.out.belows Be.out)
                    have HOe := Lib.hid (HOd.out.below Be.out (Nat.le_refl _))
                    have SRe := Lib.hid (SR.one (MlM.new wd f t A8 Y c8) y)
                    have HLen : Hid (ls.length + 1 ≤ 1000000) := by show _ ≤ _; rw [HLA.out.len, HPN.out]; have := HPN.out; have := HPC.out; omega
                    clear Fd Sd HS
                    go_wp2_with (first
                      | (refine wpList_load_ml rfl (.tmp 8) rfl Q (by rfl) HMd.out ?_)
                      | (refine wpList_append_wr rfl (.tmp 116) (.tmp 118) rfl (.slice A n cap) ls [⟨f, t, .slice A8 Y c8, y⟩] (by rfl) HLe.out.row (some ⟨wd.heap.size, 0, none⟩) 1 1 (by rfl) rfl SRe.out (fun m hm => by obtain rfl := List.mem_singleton.1 hm; exact ⟨_, _, _, rfl⟩) HLen.out ?_; intro v4 w4 r4 g4 h4
                         obtain ⟨A4, c4, rfl, -, -⟩ := r4.form (n + 1) (by rw [List.length_append, HLA.out.len, HPN.out]; rfl)
                         have HF4 := Lib.hid (HFe.out.grew (O' := Grab O1 (wd.alloc (mlO f t A8 Y c8)) w4) g4 (fun k hk => HLA.out.ro k hk) (fun k hk => hk))
                         have HL4 := Lib.hid (HLe.out.snoc g4 ⟨f, t, .slice A8 Y c8, y⟩ r4 h4 (HOe.out.less (Nat.zero_le _)) (fun k hk => ⟨HOA.out k hk, HNA.out k hk⟩))
                         clear r4 g4 h4))
                    go_meet
                    exact ⟨ps ++ [⟨f, t, y⟩], _, A4, n + 1, c4, ls ++ [⟨f, t, .slice A8 Y c8, y⟩], rfl, Lib.hid (by rw [List.length_append]; have := HPC.out; simp; omega), HF4, HL4⟩
                · have f0 : (k == 0) = false := by simpa using e0
                  by_cases e1 : k = 1
                  · subst e1
                    clear f0 e0
                    cases inb
                    · as_aux_lemma =>
                        have hni : ¬ (0 ≤ i ∧ i < (ps.length : Int)) := by rw [HPN.out]; exact of_decide_eq_false HIN.out
                        have HLk := Lib.hid (nf_lookno HFA.out i hni)
                        go_wp2_with fail
                        (with_reducible refine HLk.out.mono ?_)
                        rintro e w5 ⟨rfl, b5⟩
                        have B6 : Hid (Below w5.heap.size w5 (w5.alloc (mlO 0 0 none 0 0))) := (Below.refl _ _).alloc (Nat.le_refl _) _
                        have BY : Hid (Below wc.heap.size wc (w5.alloc (mlO 0 0 none 0 0))) := b5.trans (B6.out.mono b5.size)
                        have HB5 := Lib.hid b5
                        obtain ⟨x0, x1, x2, x3, -, -, -⟩ := (HP8.out.then_ BY.out).c
                        have HP6 := Lib.hid (MlM.new w5 0 0 none 0 0)
                        clear b5 HLk
                        have HF6 := Lib.hid (HFA.out.belows BY.out)
                        have HTk := Lib.hid (nf_takeno HF6.out i hni)
                        go_wp2_with (first
                          | (go_at_call 13; with_reducible refine HTk.out.mono ?_; rintro e w8 ⟨rfl, b8⟩
                             have HM9 := Lib.hid (HP6.out.then_ b8)
                             have BZ := Lib.hid (BY.out.trans (b8.mono BY.out.size))
                             clear b8 x0 x1 x2 x3)
                          | (refine wpList_store_ml rfl (.tmp 10) (.tmp 138) rfl w5.heap.size (by rfl) HM9.out (by rfl) ?_; intro w9 p9 s9 g9
                             have BW : Hid (Below wc.heap.size wc w9) := below_own BZ.out g9 HB5.out.size
                             obtain ⟨x0, x1, x2, x3, -, -, -⟩ := (HP8.out.then_ BW.out).c
                             clear p9 s9 g9))
                        try simp only [Act.put, List.setIfInBounds_toArray, List.set_cons_zero, List.set_cons_succ]
                        refine wp_region_held_drew (S := (fun _ => True)) (by kernel_rfl) (trivial) (fun hHeld => ?_)
                        refine held_take (i := 0) (v := ?_) rfl (by kernel_rfl) (by kernel_rfl) (by kernel_rfl) (fun _ _ _ h => h) (by rfl) hHeld ?_ ?_
                        rotate_left 1
                        · (intro w hSw; (try dsimp only at hSw); go_simp; try (with_reducible rfl))
                        try simp only [Act.put, List.setIfInBounds_toArray, List.set_cons_zero, List.set_cons_succ]
                        refine held_take (i := 1) (v := ?_) rfl (by kernel_rfl) (by kernel_rfl) (by kernel_rfl) (fun _ _ _ h => h) (by rfl) hHeld ?_ ?_
                        rotate_left 1
                        · (intro w hSw; (try dsimp only at hSw); go_simp; try (with_reducible rfl))
                        try simp only [Act.put, List.setIfInBounds_toArray, List.set_cons_zero, List.set_cons_succ]
                        refine held_take (i := 2) (v := ?_) rfl (by kernel_rfl) (by kernel_rfl) (by kernel_rfl) (fun _ _ _ h => h) (by rfl) hHeld ?_ ?_
                        rotate_left 1
                        · (intro w hSw; (try dsimp only at hSw); go_simp; try (with_reducible rfl))
                        try simp only [Act.put, List.setIfInBounds_toArray, List.set_cons_zero, List.set_cons_succ]
                        refine held_take (i := 3) (v := ?_) rfl (by kernel_rfl) (by kernel_rfl) (by kernel_rfl) (fun _ _ _ h => h) (by rfl) hHeld ?_ ?_
                        rotate_left 1
                        · (intro w hSw; (try dsimp only at hSw); go_simp; try (with_reducible rfl))
                        try simp only [Act.put, List.setIfInBounds_toArray, List.set_cons_zero, List.set_cons_succ]
                        refine held_take (i := 4) (v := ?_) rfl (by kernel_rfl) (by kernel_rfl) (by kernel_rfl) (fun _ _ _ h => h) (by rfl) hHeld ?_ ?_
                        rotate_left 1
                        · (intro w hSw; (try dsimp only at hSw); go_simp; try (with_reducible rfl))
                        try simp only [Act.put, List.setIfInBounds_toArray, List.set_cons_zero, List.set_cons_succ]
                        refine held_take (i := 5) (v := ?_) rfl (by kernel_rfl) (by kernel_rfl) (by kernel_rfl) (fun _ _ _ h => h) (by rfl) hHeld ?_ ?_
                        rotate_left 1
                        · (intro w hSw; (try dsimp only at hSw); go_simp; try (with_reducible rfl))
                        try simp only [Act.put, List.setIfInBounds_toArray, List.set_cons_zero, List.set_cons_succ]
                        refine held_off (i := 6) rfl (by kernel_rfl) (by kernel_rfl) (by kernel_rfl) (fun _ _ _ h => h) (by rfl) hHeld ?_
                        try simp only [Act.put, List.setIfInBounds_toArray, List.set_cons_zero, List.set_cons_succ]
                        refine held_off (i := 7) rfl (by kernel_rfl) (by kernel_rfl) (by kernel_rfl) (fun _ _ _ h => h) (by rfl) hHeld ?_
                        try simp only [Act.put, List.setIfInBounds_toArray, List.set_cons_zero, List.set_cons_succ]
                        refine held_off (i := 8) rfl (by kernel_rfl) (by kernel_rfl) (by kernel_rfl) (fun _ _ _ h => h) (by rfl) hHeld ?_
                        try simp only [Act.put, List.setIfInBounds_toArray, List.set_cons_zero, List.set_cons_succ]
                        refine held_off (i := 9) rfl (by kernel_rfl) (by kernel_rfl) (by kernel_rfl) (fun _ _ _ h => h) (by rfl) hHeld ?_
                        try simp only [Act.put, List.setIfInBounds_toArray, List.set_cons_zero, List.set_cons_succ]
                        refine held_off (i := 10) rfl (by kernel_rfl) (by kernel_rfl) (by kernel_rfl) (fun _ _ _ h => h) (by rfl) hHeld ?_
                        try simp only [Act.put, List.setIfInBounds_toArray, List.set_cons_zero, List.set_cons_succ]
                        refine held_off (i := 11) rfl (by kernel_rfl) (by kernel_rfl) (by kernel_rfl) (fun _ _ _ h => h) (by rfl) hHeld ?_
                        try simp only [Act.put, List.setIfInBounds_toArray, List.set_cons_zero, List.set_cons_succ]
                        refine held_off (i := 12) rfl (by kernel_rfl) (by kernel_rfl) (by kernel_rfl) (fun _ _ _ h => h) (by rfl) hHeld ?_
                        try simp only [Act.put, List.setIfInBounds_toArray, List.set_cons_zero, List.set_cons_succ]
                        refine held_off (i := 13) rfl (by kernel_rfl) (by kernel_rfl) (by kernel_rfl) (fun _ _ _ h => h) (by rfl) hHeld ?_
                        try simp only [Act.put, List.setIfInBounds_toArray, List.set_cons_zero, List.set_cons_succ]
                        refine held_take (i := 14) (v := ?_) rfl (by kernel_rfl) (by kernel_rfl) (by kernel_rfl) (fun _ _ _ h => h) (by rfl) hHeld ?_ ?_
                        rotate_left 1
                        · (intro w hSw; (try dsimp only at hSw); go_simp; try (with_reducible rfl))
                        try simp only [Act.put, List.setIfInBounds_toArray, List.set_cons_zero, List.set_cons_succ]
                        refine held_take (i := 15) (v := ?_) rfl (by kernel_rfl) (by kernel_rfl) (by kernel_rfl) (fun _ _ _ h => h) (by rfl) hHeld ?_ ?_
                        rotate_left 1
                        · (intro w hSw; (try dsimp only at hSw); go_simp; try (with_reducible rfl))
                        try simp only [Act.put, List.setIfInBounds_toArray, List.set_cons_zero, List.set_cons_succ]
                        refine wpAnyH_done (by kernel_rfl) ?_ _
                        skip
                        go_wp2
                        go_meet
                        exact ⟨ps, Grab O1 wc w9.drew, A, n, cap, ls, rfl, Lib.hid (by have := HPC.out; omega), Lib.hid (HFA.out.grab (BW.out.drew)), Lib.hid (HLA.out.grab HFA.out (BW.out.drew))⟩
                    · as_aux_lemma =>
                        have hin : 0 ≤ i ∧ i < (n : Int) := of_decide_eq_true HIN.out
                        obtain ⟨j, rfl⟩ : ∃ j : Nat, i = j := ⟨i.toNat, by omega⟩
                        have hj : j < n := by omega
                        have zj : (j : Int) < n := by omega
                        obtain ⟨pm, hpm⟩ : ∃ pm, ps[j]? = some pm := ⟨_, List.getElem?_eq_getElem (by rw [HPN.out]; exact hj)⟩
                        obtain ⟨m, hm⟩ : ∃ m, pm.l.length = m := ⟨_, rfl⟩
                        obtain ⟨g, B1', c1', hjl, rfl, -, k0, k1, k2, hmc, hcm9, rB⟩ := HLA.out.at rfl j pm hpm m hm
                        have HK := Lib.hid (And.intro k0 (And.intro k1 k2))
                        have HPM := Lib.hid hpm; have HMm := Lib.hid hm; have HRB := Lib.hid rB
                        have HPG : Hid (P ≠ g) := fun e => by have := HRL.out g rfl; omega
                        have hn60 : n ≤ 60 := by have := HPN.out; have := HPC.out; omega
                        clear hin hpm hm k0 k1 k2 hjl hcm9 rB
                        have HLk := Lib.hid (nf_look HFA.out (by have := HPC.out; omega) j j rfl pm HPM.out m HMm.out)
                        go_wp2_with (first
                          | (go_at_call 12; with_reducible refine HLk.out.mono ?_; rintro e w5 ⟨A5, c5, rfl, o5, b5⟩; have HO5 := Lib.hid o5; have HB5 := Lib.hid b5; clear o5 b5)
                          | (refine wpList_store_ml rfl (.tmp 10) (.tmp 128) rfl w5.heap.size (by rfl) (MlM.new w5 0 0 none 0 0) (by rfl) ?_; intro w6 p6 s6 g6
                             have HP6 := Lib.hid p6
                             have B6 : Hid (Below w5.heap.size w5 w6) := below_own ((Below.refl _ _).alloc (Nat.le_refl _) _) g6 (Nat.le_refl _)
                             have BY : Hid (Below wc.heap.size wc w6) := HB5.out.trans (B6.out.mono HB5.out.size)
                             obtain ⟨x0, x1, x2, x3, -, -, -⟩ := (HP8.out.then_ BY.out).c
                             clear p6 s6 g6)
                          | (go_at_call 13
                             have HF6 := Lib.hid (HFA.out.grab BY.out)
                             have HTk := Lib.hid (nf_take HF6.out (by have := HPC.out; omega) j j rfl pm HPM.out m HMm.out)
                             with_reducible refine HTk.out.mono ?_; rintro e w8 ⟨A9, c9, rfl, o9, F9, S9⟩
                             have HO9 := Lib.hid o9
                             have hL : ∀ k, O1 k → k < wc.heap.size := fun k hk => HFA.out.lt hk
                             have hP6 : Grab O1 wc w6 w5.heap.size := .inr ⟨HB5.out.size, HP6.out.lt⟩
                             have HM9 : Hid (MlM w8 w5.heap.size pm.f pm.t A5 m c5) := (S9 _ hP6).trans HP6.out
                             have HF9 := Lib.hid (F9.less (O' := Grab O1 wc w6) (fun k hk => .inl hk))
                             have S01 : Hid (Same O1 wc w8) := fun k hk => (S9 k (.inl hk)).trans (BY.out.block k (hL k hk))
                             clear o9 F9 S9 hL hP6 x0 x1 x2 x3)
                          | (refine wpList_store_ml rfl (.tmp 10) (.tmp 138) rfl w5.heap.size (by rfl) HM9.out (by rfl) ?_; intro w9 p9 s9 g9
                             have HP9 := Lib.hid p9
                             have S09 : Hid (Same O1 wc w9) := fun k hk => (g9.block k (Nat.lt_of_lt_of_le (HFA.out.lt hk) (by have h1 := BY.out.size; have h2 := HF9.out.lt (k := w5.heap.size) (.inr ⟨HB5.out.size, HP6.out.lt⟩); have h3 := HB5.out.size; omega)) (fun e => by have h1 := HFA.out.lt hk; have h2 := HB5.out.size; have h3 := Option.some.inj e; omega)).trans (S01.out k hk)
                             have HF10 := Lib.hid (HF9.out.wrote g9 (.inr ⟨HB5.out.size, HP6.out.lt⟩))
                             have HO10 := Lib.hid (HO9.out.same (w' := w9) fun k hk => g9.block k (HO9.out.lt k hk).2 (fun e => by have h1 := (HO9.out.lt k hk).1; have h2 := HP6.out.lt; have h3 := Option.some.inj e; omega))
                             obtain ⟨x0, x1, x2, x3, -, -, -⟩ := (HP8.out.same S09.out HOP.out).c
                             clear p9 s9 g9))
                        try simp only [Act.put, List.setIfInBounds_toArray, List.set_cons_zero, List.set_cons_succ]
                        have HL9 := Lib.hid (HLA.out.same S09.out)
                        have hk6 := HK.out
                        have HEq := Lib.hid (eq_same w9.drew pm.f pm.t A9 B1' m c9 c1' pm.l HO10.out.cells (show RB w9.drew w9.drew.heap.size B1' pm.l from RB9 (w' := w9) HLA.out HPM.out HK.out.2.2 HL9.out HMm.out) HMm.out)
                        have HKS : Hid ((fun w' => MlM w' w5.heap.size pm.f pm.t A9 m c9 ∧ (w'.cell? ⟨g, j * 3, none⟩ = some (.int .i64 pm.f) ∧ w'.cell? ⟨g, j * 3 + 1, none⟩ = some (.int .i64 pm.t) ∧ w'.cell? ⟨g, j * 3 + 2, none⟩ = some (.slice B1' m c1')) ∧ w'.cell? ⟨P, 1, none⟩ = some (.int .i64 (j : Int))) w9.drew) := ⟨HP9.out, ⟨(World.cell?_of_block (a := ⟨g, _, none⟩) (S09.out g (HLA.out.ro g rfl))).trans hk6.1, (World.cell?_of_block (a := ⟨g, _, none⟩) (S09.out g (HLA.out.ro g rfl))).trans hk6.2.1, (World.cell?_of_block (a := ⟨g, _, none⟩) (S09.out g (HLA.out.ro g rfl))).trans hk6.2.2⟩, x1⟩
                        clear hk6
                        refine wp_region_held_drew (S := (fun w' => MlM w' w5.heap.size pm.f pm.t A9 m c9 ∧ (w'.cell? ⟨g, j * 3, none⟩ = some (.int .i64 pm.f) ∧ w'.cell? ⟨g, j * 3 + 1, none⟩ = some (.int .i64 pm.t) ∧ w'.cell? ⟨g, j * 3 + 2, none⟩ = some (.slice B1' m c1')) ∧ w'.cell? ⟨P, 1, none⟩ = some (.int .i64 (j : Int)))) (by kernel_rfl) (HKS.out) (fun hHeld => ?_)
                        refine held_take (i := 0) (v := ?_) rfl (by kernel_rfl) (by kernel_rfl) (by kernel_rfl) (fun _ _ _ h => h) (by rfl) hHeld ?_ ?_
                        rotate_left 1
                        · (intro w hSw; (try dsimp only at hSw); go_simp; try (with_reducible rfl))
                        try simp only [Act.put, List.setIfInBounds_toArray, List.set_cons_zero, List.set_cons_succ]
                        refine held_take (i := 1) (v := ?_) rfl (by kernel_rfl) (by kernel_rfl) (by kernel_rfl) (fun _ _ _ h => h) (by rfl) hHeld ?_ ?_
                        rotate_left 1
                        · (intro w hSw; (try dsimp only at hSw); go_simp; try (with_reducible rfl))
                        try simp only [Act.put, List.setIfInBounds_toArray, List.set_cons_zero, List.set_cons_succ]
                        refine held_take (i := 2) (v := ?_) rfl (by kernel_rfl) (by kernel_rfl) (by kernel_rfl) (fun _ _ _ h => h) (by rfl) hHeld ?_ ?_
                        rotate_left 1
                        · (intro w hSw; (try dsimp only at hSw); go_simp; try (with_reducible rfl))
                        try simp only [Act.put, List.setIfInBounds_toArray, List.set_cons_zero, List.set_cons_succ]
                        refine held_take (i := 3) (v := ?_) rfl (by kernel_rfl) (by kernel_rfl) (by kernel_rfl) (fun _ _ _ h => h) (by rfl) hHeld ?_ ?_
                        rotate_left 1
                        · (intro w hSw; (try dsimp only at hSw); go_simp; try (with_reducible rfl))
                        try simp only [Act.put, List.setIfInBounds_toArray, List.set_cons_zero, List.set_cons_succ]
                        refine held_take (i := 4) (v := ?_) rfl (by kernel_rfl) (by kernel_rfl) (by kernel_rfl) (fun _ _ _ h => h) (by rfl) hHeld ?_ ?_
                        rotate_left 1
                        · (intro w hSw; (try dsimp only at hSw); go_simp; try (with_reducible rfl))
                        try simp only [Act.put, List.setIfInBounds_toArray, List.set_cons_zero, List.set_cons_succ]
                        refine held_take (i := 5) (v := ?_) rfl (by kernel_rfl) (by kernel_rfl) (by kernel_rfl) (fun _ _ _ h => h) (by rfl) hHeld ?_ ?_
                        rotate_left 1
                        · (intro w hSw; (try dsimp only at hSw); go_simp; try (with_reducible rfl))
                        try simp only [Act.put, List.setIfInBounds_toArray, List.set_cons_zero, List.set_cons_succ]
                        refine held_take (i := 6) (v := mlV pm.f pm.t A9 m c9) rfl (by kernel_rfl) (by kernel_rfl) (by kernel_rfl) (fun _ _ _ h => h) (by rfl) hHeld (exec_load_ml _ rfl w5.heap.size (by rfl) (fun W hW => hW.1)) ?_
                        try simp only [Act.put, List.setIfInBounds_toArray, List.set_cons_zero, List.set_cons_succ]
                        refine held_take (i := 7) (v := ?_) rfl (by kernel_rfl) (by kernel_rfl) (by kernel_rfl) (fun _ _ _ h => h) (by rfl) hHeld ?_ ?_
                        rotate_left 1
                        · (intro w hSw; (try dsimp only at hSw); go_simp; try (with_reducible rfl))
                        try simp only [Act.put, List.setIfInBounds_toArray, List.set_cons_zero, List.set_cons_succ]
                        refine held_take (i := 8) (v := ?_) rfl (by kernel_rfl) (by kernel_rfl) (by kernel_rfl) (fun _ _ _ h => h) (by rfl) hHeld ?_ ?_
                        rotate_left 1
                        · (intro w hSw; (try dsimp only at hSw); go_simp; try (with_reducible rfl))
                        try simp only [Act.put, List.setIfInBounds_toArray, List.set_cons_zero, List.set_cons_succ]
                        refine held_take (i := 9) (v := ?_) rfl (by kernel_rfl) (by kernel_rfl) (by kernel_rfl) (fun _ _ _ h => h) (by rfl) hHeld ?_ ?_
                        rotate_left 1
                        · (intro w hSw; (try dsimp only at hSw); go_simp; try (with_reducible rfl))
                        try simp only [Act.put, List.setIfInBounds_toArray, List.set_cons_zero, List.set_cons_succ]
                        refine held_take (i := 10) (v := ?_) rfl (by kernel_rfl) (by kernel_rfl) (by kernel_rfl) (fun _ _ _ h => h) (by rfl) hHeld ?_ ?_
                        rotate_left 1
                        · (intro w hSw; (try dsimp only at hSw); go_simp; try (with_reducible rfl))
                        try simp only [Act.put, List.setIfInBounds_toArray, List.set_cons_zero, List.set_cons_succ]
                        refine held_take (i := 11) (v := mlV pm.f pm.t B1' m c1') rfl (by kernel_rfl) (by kernel_rfl) (by kernel_rfl) (fun _ _ _ h => h) (by rfl) hHeld (exec_load_at _ rfl g (j * 3) (by rfl) (fun W hW => hW.2.1)) ?_
                        try simp only [Act.put, List.setIfInBounds_toArray, List.set_cons_zero, List.set_cons_succ]
                        refine held_one (i := 12) rfl (by kernel_rfl) (by rfl) (fun K hK => ?_)
                        go_simp
                        with_reducible refine HEq.out.mono ?_
                        rintro e7 w7 ⟨rfl, b7⟩
                        have HB7 := Lib.hid b7
                        clear b7
                        refine hK.out _ _ (keep29 hHeld HB7.out) (fun hHeld2 => ?_)
                        clear hK K hHeld; have hHeld := hHeld2; clear hHeld2
                        try simp only [Act.put, List.setIfInBounds_toArray, List.set_cons_zero, List.set_cons_succ]
                        refine held_take (i := 13) (v := ?_) rfl (by kernel_rfl) (by kernel_rfl) (by kernel_rfl) (fun _ _ _ h => h) (by rfl) hHeld ?_ ?_
                        rotate_left 1
                        · (intro w hSw; (try dsimp only at hSw); go_simp; try (with_reducible rfl))
                        try simp only [Act.put, List.setIfInBounds_toArray, List.set_cons_zero, List.set_cons_succ]
                        refine held_take (i := 14) (v := ?_) rfl (by kernel_rfl) (by kernel_rfl) (by kernel_rfl) (fun _ _ _ h => h) (by rfl) hHeld ?_ ?_
                        rotate_left 1
                        · (intro w hSw; (try dsimp only at hSw); go_simp; try (with_reducible rfl))
                        try simp only [Act.put, List.setIfInBounds_toArray, List.set_cons_zero, List.set_cons_succ]
                        refine held_take (i := 15) (v := ?_) rfl (by kernel_rfl) (by kernel_rfl) (by kernel_rfl) (fun _ _ _ h => h) (by rfl) hHeld ?_ ?_
                        rotate_left 1
                        · (intro w hSw; (try dsimp only at hSw); go_simp; try (with_reducible rfl))
                        try simp only [Act.put, List.setIfInBounds_toArray, List.set_cons_zero, List.set_cons_succ]
                        refine wpAnyH_done (by kernel_rfl) ?_ _
                        skip
                        have BZ : Hid (Below w9.heap.size w9 w7) := (Below.refl _ w9).drew.trans HB7.out
                        clear x0 x1 x2 x3
                        obtain ⟨x0, x1, x2, x3, -, -, -⟩ := ((HP8.out.same S09.out HOP.out).then_ BZ.out).c
                        have HF7 := Lib.hid (HF10.out.belows BZ.out)
                        have HL7 := Lib.hid ((HL9.out.more (O' := Grab O1 wc w6) (fun k hk => .inl hk)).same (HF10.out.same BZ.out))
                        go_wp2_with fail
                        try simp only [Act.put, List.setIfInBounds_toArray, List.set_cons_zero, List.set_cons_succ]
                        have HLx := Lib.hid (LW.same HL7.out (w' := w7.drew) (fun _ _ => rfl))
                        obtain ⟨D, hD, H1, H2, HL2, HSf, HLl⟩ := HLx.out.cuts j hj
                        have zj1 : (j : Int) + 1 ≤ n := by omega
                        have zj0 : (0 : Int) ≤ (j : Int) + 1 := by omega
                        have hj1 : j + 1 ≤ n := hj
                        have hjc : j ≤ cap := by omega
                        have hjc1 : j + 1 ≤ cap := by omega
                        have ww : IntKind.i64.wrap ((j : Int) + 1) = (j : Int) + 1 := by rw [IntKind.wrap_i64]; omega
                        have HLt : Hid ((ls.take j).length + (ls.drop (j + 1)).length ≤ 1000000) := by show _ ≤ _; rw [List.length_take, List.length_drop, HLA.out.len, HPN.out]; omega
                        have HX1 : Hid (w7.drew.cell? ⟨P, 1, none⟩ = some (.int .i64 (j : Int))) := x1
                        refine wp_region_held_drew (S := (fun w' => w'.cell? ⟨P, 1, none⟩ = some (.int .i64 (j : Int)))) (by kernel_rfl) (HX1.out) (fun hHeld => ?_)
                        refine held_take (i := 0) (v := ?_) rfl (by kernel_rfl) (by kernel_rfl) (by kernel_rfl) (fun _ _ _ h => h) (by rfl) hHeld ?_ ?_
                        rotate_left 1
                        · (intro w hSw; (try dsimp only at hSw); go_simp; try (with_reducible rfl))
                        try simp only [Act.put, List.setIfInBounds_toArray, List.set_cons_zero, List.set_cons_succ]
                        refine held_take (i := 1) (v := ?_) rfl (by kernel_rfl) (by kernel_rfl) (by kernel_rfl) (fun _ _ _ h => h) (by rfl) hHeld ?_ ?_
                        rotate_left 1
                        · (intro w hSw; (try dsimp only at hSw); go_simp; try (with_reducible rfl))
                        try simp only [Act.put, List.setIfInBounds_toArray, List.set_cons_zero, List.set_cons_succ]
                        refine held_take (i := 2) (v := ?_) rfl (by kernel_rfl) (by kernel_rfl) (by kernel_rfl) (fun _ _ _ h => h) (by rfl) hHeld ?_ ?_
                        rotate_left 1
                        · (intro w hSw; (try dsimp only at hSw); go_simp; try (with_reducible rfl))
                        try simp only [Act.put, List.setIfInBounds_toArray, List.set_cons_zero, List.set_cons_succ]
                        refine held_take (i := 3) (v := ?_) rfl (by kernel_rfl) (by kernel_rfl) (by kernel_rfl) (fun _ _ _ h => h) (by rfl) hHeld ?_ ?_
                        rotate_left 1
                        · (intro w hSw; (try dsimp only at hSw); go_simp; try (with_reducible rfl))
                        try simp only [Act.put, List.setIfInBounds_toArray, List.set_cons_zero, List.set_cons_succ]
                        refine held_take (i := 4) (v := ?_) rfl (by kernel_rfl) (by kernel_rfl) (by kernel_rfl) (fun _ _ _ h => h) (by rfl) hHeld ?_ ?_
                        rotate_left 1
                        · (intro w hSw; (try dsimp only at hSw); go_simp; try (with_reducible rfl))
                        try simp only [Act.put, List.setIfInBounds_toArray, List.set_cons_zero, List.set_cons_succ]
                        refine held_take (i := 5) (v := ?_) rfl (by kernel_rfl) (by kernel_rfl) (by kernel_rfl) (fun _ _ _ h => h) (by rfl) hHeld ?_ ?_
                        rotate_left 1
                        · (intro w hSw; (try dsimp only at hSw); go_simp; try (with_reducible rfl))
                        try simp only [Act.put, List.setIfInBounds_toArray, List.set_cons_zero, List.set_cons_succ]
                        refine held_take (i := 6) (v := ?_) rfl (by kernel_rfl) (by kernel_rfl) (by kernel_rfl) (fun _ _ _ h => h) (by rfl) hHeld ?_ ?_
                        rotate_left 1
                        · (intro w hSw; (try dsimp only at hSw); go_simp; try (with_reducible rfl))
                        try simp only [Act.put, List.setIfInBounds_toArray, List.set_cons_zero, List.set_cons_succ]
                        refine held_take (i := 7) (v := ?_) rfl (by kernel_rfl) (by kernel_rfl) (by kernel_rfl) (fun _ _ _ h => h) (by rfl) hHeld ?_ ?_
                        rotate_left 1
                        · (intro w hSw; (try dsimp only at hSw); go_simp; try (with_reducible rfl))
                        try simp only [Act.put, List.setIfInBounds_toArray, List.set_cons_zero, List.set_cons_succ]
                        refine held_take (i := 8) (v := ?_) rfl (by kernel_rfl) (by kernel_rfl) (by kernel_rfl) (fun _ _ _ h => h) (by rfl) hHeld ?_ ?_
                        rotate_left 1
                        · (intro w hSw; (try dsimp only at hSw); go_simp; try (with_reducible rfl))
                        try simp only [Act.put, List.setIfInBounds_toArray, List.set_cons_zero, List.set_cons_succ]
                        refine held_take (i := 9) (v := ?_) rfl (by kernel_rfl) (by kernel_rfl) (by kernel_rfl) (fun _ _ _ h => h) (by rfl) hHeld ?_ ?_
                        rotate_left 1
                        · (intro w hSw; (try dsimp only at hSw); go_simp; try (with_reducible rfl))
                        try simp only [Act.put, List.setIfInBounds_toArray, List.set_cons_zero, List.set_cons_succ]
                        refine held_take (i := 10) (v := ?_) rfl (by kernel_rfl) (by kernel_rfl) (by kernel_rfl) (fun _ _ _ h => h) (by rfl) hHeld ?_ ?_
                        rotate_left 1
                        · (intro w hSw; (try dsimp only at hSw); go_simp; try (with_reducible rfl))
                        try simp only [Act.put, List.setIfInBounds_toArray, List.set_cons_zero, List.set_cons_succ]
                        refine held_one (i := 11) rfl (by kernel_rfl) (by rfl) (fun K hK => ?_)
                        refine wp_append_wr (.tmp 167) (.tmp 172) (by rfl) (.slice (some ⟨g, 0, none⟩) j j) (ls.take j) (ls.drop (j + 1)) (by rfl) H1.out (some D) (n - (j + 1)) (cap - (j + 1)) (by rfl) HL2.out H2.out HSf.out HLt.out ?_
                        intro v4 w4 r4 g4 h4
                        obtain ⟨A4, c4, rfl, -, -⟩ := r4.form (n - 1) HLl.out
                        have HF4 := Lib.hid (NF.grew (O' := Grab (Grab O1 wc w6) w7.drew w4) (NF.drew HF7.out) g4 (fun k hk => HLx.out.ro k hk) (fun k hk => hk))
                        have HL4 := Lib.hid (HLx.out.erased j g4 r4 h4)
                        have HX4 : Hid (w4.cell? ⟨P, 1, none⟩ = some (.int .i64 (j : Int))) := g4.cell HX1.out (fun e => HPG.out (Option.some.inj e))
                        clear r4 g4 h4
                        refine hK.out _ _ (HX4.out) (fun hHeld2 => ?_)
                        clear hK K hHeld; have hHeld := hHeld2; clear hHeld2
                        try simp only [Act.put, List.setIfInBounds_toArray, List.set_cons_zero, List.set_cons_succ]
                        refine held_take (i := 12) (v := ?_) rfl (by kernel_rfl) (by kernel_rfl) (by kernel_rfl) (fun _ _ _ h => h) (by rfl) hHeld ?_ ?_
                        rotate_left 1
                        · (intro w hSw; (try dsimp only at hSw); go_simp; try (with_reducible rfl))
                        try simp only [Act.put, List.setIfInBounds_toArray, List.set_cons_zero, List.set_cons_succ]
                        refine wpAnyH_done (by kernel_rfl) ?_ _
                        skip
                        go_wp2
                        go_meet
                        exact ⟨ps.eraseIdx j, _, A4, n - 1, c4, ls.eraseIdx j, rfl, Lib.hid (by have h1 := erase_len (ps := ps) j; have := HPC.out; omega), HF4, HL4⟩
                  · have f1 : (k == 1) = false := by simpa using e1
                    by_cases e2 : k = 2
                    · subst e2
                      clear f0 e0 f1 e1
                      cases inb
                      · as_aux_lemma =>
                          have hni : ¬ (0 ≤ i ∧ i < (ps.length : Int)) := by rw [HPN.out]; exact of_decide_eq_false HIN.out
                          have HLk := Lib.hid (nf_lookno HFA.out i hni)
                          go_wp2_with fail
                          (with_reducible refine HLk.out.mono ?_)
                          rintro e w5 ⟨rfl, b5⟩
                          have B6 : Hid (Below w5.heap.size w5 (w5.alloc (mlO 0 0 none 0 0))) := (Below.refl _ _).alloc (Nat.le_refl _) _
                          have BY : Hid (Below wc.heap.size wc (w5.alloc (mlO 0 0 none 0 0))) := b5.trans (B6.out.mono b5.size)
                          have HB5 := Lib.hid b5
                          obtain ⟨x0, x1, x2, x3, -, -, -⟩ := (HP8.out.then_ BY.out).c
                          have HP6 := Lib.hid (MlM.new w5 0 0 none 0 0)
                          clear b5 HLk
                          go_wp2_with fail
                          try simp only [Act.put, List.setIfInBounds_toArray, List.set_cons_zero, List.set_cons_succ]
                          refine wp_region_held_drew (S := (fun _ => True)) (by kernel_rfl) (trivial) (fun hHeld => ?_)
                          refine held_take (i := 0) (v := ?_) rfl (by kernel_rfl) (by kernel_rfl) (by kernel_rfl) (fun _ _ _ h => h) (by rfl) hHeld ?_ ?_
                          rotate_left 1
                          · (intro w hSw; (try dsimp only at hSw); go_simp; try (with_reducible rfl))
                          try simp only [Act.put, List.setIfInBounds_toArray, List.set_cons_zero, List.set_cons_succ]
                          refine held_take (i := 1) (v := ?_) rfl (by kernel_rfl) (by kernel_rfl) (by kernel_rfl) (fun _ _ _ h => h) (by rfl) hHeld ?_ ?_
                          rotate_left 1
                          · (intro w hSw; (try dsimp only at hSw); go_simp; try (with_reducible rfl))
                          try simp only [Act.put, List.setIfInBounds_toArray, List.set_cons_zero, List.set_cons_succ]
                          refine held_take (i := 2) (v := ?_) rfl (by kernel_rfl) (by kernel_rfl) (by kernel_rfl) (fun _ _ _ h => h) (by rfl) hHeld ?_ ?_
                          rotate_left 1
                          · (intro w hSw; (try dsimp only at hSw); go_simp; try (with_reducible rfl))
                          try simp only [Act.put, List.setIfInBounds_toArray, List.set_cons_zero, List.set_cons_succ]
                          refine held_take (i := 3) (v := ?_) rfl (by kernel_rfl) (by kernel_rfl) (by kernel_rfl) (fun _ _ _ h => h) (by rfl) hHeld ?_ ?_
                          rotate_left 1
                          · (intro w hSw; (try dsimp only at hSw); go_simp; try (with_reducible rfl))
                          try simp only [Act.put, List.setIfInBounds_toArray, List.set_cons_zero, List.set_cons_succ]
                          refine held_take (i := 4) (v := ?_) rfl (by kernel_rfl) (by kernel_rfl) (by kernel_rfl) (fun _ _ _ h => h) (by rfl) hHeld ?_ ?_
                          rotate_left 1
                          · (intro w hSw; (try dsimp only at hSw); go_simp; try (with_reducible rfl))
                          try simp only [Act.put, List.setIfInBounds_toArray, List.set_cons_zero, List.set_cons_succ]
                          refine held_take (i := 5) (v := ?_) rfl (by kernel_rfl) (by kernel_rfl) (by kernel_rfl) (fun _ _ _ h => h) (by rfl) hHeld ?_ ?_
                          rotate_left 1
                          · (intro w hSw; (try dsimp only at hSw); go_simp; try (with_reducible rfl))
                          try simp only [Act.put, List.setIfInBounds_toArray, List.set_cons_zero, List.set_cons_succ]
                          refine held_off (i := 6) rfl (by kernel_rfl) (by kernel_rfl) (by kernel_rfl) (fun _ _ _ h => h) (by rfl) hHeld ?_
                          try simp only [Act.put, List.setIfInBounds_toArray, List.set_cons_zero, List.set_cons_succ]
                          refine held_off (i := 7) rfl (by kernel_rfl) (by kernel_rfl) (by kernel_rfl) (fun _ _ _ h => h) (by rfl) hHeld ?_
                          try simp only [Act.put, List.setIfInBounds_toArray, List.set_cons_zero, List.set_cons_succ]
                          refine held_off (i := 8) rfl (by kernel_rfl) (by kernel_rfl) (by kernel_rfl) (fun _ _ _ h => h) (by rfl) hHeld ?_
                          try simp only [Act.put, List.setIfInBounds_toArray, List.set_cons_zero, List.set_cons_succ]
                          refine held_off (i := 9) rfl (by kernel_rfl) (by kernel_rfl) (by kernel_rfl) (fun _ _ _ h => h) (by rfl) hHeld ?_
                          try simp only [Act.put, List.setIfInBounds_toArray, List.set_cons_zero, List.set_cons_succ]
                          refine held_off (i := 10) rfl (by kernel_rfl) (by kernel_rfl) (by kernel_rfl) (fun _ _ _ h => h) (by rfl) hHeld ?_
                          try simp only [Act.put, List.setIfInBounds_toArray, List.set_cons_zero, List.set_cons_succ]
                          refine held_off (i := 11) rfl (by kernel_rfl) (by kernel_rfl) (by kernel_rfl) (fun _ _ _ h => h) (by rfl) hHeld ?_
                          try simp only [Act.put, List.setIfInBounds_toArray, List.set_cons_zero, List.set_cons_succ]
                          refine held_off (i := 12) rfl (by kernel_rfl) (by kernel_rfl) (by kernel_rfl) (fun _ _ _ h => h) (by rfl) hHeld ?_
                          try simp only [Act.put, List.setIfInBounds_toArray, List.set_cons_zero, List.set_cons_succ]
                          refine held_off (i := 13) rfl (by kernel_rfl) (by kernel_rfl) (by kernel_rfl) (fun _ _ _ h => h) (by rfl) hHeld ?_
                          try simp only [Act.put, List.setIfInBounds_toArray, List.set_cons_zero, List.set_cons_succ]
                          refine held_take (i := 14) (v := ?_) rfl (by kernel_rfl) (by kernel_rfl) (by kernel_rfl) (fun _ _ _ h => h) (by rfl) hHeld ?_ ?_
                          rotate_left 1
                          · (intro w hSw; (try dsimp only at hSw); go_simp; try (with_reducible rfl))
                          try simp only [Act.put, List.setIfInBounds_toArray, List.set_cons_zero, List.set_cons_succ]
                          refine held_take (i := 15) (v := ?_) rfl (by kernel_rfl) (by kernel_rfl) (by kernel_rfl) (fun _ _ _ h => h) (by rfl) hHeld ?_ ?_
                          rotate_left 1
                          · (intro w hSw; (try dsimp only at hSw); go_simp; try (with_reducible rfl))
                          try simp only [Act.put, List.setIfInBounds_toArray, List.set_cons_zero, List.set_cons_succ]
                          refine wpAnyH_done (by kernel_rfl) ?_ _
                          skip
                          go_wp2
                          go_meet
                          exact ⟨ps, Grab O1 wc (w5.alloc (mlO 0 0 none 0 0)).drew, A, n, cap, ls, rfl, Lib.hid (by have := HPC.out; omega), Lib.hid (HFA.out.grab (BY.out.drew)), Lib.hid (HLA.out.grab HFA.out (BY.out.drew))⟩
                      · as_aux_lemma =>
                          have hin : 0 ≤ i ∧ i < (n : Int) := of_decide_eq_true HIN.out
                          obtain ⟨j, rfl⟩ : ∃ j : Nat, i = j := ⟨i.toNat, by omega⟩
                          have hj : j < n := by omega
                          have zj : (j : Int) < n := by omega
                          obtain ⟨pm, hpm⟩ : ∃ pm, ps[j]? = some pm := ⟨_, List.getElem?_eq_getElem (by rw [HPN.out]; exact hj)⟩
                          obtain ⟨m, hm⟩ : ∃ m, pm.l.length = m := ⟨_, rfl⟩
                          obtain ⟨g, B1', c1', hjl, rfl, -, k0, k1, k2, hmc, hcm9, rB⟩ := HLA.out.at rfl j pm hpm m hm
                          have HK := Lib.hid (And.intro k0 (And.intro k1 k2))
                          have HPM := Lib.hid hpm; have HMm := Lib.hid hm; have HRB := Lib.hid rB
                          have HPG : Hid (P ≠ g) := fun e => by have := HRL.out g rfl; omega
                          have hn60 : n ≤ 60 := by have := HPN.out; have := HPC.out; omega
                          clear hin hpm hm k0 k1 k2 hjl hcm9 rB
                          have HLk := Lib.hid (nf_look HFA.out (by have := HPC.out; omega) j j rfl pm HPM.out m HMm.out)
                          go_wp2_with (first
                            | (go_at_call 12; with_reducible refine HLk.out.mono ?_; rintro e w5 ⟨A5, c5, rfl, o5, b5⟩; have HO5 := Lib.hid o5; have HB5 := Lib.hid b5; clear o5 b5)
                            | (refine wpList_store_ml rfl (.tmp 10) (.tmp 128) rfl w5.heap.size (by rfl) (MlM.new w5 0 0 none 0 0) (by rfl) ?_; intro w6 p6 s6 g6
                               have HP6 := Lib.hid p6
                               have B6 : Hid (Below w5.heap.size w5 w6) := below_own ((Below.refl _ _).alloc (Nat.le_refl _) _) g6 (Nat.le_refl _)
                               have BY : Hid (Below wc.heap.size wc w6) := HB5.out.trans (B6.out.mono HB5.out.size)
                               obtain ⟨x0, x1, x2, x3, -, -, -⟩ := (HP8.out.then_ BY.out).c
                               clear p6 s6 g6))
                          try simp only [Act.put, List.setIfInBounds_toArray, List.set_cons_zero, List.set_cons_succ]
                          have HL6 := Lib.hid (HLA.out.same (HFA.out.same BY.out))
                          obtain ⟨gg, B2', c2', -, hgg, -, k0, k1, k2, -, -, rB⟩ := HL6.out.at rfl j pm HPM.out m HMm.out
                          have hk6 := HK.out
                          have HEq := Lib.hid (eq_same w6.drew pm.f pm.t A5 B1' m c5 c1' pm.l (RB.more (HO5.out.cells.below (w' := w6.drew) B6.out.drew) B6.out.size) (RB.more (HRB.out.below (w' := w6.drew) BY.out.drew) BY.out.size) HMm.out)
                          have HKS : Hid ((fun w' => MlM w' w5.heap.size pm.f pm.t A5 m c5 ∧ (w'.cell? ⟨g, j * 3, none⟩ = some (.int .i64 pm.f) ∧ w'.cell? ⟨g, j * 3 + 1, none⟩ = some (.int .i64 pm.t) ∧ w'.cell? ⟨g, j * 3 + 2, none⟩ = some (.slice B1' m c1')) ∧ w'.cell? ⟨P, 1, none⟩ = some (.int .i64 (j : Int))) w6.drew) := ⟨HP6.out, ⟨(BY.out.cell (p := ⟨g, _, none⟩) (cell_lt hk6.1)).trans hk6.1, (BY.out.cell (p := ⟨g, _, none⟩) (cell_lt hk6.1)).trans hk6.2.1, (BY.out.cell (p := ⟨g, _, none⟩) (cell_lt hk6.1)).trans hk6.2.2⟩, x1⟩
                          clear k0 k1 k2 rB hgg hk6
                          refine wp_region_held_drew (S := (fun w' => MlM w' w5.heap.size pm.f pm.t A5 m c5 ∧ (w'.cell? ⟨g, j * 3, none⟩ = some (.int .i64 pm.f) ∧ w'.cell? ⟨g, j * 3 + 1, none⟩ = some (.int .i64 pm.t) ∧ w'.cell? ⟨g, j * 3 + 2, none⟩ = some (.slice B1' m c1')) ∧ w'.cell? ⟨P, 1, none⟩ = some (.int .i64 (j : Int)))) (by kernel_rfl) (HKS.out) (fun hHeld => ?_)
                          refine held_take (i := 0) (v := ?_) rfl (by kernel_rfl) (by kernel_rfl) (by kernel_rfl) (fun _ _ _ h => h) (by rfl) hHeld ?_ ?_
                          rotate_left 1
                          · (intro w hSw; (try dsimp only at hSw); go_simp; try (with_reducible rfl))
                          try simp only [Act.put, List.setIfInBounds_toArray, List.set_cons_zero, List.set_cons_succ]
                          refine held_take (i := 1) (v := ?_) rfl (by kernel_rfl) (by kernel_rfl) (by kernel_rfl) (fun _ _ _ h => h) (by rfl) hHeld ?_ ?_
                          rotate_left 1
                          · (intro w hSw; (try dsimp only at hSw); go_simp; try (with_reducible rfl))
                          try simp only [Act.put, List.setIfInBounds_toArray, List.set_cons_zero, List.set_cons_succ]
                          refine held_take (i := 2) (v := ?_) rfl (by kernel_rfl) (by kernel_rfl) (by kernel_rfl) (fun _ _ _ h => h) (by rfl) hHeld ?_ ?_
                          rotate_left 1
                          · (intro w hSw; (try dsimp only at hSw); go_simp; try (with_reducible rfl))
                          try simp only [Act.put, List.setIfInBounds_toArray, List.set_cons_zero, List.set_cons_succ]
                          refine held_take (i := 3) (v := ?_) rfl (by kernel_rfl) (by kernel_rfl) (by kernel_rfl) (fun _ _ _ h => h) (by rfl) hHeld ?_ ?_
                          rotate_left 1
                          · (intro w hSw; (try dsimp only at hSw); go_simp; try (with_reducible rfl))
                          try simp only [Act.put, List.setIfInBounds_toArray, List.set_cons_zero, List.set_cons_succ]
                          refine held_take (i := 4) (v := ?_) rfl (by kernel_rfl) (by kernel_rfl) (by kernel_rfl) (fun _ _ _ h => h) (by rfl) hHeld ?_ ?_
                          rotate_left 1
                          · (intro w hSw; (try dsimp only at hSw); go_simp; try (with_reducible rfl))
                          try simp only [Act.put, List.setIfInBounds_toArray, List.set_cons_zero, List.set_cons_succ]
                          refine held_take (i := 5) (v := ?_) rfl (by kernel_rfl) (by kernel_rfl) (by kernel_rfl) (fun _ _ _ h => h) (by rfl) hHeld ?_ ?_
                          rotate_left 1
                          · (intro w hSw; (try dsimp only at hSw); go_simp; try (with_reducible rfl))
                          try simp only [Act.put, List.setIfInBounds_toArray, List.set_cons_zero, List.set_cons_succ]
                          refine held_take (i := 6) (v := mlV pm.f pm.t A5 m c5) rfl (by kernel_rfl) (by kernel_rfl) (by kernel_rfl) (fun _ _ _ h => h) (by rfl) hHeld (exec_load_ml _ rfl w5.heap.size (by rfl) (fun W hW => hW.1)) ?_
                          try simp only [Act.put, List.setIfInBounds_toArray, List.set_cons_zero, List.set_cons_succ]
                          refine held_take (i := 7) (v := ?_) rfl (by kernel_rfl) (by kernel_rfl) (by kernel_rfl) (fun _ _ _ h => h) (by rfl) hHeld ?_ ?_
                          rotate_left 1
                          · (intro w hSw; (try dsimp only at hSw); go_simp; try (with_reducible rfl))
                          try simp only [Act.put, List.setIfInBounds_toArray, List.set_cons_zero, List.set_cons_succ]
                          refine held_take (i := 8) (v := ?_) rfl (by kernel_rfl) (by kernel_rfl) (by kernel_rfl) (fun _ _ _ h => h) (by rfl) hHeld ?_ ?_
                          rotate_left 1
                          · (intro w hSw; (try dsimp only at hSw); go_simp; try (with_reducible rfl))
                          try simp only [Act.put, List.setIfInBounds_toArray, List.set_cons_zero, List.set_cons_succ]
                          refine held_take (i := 9) (v := ?_) rfl (by kernel_rfl) (by kernel_rfl) (by kernel_rfl) (fun _ _ _ h => h) (by rfl) hHeld ?_ ?_
                          rotate_left 1
                          · (intro w hSw; (try dsimp only at hSw); go_simp; try (with_reducible rfl))
                          try simp only [Act.put, List.setIfInBounds_toArray, List.set_cons_zero, List.set_cons_succ]
                          refine held_take (i := 10) (v := ?_) rfl (by kernel_rfl) (by kernel_rfl) (by kernel_rfl) (fun _ _ _ h => h) (by rfl) hHeld ?_ ?_
                          rotate_left 1
                          · (intro w hSw; (try dsimp only at hSw); go_simp; try (with_reducible rfl))
                          try simp only [Act.put, List.setIfInBounds_toArray, List.set_cons_zero, List.set_cons_succ]
                          refine held_take (i := 11) (v := mlV pm.f pm.t B1' m c1') rfl (by kernel_rfl) (by kernel_rfl) (by kernel_rfl) (fun _ _ _ h => h) (by rfl) hHeld (exec_load_at _ rfl g (j * 3) (by rfl) (fun W hW => hW.2.1)) ?_
                          try simp only [Act.put, List.setIfInBounds_toArray, List.set_cons_zero, List.set_cons_succ]
                          refine held_one (i := 12) rfl (by kernel_rfl) (by rfl) (fun K hK => ?_)
                          go_simp
                          with_reducible refine HEq.out.mono ?_
                          rintro e7 w7 ⟨rfl, b7⟩
                          have HB7 := Lib.hid b7
                          clear b7
                          refine hK.out _ _ (keep29 hHeld HB7.out) (fun hHeld2 => ?_)
                          clear hK K hHeld; have hHeld := hHeld2; clear hHeld2
                          try simp only [Act.put, List.setIfInBounds_toArray, List.set_cons_zero, List.set_cons_succ]
                          refine held_take (i := 13) (v := ?_) rfl (by kernel_rfl) (by kernel_rfl) (by kernel_rfl) (fun _ _ _ h => h) (by rfl) hHeld ?_ ?_
                          rotate_left 1
                          · (intro w hSw; (try dsimp only at hSw); go_simp; try (with_reducible rfl))
                          try simp only [Act.put, List.setIfInBounds_toArray, List.set_cons_zero, List.set_cons_succ]
                          refine held_take (i := 14) (v := ?_) rfl (by kernel_rfl) (by kernel_rfl) (by kernel_rfl) (fun _ _ _ h => h) (by rfl) hHeld ?_ ?_
                          rotate_left 1
                          · (intro w hSw; (try dsimp only at hSw); go_simp; try (with_reducible rfl))
                          try simp only [Act.put, List.setIfInBounds_toArray, List.set_cons_zero, List.set_cons_succ]
                          refine held_take (i := 15) (v := ?_) rfl (by kernel_rfl) (by kernel_rfl) (by kernel_rfl) (fun _ _ _ h => h) (by rfl) hHeld ?_ ?_
                          rotate_left 1
                          · (intro w hSw; (try dsimp only at hSw); go_simp; try (with_reducible rfl))
                          try simp only [Act.put, List.setIfInBounds_toArray, List.set_cons_zero, List.set_cons_succ]
                          refine wpAnyH_done (by kernel_rfl) ?_ _
                          skip
                          have BZ : Hid (Below wc.heap.size wc w7) := BY.out.drew.trans (HB7.out.mono BY.out.size)
                          clear x0 x1 x2 x3
                          obtain ⟨x0, x1, x2, x3, -, -, -⟩ := (HP8.out.then_ BZ.out).c
                          go_wp2
                          go_meet
                          exact ⟨ps, Grab O1 wc w7, some ⟨g, 0, none⟩, n, cap, ls, rfl, Lib.hid (by have := HPC.out; omega), Lib.hid (HFA.out.grab (BZ.out)), Lib.hid (HLA.out.grab HFA.out (BZ.out))⟩
                    · have f2 : (k == 2) = false := by simpa using e2
                      by_cases e3 : k = 3
                      · subst e3
                        clear f0 e0 f1 e1 f2 e2
                        cases inb
                        · as_aux_lemma =>
                            have hni : ¬ (0 ≤ i ∧ i < (ps.length : Int)) := by rw [HPN.out]; exact of_decide_eq_false HIN.out
                            have HDp := Lib.hid (nf_dropno HFA.out i hni)
                            go_wp2_with (go_at_call 15; with_reducible refine HDp.out.mono ?_; rintro e w5 ⟨rfl, rfl⟩)
                            go_meet
                            exact ⟨ps, O1, A, n, cap, ls, rfl, Lib.hid (by have := HPC.out; omega), HFA, HLA⟩
                        · as_aux_lemma =>
                            have hin : 0 ≤ i ∧ i < (n : Int) := of_decide_eq_true HIN.out
                            obtain ⟨j, rfl⟩ : ∃ j : Nat, i = j := ⟨i.toNat, by omega⟩
                            have hj : j < n := by omega
                            have zj : (j : Int) < n := by omega
                            obtain ⟨pm, hpm⟩ : ∃ pm, ps[j]? = some pm := ⟨_, List.getElem?_eq_getElem (by rw [HPN.out]; exact hj)⟩
                            obtain ⟨m, hm⟩ : ∃ m, pm.l.length = m := ⟨_, rfl⟩
                            obtain ⟨g, B1', c1', hjl, rfl, -, k0, k1, k2, hmc, hcm9, rB⟩ := HLA.out.at rfl j pm hpm m hm
                            have HK := Lib.hid (And.intro k0 (And.intro k1 k2))
                            have HPM := Lib.hid hpm; have HMm := Lib.hid hm; have HRB := Lib.hid rB
                            have HPG : Hid (P ≠ g) := fun e => by have := HRL.out g rfl; omega
                            have hn60 : n ≤ 60 := by have := HPN.out; have := HPC.out; omega
                            clear hin hpm hm k0 k1 k2 hjl hcm9 rB
                            have HDp := Lib.hid (nf_drop HFA.out (by have := HPC.out; omega) j j rfl (by rw [HPN.out]; exact hj))
                            go_wp2_with (go_at_call 15; with_reducible refine HDp.out.mono ?_; rintro e w5 ⟨rfl, F5, S5⟩
                                         have HF7 := Lib.hid F5
                                         have HL7 := Lib.hid (HLA.out.same S5)
                                         obtain ⟨x0, x1, x2, x3, -, -, -⟩ := (HP8.out.same S5 HOP.out).c
                                         clear F5 S5 q0 q1 q2 q3)
                            try simp only [Act.put, List.setIfInBounds_toArray, List.set_cons_zero, List.set_cons_succ]
                            have HLx := Lib.hid (LW.same HL7.out (w' := w5.drew) (fun _ _ => rfl))
                            obtain ⟨D, hD, H1, H2, HL2, HSf, HLl⟩ := HLx.out.cuts j hj
                            have zj1 : (j : Int) + 1 ≤ n := by omega
                            have zj0 : (0 : Int) ≤ (j : Int) + 1 := by omega
                            have hj1 : j + 1 ≤ n := hj
                            have hjc : j ≤ cap := by omega
                            have hjc1 : j + 1 ≤ cap := by omega
                            have ww : IntKind.i64.wrap ((j : Int) + 1) = (j : Int) + 1 := by rw [IntKind.wrap_i64]; omega
                            have HLt : Hid ((ls.take j).length + (ls.drop (j + 1)).length ≤ 1000000) := by show _ ≤ _; rw [List.length_take, List.length_drop, HLA.out.len, HPN.out]; omega
                            have HX1 : Hid (w5.drew.cell? ⟨P, 1, none⟩ = some (.int .i64 (j : Int))) := x1
                            refine wp_region_held_drew (S := (fun w' => w'.cell? ⟨P, 1, none⟩ = some (.int .i64 (j : Int)))) (by kernel_rfl) (HX1.out) (fun hHeld => ?_)
                            refine held_take (i := 0) (v := ?_) rfl (by kernel_rfl) (by kernel_rfl) (by kernel_rfl) (fun _ _ _ h => h) (by rfl) hHeld ?_ ?_
                            rotate_left 1
                            · (intro w hSw; (try dsimp only at hSw); go_simp; try (with_reducible rfl))
                            try simp only [Act.put, List.setIfInBounds_toArray, List.set_cons_zero, List.set_cons_succ]
                            refine held_take (i := 1) (v := ?_) rfl (by kernel_rfl) (by kernel_rfl) (by kernel_rfl) (fun _ _ _ h => h) (by rfl) hHeld ?_ ?_
                            rotate_left 1
                            · (intro w hSw; (try dsimp only at hSw); go_simp; try (with_reducible rfl))
                            try simp only [Act.put, List.setIfInBounds_toArray, List.set_cons_zero, List.set_cons_succ]
                            refine held_take (i := 2) (v := ?_) rfl (by kernel_rfl) (by kernel_rfl) (by kernel_rfl) (fun _ _ _ h => h) (by rfl) hHeld ?_ ?_
                            rotate_left 1
                            · (intro w hSw; (try dsimp only at hSw); go_simp; try (with_reducible rfl))
                            try simp only [Act.put, List.setIfInBounds_toArray, List.set_cons_zero, List.set_cons_succ]
                            refine held_take (i := 3) (v := ?_) rfl (by kernel_rfl) (by kernel_rfl) (by kernel_rfl) (fun _ _ _ h => h) (by rfl) hHeld ?_ ?_
                            rotate_left 1
                            · (intro w hSw; (try dsimp only at hSw); go_simp; try (with_reducible rfl))
                            try simp only [Act.put, List.setIfInBounds_toArray, List.set_cons_zero, List.set_cons_succ]
                            refine held_take (i := 4) (v := ?_) rfl (by kernel_rfl) (by kernel_rfl) (by kernel_rfl) (fun _ _ _ h => h) (by rfl) hHeld ?_ ?_
                            rotate_left 1
                            · (intro w hSw; (try dsimp only at hSw); go_simp; try (with_reducible rfl))
                            try simp only [Act.put, List.setIfInBounds_toArray, List.set_cons_zero, List.set_cons_succ]
                            refine held_take (i := 5) (v := ?_) rfl (by kernel_rfl) (by kernel_rfl) (by kernel_rfl) (fun _ _ _ h => h) (by rfl) hHeld ?_ ?_
                            rotate_left 1
                            · (intro w hSw; (try dsimp only at hSw); go_simp; try (with_reducible rfl))
                            try simp only [Act.put, List.setIfInBounds_toArray, List.set_cons_zero, List.set_cons_succ]
                            refine held_take (i := 6) (v := ?_) rfl (by kernel_rfl) (by kernel_rfl) (by kernel_rfl) (fun _ _ _ h => h) (by rfl) hHeld ?_ ?_
                            rotate_left 1
                            · (intro w hSw; (try dsimp only at hSw); go_simp; try (with_reducible rfl))
                            try simp only [Act.put, List.setIfInBounds_toArray, List.set_cons_zero, List.set_cons_succ]
                            refine held_take (i := 7) (v := ?_) rfl (by kernel_rfl) (by kernel_rfl) (by kernel_rfl) (fun _ _ _ h => h) (by rfl) hHeld ?_ ?_
                            rotate_left 1
                            · (intro w hSw; (try dsimp only at hSw); go_simp; try (with_reducible rfl))
                            try simp only [Act.put, List.setIfInBounds_toArray, List.set_cons_zero, List.set_cons_succ]
                            refine held_take (i := 8) (v := ?_) rfl (by kernel_rfl) (by kernel_rfl) (by kernel_rfl) (fun _ _ _ h => h) (by rfl) hHeld ?_ ?_
                            rotate_left 1
                            · (intro w hSw; (try dsimp only at hSw); go_simp; try (with_reducible rfl))
                            try simp only [Act.put, List.setIfInBounds_toArray, List.set_cons_zero, List.set_cons_succ]
                            refine held_take (i := 9) (v := ?_) rfl (by kernel_rfl) (by kernel_rfl) (by kernel_rfl) (fun _ _ _ h => h) (by rfl) hHeld ?_ ?_
                            rotate_left 1
                            · (intro w hSw; (try dsimp only at hSw); go_simp; try (with_reducible rfl))
                            try simp only [Act.put, List.setIfInBounds_toArray, List.set_cons_zero, List.set_cons_succ]
                            refine held_take (i := 10) (v := ?_) rfl (by kernel_rfl) (by kernel_rfl) (by kernel_rfl) (fun _ _ _ h => h) (by rfl) hHeld ?_ ?_
                            rotate_left 1
                            · (intro w hSw; (try dsimp only at hSw); go_simp; try (with_reducible rfl))
                            try simp only [Act.put, List.setIfInBounds_toArray, List.set_cons_zero, List.set_cons_succ]
                            refine held_one (i := 11) rfl (by kernel_rfl) (by rfl) (fun K hK => ?_)
                            refine wp_append_wr (.tmp 188) (.tmp 193) (by rfl) (.slice (some ⟨g, 0, none⟩) j j) (ls.take j) (ls.drop (j + 1)) (by rfl) H1.out (some D) (n - (j + 1)) (cap - (j + 1)) (by rfl) HL2.out H2.out HSf.out HLt.out ?_
                            intro v4 w4 r4 g4 h4
                            obtain ⟨A4, c4, rfl, -, -⟩ := r4.form (n - 1) HLl.out
                            have HF4 := Lib.hid (NF.grew (O' := Grab O1 w5.drew w4) (NF.drew HF7.out) g4 (fun k hk => HLx.out.ro k hk) (fun k hk => hk))
                            have HL4 := Lib.hid (HLx.out.erased j g4 r4 h4)
                            have HX4 : Hid (w4.cell? ⟨P, 1, none⟩ = some (.int .i64 (j : Int))) := g4.cell HX1.out (fun e => HPG.out (Option.some.inj e))
                            clear r4 g4 h4
                            refine hK.out _ _ (HX4.out) (fun hHeld2 => ?_)
                            clear hK K hHeld; have hHeld := hHeld2; clear hHeld2
                            try simp only [Act.put, List.setIfInBounds_toArray, List.set_cons_zero, List.set_cons_succ]
                            refine held_take (i := 12) (v := ?_) rfl (by kernel_rfl) (by kernel_rfl) (by kernel_rfl) (fun _ _ _ h => h) (by rfl) hHeld ?_ ?_
                            rotate_left 1
                            · (intro w hSw; (try dsimp only at hSw); go_simp; try (with_reducible rfl))
                            try simp only [Act.put, List.setIfInBounds_toArray, List.set_cons_zero, List.set_cons_succ]
                            refine wpAnyH_done (by kernel_rfl) ?_ _
                            skip
                            go_wp2
                            go_meet
                            exact ⟨ps.eraseIdx j, _, A4, n - 1, c4, ls.eraseIdx j, rfl, Lib.hid (by have h1 := erase_len (ps := ps) j; have := HPC.out; omega), HF4, HL4⟩
                      · have f3 : (k == 3) = false := by simpa using e3
                        cases inb
                        · as_aux_lemma =>
                            have hni : ¬ (0 ≤ i ∧ i < (ps.length : Int)) := by rw [HPN.out]; exact of_decide_eq_false HIN.out
                            have HNS : Hid (¬ ∃ (j : Nat) (p' : Pm), i = j ∧ ps[j]? = some p' ∧ 0 ≤ p ∧ p < (p'.l.length : Int)) := by
                              rintro ⟨j, p', h1, h2, -⟩
                              have h3 := (List.getElem?_eq_some_iff.1 h2).1
                              exact hni ⟨by omega, by omega⟩
                            clear hni
                            have x0 : wc.drew.cell? ⟨P, 0, none⟩ = _ := q0
                            have x1 : wc.drew.cell? ⟨P, 1, none⟩ = _ := q1
                            have x2 : wc.drew.cell? ⟨P, 2, none⟩ = _ := q2
                            have x3 : wc.drew.cell? ⟨P, 3, none⟩ = _ := q3
                            go_wp2_with fail
                            try simp only [Act.put, List.setIfInBounds_toArray, List.set_cons_zero, List.set_cons_succ]
                            refine wp_region_held_drew (S := (fun _ => True)) (by kernel_rfl) (trivial) (fun hHeld => ?_)
                            refine held_take (i := 0) (v := ?_) rfl (by kernel_rfl) (by kernel_rfl) (by kernel_rfl) (fun _ _ _ h => h) (by rfl) hHeld ?_ ?_
                            rotate_left 1
                            · (intro w hSw; (try dsimp only at hSw); go_simp; try (with_reducible rfl))
                            try simp only [Act.put, List.setIfInBounds_toArray, List.set_cons_zero, List.set_cons_succ]
                            refine held_take (i := 1) (v := ?_) rfl (by kernel_rfl) (by kernel_rfl) (by kernel_rfl) (fun _ _ _ h => h) (by rfl) hHeld ?_ ?_
                            rotate_left 1
                            · (intro w hSw; (try dsimp only at hSw); go_simp; try (with_reducible rfl))
                            try simp only [Act.put, List.setIfInBounds_toArray, List.set_cons_zero, List.set_cons_succ]
                            refine held_off (i := 2) rfl (by kernel_rfl) (by kernel_rfl) (by kernel_rfl) (fun _ _ _ h => h) (by rfl) hHeld ?_
                            try simp only [Act.put, List.setIfInBounds_toArray, List.set_cons_zero, List.set_cons_succ]
                            refine held_off (i := 3) rfl (by kernel_rfl) (by kernel_rfl) (by kernel_rfl) (fun _ _ _ h => h) (by rfl) hHeld ?_
                            try simp only [Act.put, List.setIfInBounds_toArray, List.set_cons_zero, List.set_cons_succ]
                            refine held_off (i := 4) rfl (by kernel_rfl) (by kernel_rfl) (by kernel_rfl) (fun _ _ _ h => h) (by rfl) hHeld ?_
                            try simp only [Act.put, List.setIfInBounds_toArray, List.set_cons_zero, List.set_cons_succ]
                            refine held_take (i := 5) (v := ?_) rfl (by kernel_rfl) (by kernel_rfl) (by kernel_rfl) (fun _ _ _ h => h) (by rfl) hHeld ?_ ?_
                            rotate_left 1
                            · (intro w hSw; (try dsimp only at hSw); go_simp; try (with_reducible rfl))
                            try simp only [Act.put, List.setIfInBounds_toArray, List.set_cons_zero, List.set_cons_succ]
                            refine held_take (i := 6) (v := ?_) rfl (by kernel_rfl) (by kernel_rfl) (by kernel_rfl) (fun _ _ _ h => h) (by rfl) hHeld ?_ ?_
                            rotate_left 1
                            · (intro w hSw; (try dsimp only at hSw); go_simp; try (with_reducible rfl))
                            try simp only [Act.put, List.setIfInBounds_toArray, List.set_cons_zero, List.set_cons_succ]
                            refine held_off (i := 7) rfl (by kernel_rfl) (by kernel_rfl) (by kernel_rfl) (fun _ _ _ h => h) (by rfl) hHeld ?_
                            try simp only [Act.put, List.setIfInBounds_toArray, List.set_cons_zero, List.set_cons_succ]
                            refine held_off (i := 8) rfl (by kernel_rfl) (by kernel_rfl) (by kernel_rfl) (fun _ _ _ h => h) (by rfl) hHeld ?_
                            try simp only [Act.put, List.setIfInBounds_toArray, List.set_cons_zero, List.set_cons_succ]
                            refine held_off (i := 9) rfl (by kernel_rfl) (by kernel_rfl) (by kernel_rfl) (fun _ _ _ h => h) (by rfl) hHeld ?_
                            try simp only [Act.put, List.setIfInBounds_toArray, List.set_cons_zero, List.set_cons_succ]
                            refine held_off (i := 10) rfl (by kernel_rfl) (by kernel_rfl) (by kernel_rfl) (fun _ _ _ h => h) (by rfl) hHeld ?_
                            try simp only [Act.put, List.setIfInBounds_toArray, List.set_cons_zero, List.set_cons_succ]
                            refine held_off (i := 11) rfl (by kernel_rfl) (by kernel_rfl) (by kernel_rfl) (fun _ _ _ h => h) (by rfl) hHeld ?_
                            try simp only [Act.put, List.setIfInBounds_toArray, List.set_cons_zero, List.set_cons_succ]
                            refine held_off (i := 12) rfl (by kernel_rfl) (by kernel_rfl) (by kernel_rfl) (fun _ _ _ h => h) (by rfl) hHeld ?_
                            try simp only [Act.put, List.setIfInBounds_toArray, List.set_cons_zero, List.set_cons_succ]
                            refine held_off (i := 13) rfl (by kernel_rfl) (by kernel_rfl) (by kernel_rfl) (fun _ _ _ h => h) (by rfl) hHeld ?_
                            try simp only [Act.put, List.setIfInBounds_toArray, List.set_cons_zero, List.set_cons_succ]
                            refine held_off (i := 14) rfl (by kernel_rfl) (by kernel_rfl) (by kernel_rfl) (fun _ _ _ h => h) (by rfl) hHeld ?_
                            try simp only [Act.put, List.setIfInBounds_toArray, List.set_cons_zero, List.set_cons_succ]
                            refine held_off (i := 15) rfl (by kernel_rfl) (by kernel_rfl) (by kernel_rfl) (fun _ _ _ h => h) (by rfl) hHeld ?_
                            try simp only [Act.put, List.setIfInBounds_toArray, List.set_cons_zero, List.set_cons_succ]
                            refine held_off (i := 16) rfl (by kernel_rfl) (by kernel_rfl) (by kernel_rfl) (fun _ _ _ h => h) (by rfl) hHeld ?_
                            try simp only [Act.put, List.setIfInBounds_toArray, List.set_cons_zero, List.set_cons_succ]
                            refine held_take (i := 17) (v := ?_) rfl (by kernel_rfl) (by kernel_rfl) (by kernel_rfl) (fun _ _ _ h => h) (by rfl) hHeld ?_ ?_
                            rotate_left 1
                            · (intro w hSw; (try dsimp only at hSw); go_simp; try (with_reducible rfl))
                            try simp only [Act.put, List.setIfInBounds_toArray, List.set_cons_zero, List.set_cons_succ]
                            refine held_take (i := 18) (v := ?_) rfl (by kernel_rfl) (by kernel_rfl) (by kernel_rfl) (fun _ _ _ h => h) (by rfl) hHeld ?_ ?_
                            rotate_left 1
                            · (intro w hSw; (try dsimp only at hSw); go_simp; try (with_reducible rfl))
                            try simp only [Act.put, List.setIfInBounds_toArray, List.set_cons_zero, List.set_cons_succ]
                            refine wpAnyH_done (by kernel_rfl) ?_ _
                            skip
                            have HSp := Lib.hid (nf_spoilno HFA.out.drew (by have := HPC.out; omega) i p (x8.toNat : Int) HNS.out)
                            go_wp2_with (go_at_call 16; with_reducible refine HSp.out.mono ?_; rintro e w5 ⟨rfl, rfl⟩)
                            go_meet
                            exact ⟨ps, O1, A, n, cap, ls, rfl, Lib.hid (by have := HPC.out; omega), Lib.hid HFA.out.drew, Lib.hid (LW.same HLA.out (fun _ _ => rfl))⟩
                        · as_aux_lemma =>
                            have hin : 0 ≤ i ∧ i < (n : Int) := of_decide_eq_true HIN.out
                            obtain ⟨j, rfl⟩ : ∃ j : Nat, i = j := ⟨i.toNat, by omega⟩
                            have hj : j < n := by omega
                            have zj : (j : Int) < n := by omega
                            obtain ⟨pm, hpm⟩ : ∃ pm, ps[j]? = some pm := ⟨_, List.getElem?_eq_getElem (by rw [HPN.out]; exact hj)⟩
                            obtain ⟨m, hm⟩ : ∃ m, pm.l.length = m := ⟨_, rfl⟩
                            obtain ⟨g, B1', c1', hjl, rfl, -, k0, k1, k2, hmc, hcm9, rB⟩ := HLA.out.at rfl j pm hpm m hm
                            have HK := Lib.hid (And.intro k0 (And.intro k1 k2))
                            have HPM := Lib.hid hpm; have HMm := Lib.hid hm; have HRB := Lib.hid rB
                            have HPG : Hid (P ≠ g) := fun e => by have := HRL.out g rfl; omega
                            have hn60 : n ≤ 60 := by have := HPN.out; have := HPC.out; omega
                            clear hin hpm hm k0 k1 k2 hjl hcm9 rB
                            by_cases hp1 : 0 ≤ p
                            · by_cases hp2 : p < (m : Int)
                              · as_aux_lemma =>
                                  obtain ⟨z, rfl⟩ : ∃ z : Nat, p = z := ⟨p.toNat, by omega⟩
                                  have hz : z < m := by omega
                                  have zz : (z : Int) < m := by omega
                                  have x0 : wc.drew.cell? ⟨P, 0, none⟩ = _ := q0
                                  have x1 : wc.drew.cell? ⟨P, 1, none⟩ = _ := q1
                                  have x2 : wc.drew.cell? ⟨P, 2, none⟩ = _ := q2
                                  have x3 : wc.drew.cell? ⟨P, 3, none⟩ = _ := q3
                                  have HKS : Hid ((fun w' => w'.cell? ⟨P, 2, none⟩ = some (.int .i64 (z : Int)) ∧ w'.cell? ⟨P, 1, none⟩ = some (.int .i64 (j : Int)) ∧ w'.cell? ⟨g, j * 3 + 2, none⟩ = some (.slice B1' m c1')) wc.drew) := ⟨x2, x1, HK.out.2.2⟩
                                  go_wp2_with fail
                                  try simp only [Act.put, List.setIfInBounds_toArray, List.set_cons_zero, List.set_cons_succ]
                                  refine wp_region_held_drew (S := (fun w' => w'.cell? ⟨P, 2, none⟩ = some (.int .i64 (z : Int)) ∧ w'.cell? ⟨P, 1, none⟩ = some (.int .i64 (j : Int)) ∧ w'.cell? ⟨g, j * 3 + 2, none⟩ = some (.slice B1' m c1'))) (by kernel_rfl) (HKS.out) (fun hHeld => ?_)
                                  refine held_take (i := 0) (v := ?_) rfl (by kernel_rfl) (by kernel_rfl) (by kernel_rfl) (fun _ _ _ h => h) (by rfl) hHeld ?_ ?_
                                  rotate_left 1
                                  · (intro w hSw; (try dsimp only at hSw); go_simp; try (with_reducible rfl))
                                  try simp only [Act.put, List.setIfInBounds_toArray, List.set_cons_zero, List.set_cons_succ]
                                  refine held_take (i := 1) (v := ?_) rfl (by kernel_rfl) (by kernel_rfl) (by kernel_rfl) (fun _ _ _ h => h) (by rfl) hHeld ?_ ?_
                                  rotate_left 1
                                  · (intro w hSw; (try dsimp only at hSw); go_simp; try (with_reducible rfl))
                                  try simp only [Act.put, List.setIfInBounds_toArray, List.set_cons_zero, List.set_cons_succ]
                                  refine held_take (i := 2) (v := ?_) rfl (by kernel_rfl) (by kernel_rfl) (by kernel_rfl) (fun _ _ _ h => h) (by rfl) hHeld ?_ ?_
                                  rotate_left 1
                                  · (intro w hSw; (try dsimp only at hSw); go_simp; try (with_reducible rfl))
                                  try simp only [Act.put, List.setIfInBounds_toArray, List.set_cons_zero, List.set_cons_succ]
                                  refine held_take (i := 3) (v := ?_) rfl (by kernel_rfl) (by kernel_rfl) (by kernel_rfl) (fun _ _ _ h => h) (by rfl) hHeld ?_ ?_
                                  rotate_left 1
                                  · (intro w hSw; (try dsimp only at hSw); go_simp; try (with_reducible rfl))
                                  try simp only [Act.put, List.setIfInBounds_toArray, List.set_cons_zero, List.set_cons_succ]
                                  refine held_take (i := 4) (v := ?_) rfl (by kernel_rfl) (by kernel_rfl) (by kernel_rfl) (fun _ _ _ h => h) (by rfl) hHeld ?_ ?_
                                  rotate_left 1
                                  · (intro w hSw; (try dsimp only at hSw); go_simp; try (with_reducible rfl))
                                  try simp only [Act.put, List.setIfInBounds_toArray, List.set_cons_zero, List.set_cons_succ]
                                  refine held_take (i := 5) (v := ?_) rfl (by kernel_rfl) (by kernel_rfl) (by kernel_rfl) (fun _ _ _ h => h) (by rfl) hHeld ?_ ?_
                                  rotate_left 1
                                  · (intro w hSw; (try dsimp only at hSw); go_simp; try (with_reducible rfl))
                                  try simp only [Act.put, List.setIfInBounds_toArray, List.set_cons_zero, List.set_cons_succ]
                                  refine held_take (i := 6) (v := ?_) rfl (by kernel_rfl) (by kernel_rfl) (by kernel_rfl) (fun _ _ _ h => h) (by rfl) hHeld ?_ ?_
                                  rotate_left 1
                                  · (intro w hSw; (try dsimp only at hSw); go_simp; try (with_reducible rfl))
                                  try simp only [Act.put, List.setIfInBounds_toArray, List.set_cons_zero, List.set_cons_succ]
                                  refine held_take (i := 7) (v := ?_) rfl (by kernel_rfl) (by kernel_rfl) (by kernel_rfl) (fun _ _ _ h => h) (by rfl) hHeld ?_ ?_
                                  rotate_left 1
                                  · (intro w hSw; (try dsimp only at hSw); go_simp; try (with_reducible rfl))
                                  try simp only [Act.put, List.setIfInBounds_toArray, List.set_cons_zero, List.set_cons_succ]
                                  refine held_take (i := 8) (v := ?_) rfl (by kernel_rfl) (by kernel_rfl) (by kernel_rfl) (fun _ _ _ h => h) (by rfl) hHeld ?_ ?_
                                  rotate_left 1
                                  · (intro w hSw; (try dsimp only at hSw); go_simp; try (with_reducible rfl))
                                  try simp only [Act.put, List.setIfInBounds_toArray, List.set_cons_zero, List.set_cons_succ]
                                  refine held_take (i := 9) (v := ?_) rfl (by kernel_rfl) (by kernel_rfl) (by kernel_rfl) (fun _ _ _ h => h) (by rfl) hHeld ?_ ?_
                                  rotate_left 1
                                  · (intro w hSw; (try dsimp only at hSw); go_simp; try (with_reducible rfl))
                                  try simp only [Act.put, List.setIfInBounds_toArray, List.set_cons_zero, List.set_cons_succ]
                                  refine held_take (i := 10) (v := ?_) rfl (by kernel_rfl) (by kernel_rfl) (by kernel_rfl) (fun _ _ _ h => h) (by rfl) hHeld ?_ ?_
                                  rotate_left 1
                                  · (intro w hSw; (try dsimp only at hSw); go_simp; try (with_reducible rfl))
                                  try simp only [Act.put, List.setIfInBounds_toArray, List.set_cons_zero, List.set_cons_succ]
                                  refine held_take (i := 11) (v := ?_) rfl (by kernel_rfl) (by kernel_rfl) (by kernel_rfl) (fun _ _ _ h => h) (by rfl) hHeld ?_ ?_
                                  rotate_left 1
                                  · (intro w hSw; (try dsimp only at hSw); go_simp; try (with_reducible rfl))
                                  try simp only [Act.put, List.setIfInBounds_toArray, List.set_cons_zero, List.set_cons_succ]
                                  refine held_take (i := 12) (v := ?_) rfl (by kernel_rfl) (by kernel_rfl) (by kernel_rfl) (fun _ _ _ h => h) (by rfl) hHeld ?_ ?_
                                  rotate_left 1
                                  · (intro w hSw; (try dsimp only at hSw); go_simp; try (with_reducible rfl))
                                  try simp only [Act.put, List.setIfInBounds_toArray, List.set_cons_zero, List.set_cons_succ]
                                  refine held_take (i := 13) (v := ?_) rfl (by kernel_rfl) (by kernel_rfl) (by kernel_rfl) (fun _ _ _ h => h) (by rfl) hHeld ?_ ?_
                                  rotate_left 1
                                  · (intro w hSw; (try dsimp only at hSw); go_simp; try (with_reducible rfl))
                                  try simp only [Act.put, List.setIfInBounds_toArray, List.set_cons_zero, List.set_cons_succ]
                                  refine held_take (i := 14) (v := ?_) rfl (by kernel_rfl) (by kernel_rfl) (by kernel_rfl) (fun _ _ _ h => h) (by rfl) hHeld ?_ ?_
                                  rotate_left 1
                                  · (intro w hSw; (try dsimp only at hSw); go_simp; try (with_reducible rfl))
                                  try simp only [Act.put, List.setIfInBounds_toArray, List.set_cons_zero, List.set_cons_succ]
                                  refine held_take (i := 15) (v := ?_) rfl (by kernel_rfl) (by kernel_rfl) (by kernel_rfl) (fun _ _ _ h => h) (by rfl) hHeld ?_ ?_
                                  rotate_left 1
                                  · (intro w hSw; (try dsimp only at hSw); go_simp; try (with_reducible rfl))
                                  try simp only [Act.put, List.setIfInBounds_toArray, List.set_cons_zero, List.set_cons_succ]
                                  refine held_take (i := 16) (v := ?_) rfl (by kernel_rfl) (by kernel_rfl) (by kernel_rfl) (fun _ _ _ h => h) (by rfl) hHeld ?_ ?_
                                  rotate_left 1
                                  · (intro w hSw; (try dsimp only at hSw); go_simp; try (with_reducible rfl))
                                  try simp only [Act.put, List.setIfInBounds_toArray, List.set_cons_zero, List.set_cons_succ]
                                  refine held_take (i := 17) (v := ?_) rfl (by kernel_rfl) (by kernel_rfl) (by kernel_rfl) (fun _ _ _ h => h) (by rfl) hHeld ?_ ?_
                                  rotate_left 1
                                  · (intro w hSw; (try dsimp only at hSw); go_simp; try (with_reducible rfl))
                                  try simp only [Act.put, List.setIfInBounds_toArray, List.set_cons_zero, List.set_cons_succ]
                                  refine held_take (i := 18) (v := ?_) rfl (by kernel_rfl) (by kernel_rfl) (by kernel_rfl) (fun _ _ _ h => h) (by rfl) hHeld ?_ ?_
                                  rotate_left 1
                                  · (intro w hSw; (try dsimp only at hSw); go_simp; try (with_reducible rfl))
                                  try simp only [Act.put, List.setIfInBounds_toArray, List.set_cons_zero, List.set_cons_succ]
                                  refine wpAnyH_done (by kernel_rfl) ?_ _
                                  skip
                                  have HSp := Lib.hid (nf_spl HFA.out.drew (by have := HPC.out; omega) (j : Int) j rfl pm HPM.out (z : Int) z rfl (by rw [HMm.out]; exact hz) x8 (x8.toNat : Int) rfl)
                                  go_wp2_with fail
                                  (with_reducible refine HSp.out.mono ?_)
                                  rintro e w5 ⟨rfl, F5, S5⟩
                                  have HF5 := Lib.hid F5
                                  have S5' : Hid (Same O1 wc w5) := S5
                                  have HL5 := Lib.hid (HLA.out.same S5'.out)
                                  have HP5 := Lib.hid (HP8.out.same S5'.out HOP.out)
                                  have HK5 : Hid (w5.cell? ⟨g, j * 3 + 2, none⟩ = some (.slice B1' m c1')) := (World.cell?_of_block (a := ⟨g, _, none⟩) (S5'.out g (HLA.out.ro g rfl))).trans HK.out.2.2
                                  have HR5 := Lib.hid (RB9 HLA.out HPM.out HK.out.2.2 HL5.out HMm.out)
                                  have HLn5 : Hid (([] : List UInt8).length + pm.l.length ≤ 140737488355328) := by show _ ≤ _; have := nf_mlen HFA.out HPM.out; simp; omega
                                  clear x0 x1 x2 x3 F5 S5
                                  obtain ⟨x0, x1, x2, x3, -, -, -⟩ := HP5.out.c
                                  have k5 := HK5.out
                                  go_wp2_with (at_builtin; refine wpList_append_bytes rfl (.const (.slice none 0 0)) (.tmp 93) rfl w5.heap.size (.slice none 0 0) [] pm.l rfl (OB.nil _ _) w5.heap.size B1' c1' (by rw [HMm.out]; rfl) HR5.out HLn5.out (Nat.le_refl _) ?_; intro v6 w6 o6 g6 e6
                                               rw [List.nil_append] at o6
                                               have HO6 := Lib.hid o6
                                               have B6 : Hid (Below w5.heap.size w5 w6) := (Below.refl _ _).grown g6 (Nat.le_refl _) (fun k hk => by cases hk)
                                               obtain ⟨g5, c5, rfl, -, hc5, hm5⟩ := o6.some_ (by rw [HMm.out]; omega)
                                               clear o6 g6 e6)
                                  try simp only [Act.put, List.setIfInBounds_toArray, List.set_cons_zero, List.set_cons_succ]
                                  rw [HMm.out]
                                  obtain ⟨ob, hob⟩ : ∃ ob, pm.l[z]'(by rw [HMm.out]; exact hz) = ob := ⟨_, rfl⟩
                                  have HO7 : Hid (OB w6 w5.heap.size (.slice (some ⟨g5, 0, none⟩) m c5) pm.l) := by have h := HO6.out; rw [HMm.out] at h; exact h
                                  have y1 := HO7.out.cell_at HMm.out z (by rw [HMm.out]; exact hz)
                                  have y2 := HO7.out.frozen_at HMm.out z
                                  rw [hob] at y1
                                  have HKS2 : Hid ((fun w' => w'.cell? ⟨P, 2, none⟩ = some (.int .i64 (z : Int)) ∧ w'.cell? ⟨g5, z, none⟩ = some (.int .u8 (ob.toNat : Int)) ∧ w'.cell? ⟨P, 3, none⟩ = some (.int .u8 (x8.toNat : Int))) w6.drew) := ⟨(HP5.out.then_ B6.out).c.2.2.1, y1, (HP5.out.then_ B6.out).c.2.2.2.1⟩
                                  have HSE : Hid (spl pm.l z x8 = pm.l.set z (ob ^^^ x8)) := by show _ = _; rw [← spl_eq pm.l z x8 (by rw [HMm.out]; exact hz), hob]
                                  have hxor := b8_xor ob x8
                                  have f6 : w6.drew.frozen? ⟨g5, z, none⟩ = false := y2
                                  have hmc5 : m ≤ c5 := by have := hc5; rw [HMm.out] at this; exact this
                                  generalize ob ^^^ x8 = ov at *
                                  have HO8' : Hid (OB ((w6.setCell ⟨g5, z, none⟩ (.int .u8 (ov.toNat : Int))).drew) w5.heap.size (.slice (some ⟨g5, 0, none⟩) m c5) (spl pm.l z x8)) := by rw [HSE.out]; exact OB.set (w := w6.drew) HO7.out HMm.out z ov
                                  refine wp_region_J (s := 9) (S := (fun w' => w'.cell? ⟨P, 2, none⟩ = some (.int .i64 (z : Int)) ∧ w'.cell? ⟨g5, z, none⟩ = some (.int .u8 (ob.toNat : Int)) ∧ w'.cell? ⟨P, 3, none⟩ = some (.int .u8 (x8.toNat : Int)))) (by kernel_rfl) (HKS2.out) (fun hHeld => ?_)
                                  refine j_take (i := 0) (v := ?_) rfl (by kernel_rfl) (by kernel_rfl) (by kernel_rfl) (by kernel_rfl) (fun _ _ _ h => h) (by rfl) hHeld ?_ ?_
                                  rotate_left 1
                                  · (intro w hSw; (try dsimp only at hSw); go_simp; try (with_reducible rfl))
                                  try simp only [Act.put, List.setIfInBounds_toArray, List.set_cons_zero, List.set_cons_succ]
                                  refine j_take (i := 1) (v := ?_) rfl (by kernel_rfl) (by kernel_rfl) (by kernel_rfl) (by kernel_rfl) (fun _ _ _ h => h) (by rfl) hHeld ?_ ?_
                                  rotate_left 1
                                  · (intro w hSw; (try dsimp only at hSw); go_simp; try (with_reducible rfl))
                                  try simp only [Act.put, List.setIfInBounds_toArray, List.set_cons_zero, List.set_cons_succ]
                                  refine j_take (i := 2) (v := ?_) rfl (by kernel_rfl) (by kernel_rfl) (by kernel_rfl) (by kernel_rfl) (fun _ _ _ h => h) (by rfl) hHeld ?_ ?_
                                  rotate_left 1
                                  · (intro w hSw; (try dsimp only at hSw); go_simp; try (with_reducible rfl))
                                  try simp only [Act.put, List.setIfInBounds_toArray, List.set_cons_zero, List.set_cons_succ]
                                  refine j_take (i := 3) (v := ?_) rfl (by kernel_rfl) (by kernel_rfl) (by kernel_rfl) (by kernel_rfl) (fun _ _ _ h => h) (by rfl) hHeld ?_ ?_
                                  rotate_left 1
                                  · (intro w hSw; (try dsimp only at hSw); go_simp; try (with_reducible rfl))
                                  try simp only [Act.put, List.setIfInBounds_toArray, List.set_cons_zero, List.set_cons_succ]
                                  refine j_take (i := 4) (v := ?_) rfl (by kernel_rfl) (by kernel_rfl) (by kernel_rfl) (by kernel_rfl) (fun _ _ _ h => h) (by rfl) hHeld ?_ ?_
                                  rotate_left 1
                                  · (intro w hSw; (try dsimp only at hSw); go_simp; try (with_reducible rfl))
                                  try simp only [Act.put, List.setIfInBounds_toArray, List.set_cons_zero, List.set_cons_succ]
                                  refine j_take (i := 5) (v := ?_) rfl (by kernel_rfl) (by kernel_rfl) (by kernel_rfl) (by kernel_rfl) (fun _ _ _ h => h) (by rfl) hHeld ?_ ?_
                                  rotate_left 1
                                  · (intro w hSw; (try dsimp only at hSw); go_simp; try (with_reducible rfl))
                                  try simp only [Act.put, List.setIfInBounds_toArray, List.set_cons_zero, List.set_cons_succ]
                                  refine j_take (i := 6) (v := ?_) rfl (by kernel_rfl) (by kernel_rfl) (by kernel_rfl) (by kernel_rfl) (fun _ _ _ h => h) (by rfl) hHeld ?_ ?_
                                  rotate_left 1
                                  · (intro w hSw; (try dsimp only at hSw); go_simp; try (with_reducible rfl))
                                  try simp only [Act.put, List.setIfInBounds_toArray, List.set_cons_zero, List.set_cons_succ]
                                  refine j_take (i := 7) (v := ?_) rfl (by kernel_rfl) (by kernel_rfl) (by kernel_rfl) (by kernel_rfl) (fun _ _ _ h => h) (by rfl) hHeld ?_ ?_
                                  rotate_left 1
                                  · (intro w hSw; (try dsimp only at hSw); go_simp; try (with_reducible rfl))
                                  try simp only [Act.put, List.setIfInBounds_toArray, List.set_cons_zero, List.set_cons_succ]
                                  refine j_one (i := 8) rfl (by kernel_rfl) (by rfl) (fun K hK => ?_)
                                  go_simp
                                  refine hK.out _ _ (hHeld) (fun hHeld2 => ?_)
                                  clear hK K hHeld; have hHeld := hHeld2; clear hHeld2
                                  try simp only [Act.put, List.setIfInBounds_toArray, List.set_cons_zero, List.set_cons_succ]
                                  have y3 := hHeld.2.1
                                  refine j_last rfl (by kernel_rfl) (by simp) (by kernel_rfl) (by rfl) (fun K hK => ?_)
                                  go_simp
                                  refine hK.out _ _ ?_
                                  skip
                                  have B8 : Hid (Below w5.heap.size w5 ((w6.setCell ⟨g5, z, none⟩ (.int .u8 (ov.toNat : Int))).drew)) := (B6.out.setCell (HO7.out.lt g5 rfl).1 _).drew
                                  obtain ⟨w8, hw8⟩ : ∃ w8, w8 = (w6.setCell ⟨g5, z, none⟩ (.int .u8 (ov.toNat : Int))).drew := ⟨_, rfl⟩
                                  rw [← hw8] at HO8' B8 ⊢
                                  have HF8 := Lib.hid (HF5.out.grab B8.out)
                                  have HL8 := Lib.hid ((HL5.out.same (HF5.out.same B8.out)).more (O' := Grab O1 w5 w8) (fun _ hk => .inl hk))
                                  clear x0 x1 x2 x3 k5 y1 y2 f6 y3 hw8
                                  obtain ⟨x0, x1, x2, x3, -, -, -⟩ := (HP5.out.then_ B8.out).c
                                  have k8 : w8.cell? ⟨g, j * 3 + 2, none⟩ = some (.slice B1' m c1') := (B8.out.cell (p := ⟨g, _, none⟩) (cell_lt HK5.out)).trans HK5.out
                                  have f8 : w8.frozen? ⟨g, j * 3 + 2, none⟩ = false := HL8.out.row.fz _
                                  have HG5 : Hid (g5 ≠ g) := fun e => by have h1 := (HO7.out.lt g5 rfl).1; have h2 := cell_lt HK5.out; omega
                                  obtain ⟨ls', HL9⟩ := HL8.out.put j pm HPM.out (some ⟨g5, 0, none⟩) m c5 (spl pm.l z x8) (HO8'.out.less (Nat.zero_le _)) (fun k hk => by obtain rfl := Option.some.inj hk; exact ⟨.inr ⟨(HO8'.out.lt g5 rfl).1, (HO8'.out.lt g5 rfl).2⟩, HG5.out⟩)
                                  have HL10 := Lib.hid HL9
                                  have HF10 := Lib.hid (HF8.out.wrote (grown_set w8 ⟨g, j * 3 + 2, none⟩ (.slice (some ⟨g5, 0, none⟩) m c5)) (.inl (HLA.out.ro g rfl)))
                                  clear HL9
                                  go_wp2
                                  go_meet
                                  exact ⟨ps.set j ⟨pm.f, pm.t, spl pm.l z x8⟩, _, some ⟨g, 0, none⟩, n, cap, ls', rfl, Lib.hid (by rw [List.length_set]; have := HPC.out; omega), HF10, HL10⟩
                              · as_aux_lemma =>
                                  have HNS : Hid (¬ ∃ (j' : Nat) (p' : Pm), (j : Int) = j' ∧ ps[j']? = some p' ∧ 0 ≤ p ∧ p < (p'.l.length : Int)) := by
                                    rintro ⟨j', p', h1, h2, h3, h4⟩
                                    obtain rfl : j' = j := by omega
                                    obtain rfl := Option.some.inj (h2.symm.trans HPM.out)
                                    rw [HMm.out] at h4
                                    exact absurd h4 (by omega)
                                  have x0 : wc.drew.cell? ⟨P, 0, none⟩ = _ := q0
                                  have x1 : wc.drew.cell? ⟨P, 1, none⟩ = _ := q1
                                  have x2 : wc.drew.cell? ⟨P, 2, none⟩ = _ := q2
                                  have x3 : wc.drew.cell? ⟨P, 3, none⟩ = _ := q3
                                  have hp3 : decide (p < (m : Int)) = false := by simp; omega
                                  have HKS : Hid ((fun w' => w'.cell? ⟨P, 2, none⟩ = some (.int .i64 p) ∧ w'.cell? ⟨P, 1, none⟩ = some (.int .i64 (j : Int)) ∧ w'.cell? ⟨g, j * 3 + 2, none⟩ = some (.slice B1' m c1')) wc.drew) := ⟨x2, x1, HK.out.2.2⟩
                                  go_wp2_with fail
                                  try simp only [Act.put, List.setIfInBounds_toArray, List.set_cons_zero, List.set_cons_succ]
                                  refine wp_region_held_drew (S := (fun w' => w'.cell? ⟨P, 2, none⟩ = some (.int .i64 p) ∧ w'.cell? ⟨P, 1, none⟩ = some (.int .i64 (j : Int)) ∧ w'.cell? ⟨g, j * 3 + 2, none⟩ = some (.slice B1' m c1'))) (by kernel_rfl) (HKS.out) (fun hHeld => ?_)
                                  refine held_take (i := 0) (v := ?_) rfl (by kernel_rfl) (by kernel_rfl) (by kernel_rfl) (fun _ _ _ h => h) (by rfl) hHeld ?_ ?_
                                  rotate_left 1
                                  · (intro w hSw; (try dsimp only at hSw); go_simp; try (with_reducible rfl))
                                  try simp only [Act.put, List.setIfInBounds_toArray, List.set_cons_zero, List.set_cons_succ]
                                  refine held_take (i := 1) (v := ?_) rfl (by kernel_rfl) (by kernel_rfl) (by kernel_rfl) (fun _ _ _ h => h) (by rfl) hHeld ?_ ?_
                                  rotate_left 1
                                  · (intro w hSw; (try dsimp only at hSw); go_simp; try (with_reducible rfl))
                                  try simp only [Act.put, List.setIfInBounds_toArray, List.set_cons_zero, List.set_cons_succ]
                                  refine held_take (i := 2) (v := ?_) rfl (by kernel_rfl) (by kernel_rfl) (by kernel_rfl) (fun _ _ _ h => h) (by rfl) hHeld ?_ ?_
                                  rotate_left 1
                                  · (intro w hSw; (try dsimp only at hSw); go_simp; try (with_reducible rfl))
                                  try simp only [Act.put, List.setIfInBounds_toArray, List.set_cons_zero, List.set_cons_succ]
                                  refine held_take (i := 3) (v := ?_) rfl (by kernel_rfl) (by kernel_rfl) (by kernel_rfl) (fun _ _ _ h => h) (by rfl) hHeld ?_ ?_
                                  rotate_left 1
                                  · (intro w hSw; (try dsimp only at hSw); go_simp; try (with_reducible rfl))
                                  try simp only [Act.put, List.setIfInBounds_toArray, List.set_cons_zero, List.set_cons_succ]
                                  refine held_take (i := 4) (v := ?_) rfl (by kernel_rfl) (by kernel_rfl) (by kernel_rfl) (fun _ _ _ h => h) (by rfl) hHeld ?_ ?_
                                  rotate_left 1
                                  · (intro w hSw; (try dsimp only at hSw); go_simp; try (with_reducible rfl))
                                  try simp only [Act.put, List.setIfInBounds_toArray, List.set_cons_zero, List.set_cons_succ]
                                  refine held_take (i := 5) (v := ?_) rfl (by kernel_rfl) (by kernel_rfl) (by kernel_rfl) (fun _ _ _ h => h) (by rfl) hHeld ?_ ?_
                                  rotate_left 1
                                  · (intro w hSw; (try dsimp only at hSw); go_simp; try (with_reducible rfl))
                                  try simp only [Act.put, List.setIfInBounds_toArray, List.set_cons_zero, List.set_cons_succ]
                                  refine held_take (i := 6) (v := ?_) rfl (by kernel_rfl) (by kernel_rfl) (by kernel_rfl) (fun _ _ _ h => h) (by rfl) hHeld ?_ ?_
                                  rotate_left 1
                                  · (intro w hSw; (try dsimp only at hSw); go_simp; try (with_reducible rfl))
                                  try simp only [Act.put, List.setIfInBounds_toArray, List.set_cons_zero, List.set_cons_succ]
                                  refine held_take (i := 7) (v := ?_) rfl (by kernel_rfl) (by kernel_rfl) (by kernel_rfl) (fun _ _ _ h => h) (by rfl) hHeld ?_ ?_
                                  rotate_left 1
                                  · (intro w hSw; (try dsimp only at hSw); go_simp; try (with_reducible rfl))
                                  try simp only [Act.put, List.setIfInBounds_toArray, List.set_cons_zero, List.set_cons_succ]
                                  refine held_take (i := 8) (v := ?_) rfl (by kernel_rfl) (by kernel_rfl) (by kernel_rfl) (fun _ _ _ h => h) (by rfl) hHeld ?_ ?_
                                  rotate_left 1
                                  · (intro w hSw; (try dsimp only at hSw); go_simp; try (with_reducible rfl))
                                  try simp only [Act.put, List.setIfInBounds_toArray, List.set_cons_zero, List.set_cons_succ]
                                  refine held_take (i := 9) (v := ?_) rfl (by kernel_rfl) (by kernel_rfl) (by kernel_rfl) (fun _ _ _ h => h) (by rfl) hHeld ?_ ?_
                                  rotate_left 1
                                  · (intro w hSw; (try dsimp only at hSw); go_simp; try (with_reducible rfl))
                                  try simp only [Act.put, List.setIfInBounds_toArray, List.set_cons_zero, List.set_cons_succ]
                                  refine held_take (i := 10) (v := ?_) rfl (by kernel_rfl) (by kernel_rfl) (by kernel_rfl) (fun _ _ _ h => h) (by rfl) hHeld ?_ ?_
                                  rotate_left 1
                                  · (intro w hSw; (try dsimp only at hSw); go_simp; try (with_reducible rfl))
                                  try simp only [Act.put, List.setIfInBounds_toArray, List.set_cons_zero, List.set_cons_succ]
                                  refine held_take (i := 11) (v := ?_) rfl (by kernel_rfl) (by kernel_rfl) (by kernel_rfl) (fun _ _ _ h => h) (by rfl) hHeld ?_ ?_
                                  rotate_left 1
                                  · (intro w hSw; (try dsimp only at hSw); go_simp; try (with_reducible rfl))
                                  try simp only [Act.put, List.setIfInBounds_toArray, List.set_cons_zero, List.set_cons_succ]
                                  refine held_take (i := 12) (v := ?_) rfl (by kernel_rfl) (by kernel_rfl) (by kernel_rfl) (fun _ _ _ h => h) (by rfl) hHeld ?_ ?_
                                  rotate_left 1
                                  · (intro w hSw; (try dsimp only at hSw); go_simp; try (with_reducible rfl))
                                  try simp only [Act.put, List.setIfInBounds_toArray, List.set_cons_zero, List.set_cons_succ]
                                  refine held_take (i := 13) (v := ?_) rfl (by kernel_rfl) (by kernel_rfl) (by kernel_rfl) (fun _ _ _ h => h) (by rfl) hHeld ?_ ?_
                                  rotate_left 1
                                  · (intro w hSw; (try dsimp only at hSw); go_simp; try (with_reducible rfl))
                                  try simp only [Act.put, List.setIfInBounds_toArray, List.set_cons_zero, List.set_cons_succ]
                                  refine held_take (i := 14) (v := ?_) rfl (by kernel_rfl) (by kernel_rfl) (by kernel_rfl) (fun _ _ _ h => h) (by rfl) hHeld ?_ ?_
                                  rotate_left 1
                                  · (intro w hSw; (try dsimp only at hSw); go_simp; try (with_reducible rfl))
                                  try simp only [Act.put, List.setIfInBounds_toArray, List.set_cons_zero, List.set_cons_succ]
                                  refine held_take (i := 15) (v := ?_) rfl (by kernel_rfl) (by kernel_rfl) (by kernel_rfl) (fun _ _ _ h => h) (by rfl) hHeld ?_ ?_
                                  rotate_left 1
                                  · (intro w hSw; (try dsimp only at hSw); go_simp; try (with_reducible rfl))
                                  try simp only [Act.put, List.setIfInBounds_toArray, List.set_cons_zero, List.set_cons_succ]
                                  refine held_take (i := 16) (v := ?_) rfl (by kernel_rfl) (by kernel_rfl) (by kernel_rfl) (fun _ _ _ h => h) (by rfl) hHeld ?_ ?_
                                  rotate_left 1
                                  · (intro w hSw; (try dsimp only at hSw); go_simp; try (with_reducible rfl))
                                  try simp only [Act.put, List.setIfInBounds_toArray, List.set_cons_zero, List.set_cons_succ]
                                  refine held_take (i := 17) (v := ?_) rfl (by kernel_rfl) (by kernel_rfl) (by kernel_rfl) (fun _ _ _ h => h) (by rfl) hHeld ?_ ?_
                                  rotate_left 1
                                  · (intro w hSw; (try dsimp only at hSw); go_simp; try (with_reducible rfl))
                                  try simp only [Act.put, List.setIfInBounds_toArray, List.set_cons_zero, List.set_cons_succ]
                                  refine held_take (i := 18) (v := ?_) rfl (by kernel_rfl) (by kernel_rfl) (by kernel_rfl) (fun _ _ _ h => h) (by rfl) hHeld ?_ ?_
                                  rotate_left 1
                                  · (intro w hSw; (try dsimp only at hSw); go_simp; try (with_reducible rfl))
                                  try simp only [Act.put, List.setIfInBounds_toArray, List.set_cons_zero, List.set_cons_succ]
                                  refine wpAnyH_done (by kernel_rfl) ?_ _
                                  skip
                                  have HSp := Lib.hid (nf_spoilno HFA.out.drew (by have := HPC.out; omega) j p (x8.toNat : Int) HNS.out)
                                  go_wp2_with (go_at_call 16; with_reducible refine HSp.out.mono ?_; rintro e w5 ⟨rfl, rfl⟩)
                                  go_meet
                                  exact ⟨ps, O1, some ⟨g, 0, none⟩, n, cap, ls, rfl, Lib.hid (by have := HPC.out; omega), Lib.hid HFA.out.drew, Lib.hid (LW.same HLA.out (fun _ _ => rfl))⟩
                            · as_aux_lemma =>
                                have HNS : Hid (¬ ∃ (j' : Nat) (p' : Pm), (j : Int) = j' ∧ ps[j']? = some p' ∧ 0 ≤ p ∧ p < (p'.l.length : Int)) := by
                                  rintro ⟨j', p', h1, h2, h3, h4⟩
                                  obtain rfl : j' = j := by omega
                                  obtain rfl := Option.some.inj (h2.symm.trans HPM.out)
                                  rw [HMm.out] at h4
                                  exact absurd h4 (by omega)
                                have x0 : wc.drew.cell? ⟨P, 0, none⟩ = _ := q0
                                have x1 : wc.drew.cell? ⟨P, 1, none⟩ = _ := q1
                                have x2 : wc.drew.cell? ⟨P, 2, none⟩ = _ := q2
                                have x3 : wc.drew.cell? ⟨P, 3, none⟩ = _ := q3
                                have hp2 : decide (0 ≤ p) = false := by simp; omega
                                go_wp2_with fail
                                try simp only [Act.put, List.setIfInBounds_toArray, List.set_cons_zero, List.set_cons_succ]
                                refine wp_region_held_drew (S := (fun w' => w'.cell? ⟨P, 2, none⟩ = some (.int .i64 p))) (by kernel_rfl) (x2) (fun hHeld => ?_)
                                refine held_take (i := 0) (v := ?_) rfl (by kernel_rfl) (by kernel_rfl) (by kernel_rfl) (fun _ _ _ h => h) (by rfl) hHeld ?_ ?_
                                rotate_left 1
                                · (intro w hSw; (try dsimp only at hSw); go_simp; try (with_reducible rfl))
                                try simp only [Act.put, List.setIfInBounds_toArray, List.set_cons_zero, List.set_cons_succ]
                                refine held_take (i := 1) (v := ?_) rfl (by kernel_rfl) (by kernel_rfl) (by kernel_rfl) (fun _ _ _ h => h) (by rfl) hHeld ?_ ?_
                                rotate_left 1
                                · (intro w hSw; (try dsimp only at hSw); go_simp; try (with_reducible rfl))
                                try simp only [Act.put, List.setIfInBounds_toArray, List.set_cons_zero, List.set_cons_succ]
                                refine held_take (i := 2) (v := ?_) rfl (by kernel_rfl) (by kernel_rfl) (by kernel_rfl) (fun _ _ _ h => h) (by rfl) hHeld ?_ ?_
                                rotate_left 1
                                · (intro w hSw; (try dsimp only at hSw); go_simp; try (with_reducible rfl))
                                try simp only [Act.put, List.setIfInBounds_toArray, List.set_cons_zero, List.set_cons_succ]
                                refine held_take (i := 3) (v := ?_) rfl (by kernel_rfl) (by kernel_rfl) (by kernel_rfl) (fun _ _ _ h => h) (by rfl) hHeld ?_ ?_
                                rotate_left 1
                                · (intro w hSw; (try dsimp only at hSw); go_simp; try (with_reducible rfl))
                                try simp only [Act.put, List.setIfInBounds_toArray, List.set_cons_zero, List.set_cons_succ]
                                refine held_take (i := 4) (v := ?_) rfl (by kernel_rfl) (by kernel_rfl) (by kernel_rfl) (fun _ _ _ h => h) (by rfl) hHeld ?_ ?_
                                rotate_left 1
                                · (intro w hSw; (try dsimp only at hSw); go_simp; try (with_reducible rfl))
                                try simp only [Act.put, List.setIfInBounds_toArray, List.set_cons_zero, List.set_cons_succ]
                                refine held_take (i := 5) (v := ?_) rfl (by kernel_rfl) (by kernel_rfl) (by kernel_rfl) (fun _ _ _ h => h) (by rfl) hHeld ?_ ?_
                                rotate_left 1
                                · (intro w hSw; (try dsimp only at hSw); go_simp; try (with_reducible rfl))
                                try simp only [Act.put, List.setIfInBounds_toArray, List.set_cons_zero, List.set_cons_succ]
                                refine held_take (i := 6) (v := ?_) rfl (by kernel_rfl) (by kernel_rfl) (by kernel_rfl) (fun _ _ _ h => h) (by rfl) hHeld ?_ ?_
                                rotate_left 1
                                · (intro w hSw; (try dsimp only at hSw); go_simp; try (with_reducible rfl))
                                try simp only [Act.put, List.setIfInBounds_toArray, List.set_cons_zero, List.set_cons_succ]
                                refine held_off (i := 7) rfl (by kernel_rfl) (by kernel_rfl) (by kernel_rfl) (fun _ _ _ h => h) (by rfl) hHeld ?_
                                try simp only [Act.put, List.setIfInBounds_toArray, List.set_cons_zero, List.set_cons_succ]
                                refine held_off (i := 8) rfl (by kernel_rfl) (by kernel_rfl) (by kernel_rfl) (fun _ _ _ h => h) (by rfl) hHeld ?_
                                try simp only [Act.put, List.setIfInBounds_toArray, List.set_cons_zero, List.set_cons_succ]
                                refine held_off (i := 9) rfl (by kernel_rfl) (by kernel_rfl) (by kernel_rfl) (fun _ _ _ h => h) (by rfl) hHeld ?_
                                try simp only [Act.put, List.setIfInBounds_toArray, List.set_cons_zero, List.set_cons_succ]
                                refine held_off (i := 10) rfl (by kernel_rfl) (by kernel_rfl) (by kernel_rfl) (fun _ _ _ h => h) (by rfl) hHeld ?_
                                try simp only [Act.put, List.setIfInBounds_toArray, List.set_cons_zero, List.set_cons_succ]
                                refine held_off (i := 11) rfl (by kernel_rfl) (by kernel_rfl) (by kernel_rfl) (fun _ _ _ h => h) (by rfl) hHeld ?_
                                try simp only [Act.put, List.setIfInBounds_toArray, List.set_cons_zero, List.set_cons_succ]
                                refine held_off (i := 12) rfl (by kernel_rfl) (by kernel_rfl) (by kernel_rfl) (fun _ _ _ h => h) (by rfl) hHeld ?_
                                try simp only [Act.put, List.setIfInBounds_toArray, List.set_cons_zero, List.set_cons_succ]
                                refine held_off (i := 13) rfl (by kernel_rfl) (by kernel_rfl) (by kernel_rfl) (fun _ _ _ h => h) (by rfl) hHeld ?_
                                try simp only [Act.put, List.setIfInBounds_toArray, List.set_cons_zero, List.set_cons_succ]
                                refine held_off (i := 14) rfl (by kernel_rfl) (by kernel_rfl) (by kernel_rfl) (fun _ _ _ h => h) (by rfl) hHeld ?_
                                try simp only [Act.put, List.setIfInBounds_toArray, List.set_cons_zero, List.set_cons_succ]
                                refine held_off (i := 15) rfl (by kernel_rfl) (by kernel_rfl) (by kernel_rfl) (fun _ _ _ h => h) (by rfl) hHeld ?_
                                try simp only [Act.put, List.setIfInBounds_toArray, List.set_cons_zero, List.set_cons_succ]
                                refine held_off (i := 16) rfl (by kernel_rfl) (by kernel_rfl) (by kernel_rfl) (fun _ _ _ h => h) (by rfl) hHeld ?_
                                try simp only [Act.put, List.setIfInBounds_toArray, List.set_cons_zero, List.set_cons_succ]
                                refine held_take (i := 17) (v := ?_) rfl (by kernel_rfl) (by kernel_rfl) (by kernel_rfl) (fun _ _ _ h => h) (by rfl) hHeld ?_ ?_
                                rotate_left 1
                                · (intro w hSw; (try dsimp only at hSw); go_simp; try (with_reducible rfl))
                                try simp only [Act.put, List.setIfInBounds_toArray, List.set_cons_zero, List.set_cons_succ]
                                refine held_take (i := 18) (v := ?_) rfl (by kernel_rfl) (by kernel_rfl) (by kernel_rfl) (fun _ _ _ h => h) (by rfl) hHeld ?_ ?_
                                rotate_left 1
                                · (intro w hSw; (try dsimp only at hSw); go_simp; try (with_reducible rfl))
                                try simp only [Act.put, List.setIfInBounds_toArray, List.set_cons_zero, List.set_cons_succ]
                                refine wpAnyH_done (by kernel_rfl) ?_ _
                                skip
                                have HSp := Lib.hid (nf_spoilno HFA.out.drew (by have := HPC.out; omega) j p (x8.toNat : Int) HNS.out)
                                go_wp2_with (go_at_call 16; with_reducible refine HSp.out.mono ?_; rintro e w5 ⟨rfl, rfl⟩)
                                go_meet
                                exact ⟨ps, O1, some ⟨g, 0, none⟩, n, cap, ls, rfl, Lib.hid (by have := HPC.out; omega), Lib.hid HFA.out.drew, Lib.hid (LW.same HLA.out (fun _ _ => rfl))⟩
              case rest =>
                obtain ⟨ps', O', A', n', cap', ls', rfl, HPC', HF', HLW'⟩ := hcut
                have HLN' := Lib.hid (nf_len HF'.out n' HLW'.out.spare.1)
                clear HFA HLA HOP HOQ HOA HNA HM8 HO8 HP8 q0 q1 q2 q3 H7
                go_wp2_with fail
                (with_reducible refine HLN'.out.mono ?_)
                rintro e w9 ⟨rfl, rfl⟩
                go_wp2
                go_roundw
                case rel => exact ⟨c + 1, ps', O', A', n', cap', ls', by go_num, rfl, by omega, HPC', HF', HLW'⟩
                case measure => simp [intOf]; omega
        · have z2 : ¬ (c : Int) < 60 := by omega
          go_wp2
          go_meet
          exact ⟨ps, O, A, n, cap, ls, rfl, Lib.hid (Nat.le_trans HPC.out hc), HF, HLW⟩
      · have z1 : ¬ (c : Int) < L := by omega
        go_wp2
        go_meet
        exact ⟨ps, O, A, n, cap, ls, rfl, Lib.hid (Nat.le_trans HPC.out hc), HF, HLW⟩
  case rest =>
    as_aux_lemma =>
      obtain ⟨ps, O, A, n, cap, ls, rfl, HPC, HF, HLW⟩ := hcut
      obtain ⟨hn, hnc, hcm⟩ := HLW.out.spare
      have HN := Lib.hid hn
      have hn60 : n ≤ 60 := by have := HPC.out; omega
      have HCM := Lib.hid hcm
      clear hn hcm HF2
      go_wp2_with fail
      go_loopw [14] (fun iv wy => ∃ (d : Nat), iv = .int .i64 d ∧ d ≤ n ∧ Hid (NF w wy w1.heap.size ps O) ∧ Hid (LW wy O (.slice A n cap) ls ps)) (fun iv _ => n - (intOf iv).toNat)
      case atStart => exact ⟨0, rfl, by omega, HF, HLW⟩
      case round =>
        clear HF HLW
        obtain ⟨d, rfl, hd, HFy, HLy⟩ := hrel
        by_cases hlt : d < n
        · have zlt : (d : Int) < n := by omega
          obtain ⟨p, hp⟩ : ∃ p, ps[d]? = some p := ⟨_, List.getElem?_eq_getElem (by rw [HN.out]; exact hlt)⟩
          obtain ⟨m, hm⟩ : ∃ m, p.l.length = m := ⟨_, rfl⟩
          have HL1 := Lib.hid (nf_look HFy.out (by have := HPC.out; omega) d d rfl p hp m hm)
          have HPp := Lib.hid hp; have HMm := Lib.hid hm
          clear hp hm
          go_wp2_with fail
          (with_reducible refine HL1.out.mono ?_)
          rintro e w5 ⟨A5, c5, rfl, o5, b5⟩
          have HO5 := Lib.hid o5; have HB5 := Lib.hid b5
          clear o5 b5 HL1
          go_wp2_with (first
            | (refine wpList_store_ml rfl (.tmp 15) (.tmp 210) rfl w5.heap.size (by rfl) (MlM.new w5 0 0 none 0 0) (by rfl) ?_; intro w6 p6 s6 g6
               have HP6 := Lib.hid p6
               have B6 : Hid (Below w5.heap.size w5 w6) := below_own ((Below.refl _ _).alloc (Nat.le_refl _) _) g6 (Nat.le_refl _)
               clear p6 s6 g6))
          try simp only [Act.put, List.setIfInBounds_toArray, List.set_cons_zero, List.set_cons_succ]
          have BY : Hid (Below wr.heap.size wr w6) := HB5.out.trans (B6.out.mono HB5.out.size)
          have HF6 := Lib.hid (HFy.out.belows BY.out)
          have HL6 := Lib.hid (HLy.out.same (HFy.out.same BY.out))
          obtain ⟨g, B6', c6, hj, rfl, -, k0, k1, k2, -, -, r6⟩ := HL6.out.at rfl d p HPp.out m HMm.out
          have HEq := Lib.hid (eq_same w6.drew p.f p.t A5 B6' m c5 c6 p.l (RB.more (HO5.out.cells.below (w' := w6.drew) B6.out.drew) B6.out.size) r6 HMm.out)
          have HK := Lib.hid (And.intro (show MlM w6.drew w5.heap.size p.f p.t A5 m c5 from HP6.out) (And.intro k0 (And.intro k1 k2)))
          clear k0 k1 k2 r6 hj
          refine wp_region_held_drew (S := (fun w' => MlM w' w5.heap.size p.f p.t A5 m c5 ∧ w'.cell? ⟨g, d * 3, none⟩ = some (.int .i64 p.f) ∧ w'.cell? ⟨g, d * 3 + 1, none⟩ = some (.int .i64 p.t) ∧ w'.cell? ⟨g, d * 3 + 2, none⟩ = some (.slice B6' m c6))) (by kernel_rfl) (HK.out) (fun hHeld => ?_)
          refine held_take (i := 0) (v := ?_) rfl (by kernel_rfl) (by kernel_rfl) (by kernel_rfl) (fun _ _ _ h => h) (by rfl) hHeld ?_ ?_
          rotate_left 1
          · (intro w hSw; (try dsimp only at hSw); go_simp; try (with_reducible rfl))
          try simp only [Act.put, List.setIfInBounds_toArray, List.set_cons_zero, List.set_cons_succ]
          refine held_take (i := 1) (v := ?_) rfl (by kernel_rfl) (by kernel_rfl) (by kernel_rfl) (fun _ _ _ h => h) (by rfl) hHeld ?_ ?_
          rotate_left 1
          · (intro w hSw; (try dsimp only at hSw); go_simp; try (with_reducible rfl))
          try simp only [Act.put, List.setIfInBounds_toArray, List.set_cons_zero, List.set_cons_succ]
          refine held_take (i := 2) (v := ?_) rfl (by kernel_rfl) (by kernel_rfl) (by kernel_rfl) (fun _ _ _ h => h) (by rfl) hHeld ?_ ?_
          rotate_left 1
          · (intro w hSw; (try dsimp only at hSw); go_simp; try (with_reducible rfl))
          try simp only [Act.put, List.setIfInBounds_toArray, List.set_cons_zero, List.set_cons_succ]
          refine held_take (i := 3) (v := mlV p.f p.t A5 m c5) rfl (by kernel_rfl) (by kernel_rfl) (by kernel_rfl) (fun _ _ _ h => h) (by rfl) hHeld (exec_load_ml _ rfl w5.heap.size (by rfl) (fun W hW => hW.1)) ?_
          try simp only [Act.put, List.setIfInBounds_toArray, List.set_cons_zero, List.set_cons_succ]
          refine held_take (i := 4) (v := ?_) rfl (by kernel_rfl) (by kernel_rfl) (by kernel_rfl) (fun _ _ _ h => h) (by rfl) hHeld ?_ ?_
          rotate_left 1
          · (intro w hSw; (try dsimp only at hSw); go_simp; try (with_reducible rfl))
          try simp only [Act.put, List.setIfInBounds_toArray, List.set_cons_zero, List.set_cons_succ]
          refine held_take (i := 5) (v := ?_) rfl (by kernel_rfl) (by kernel_rfl) (by kernel_rfl) (fun _ _ _ h => h) (by rfl) hHeld ?_ ?_
          rotate_left 1
          · (intro w hSw; (try dsimp only at hSw); go_simp; try (with_reducible rfl))
          try simp only [Act.put, List.setIfInBounds_toArray, List.set_cons_zero, List.set_cons_succ]
          refine held_take (i := 6) (v := ?_) rfl (by kernel_rfl) (by kernel_rfl) (by kernel_rfl) (fun _ _ _ h => h) (by rfl) hHeld ?_ ?_
          rotate_left 1
          · (intro w hSw; (try dsimp only at hSw); go_simp; try (with_reducible rfl))
          try simp only [Act.put, List.setIfInBounds_toArray, List.set_cons_zero, List.set_cons_succ]
          refine held_take (i := 7) (v := mlV p.f p.t B6' m c6) rfl (by kernel_rfl) (by kernel_rfl) (by kernel_rfl) (fun _ _ _ h => h) (by rfl) hHeld (exec_load_at _ rfl g (d * 3) (by rfl) (fun W hW => hW.2)) ?_
          try simp only [Act.put, List.setIfInBounds_toArray, List.set_cons_zero, List.set_cons_succ]
          refine held_one (i := 8) rfl (by kernel_rfl) (by rfl) (fun K hK => ?_)
          go_simp
          with_reducible refine HEq.out.mono ?_
          rintro e7 w7 ⟨rfl, b7⟩
          have HB7 := Lib.hid b7
          clear b7
          refine hK.out _ _ (keep44 hHeld HB7.out) (fun hHeld2 => ?_)
          clear hK K hHeld; have hHeld := hHeld2; clear hHeld2
          try simp only [Act.put, List.setIfInBounds_toArray, List.set_cons_zero, List.set_cons_succ]
          refine held_take (i := 9) (v := ?_) rfl (by kernel_rfl) (by kernel_rfl) (by kernel_rfl) (fun _ _ _ h => h) (by rfl) hHeld ?_ ?_
          rotate_left 1
          · (intro w hSw; (try dsimp only at hSw); go_simp; try (with_reducible rfl))
          try simp only [Act.put, List.setIfInBounds_toArray, List.set_cons_zero, List.set_cons_succ]
          refine held_take (i := 10) (v := ?_) rfl (by kernel_rfl) (by kernel_rfl) (by kernel_rfl) (fun _ _ _ h => h) (by rfl) hHeld ?_ ?_
          rotate_left 1
          · (intro w hSw; (try dsimp only at hSw); go_simp; try (with_reducible rfl))
          try simp only [Act.put, List.setIfInBounds_toArray, List.set_cons_zero, List.set_cons_succ]
          refine wpAnyH_done (by kernel_rfl) ?_ _
          skip
          go_wp2_with fail
          go_roundw
          case rel => exact ⟨d + 1, by go_num, by omega, Lib.hid (HF6.out.drew.belows HB7.out), Lib.hid (LW.same HL6.out (show Same O w6 _ from HF6.out.drew.same HB7.out))⟩
          case measure => simp [intOf]; omega
        · have zlt : ¬ (d : Int) < n := by omega
          have HBE := Lib.hid HFy.out.be
          go_wp2
          go_ret
          exact ⟨rfl, HBE.out⟩
end Go.Proofs.Ytolnafpicfemnaa
