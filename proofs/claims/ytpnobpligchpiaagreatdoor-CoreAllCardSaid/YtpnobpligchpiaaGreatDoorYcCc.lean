/- texts of YcCc -/
import Derived.Deep.MidRow
import Derived.Test.YtpnobpligchpiaaGreatDoorYcCa
namespace Go.Proofs.YtpnobpligchpiaaGreatDoor
set_option maxRecDepth 100000
open Go.RowKit
set_option linter.unusedVariables false
set_option linter.unusedSimpArgs false
theorem foldmin_le (ps : List (List UInt8)) : ∀ a : Nat, ps.foldl (fun m l => min m l.length) a ≤ a := by
  induction ps with
  | nil => exact fun a => Nat.le_refl _
  | cons x r ih => exact fun a => Nat.le_trans (ih _) (Nat.min_le_left _ _)
theorem foldmin_mem : ∀ (ps : List (List UInt8)) (a : Nat) (l : List UInt8), l ∈ ps → ps.foldl (fun m l => min m l.length) a ≤ l.length
  | [], a, l, h => by cases h
  | x :: r, a, l, h => by
    rcases List.mem_cons.1 h with rfl | h
    · exact Nat.le_trans (foldmin_le r _) (Nat.min_le_right _ _)
    · exact foldmin_mem r _ l h
theorem frontP_mem (ps : List (List UInt8)) (l : List UInt8) (h : l ∈ ps) : frontP ps ≤ l.length := foldmin_mem ps 1000 l h
theorem DM.press_at {w0 X : World} {K : Dm} (h : DM w0 X K) {g n cap : Nat} {cur : Array Value} (hlv : K.lv = .slice (some ⟨g, 0, none⟩) n cap) (hr : X.heap[g]? = some (lineO cur)) (hcur : ∀ j (hj : j < K.ls.length), cur[j]? = some K.ls[j].v) (me : Nat) (l : List UInt8) (A : Option Addr) (H c : Nat) (hm : K.ls[me]? = some ⟨.slice A H c, l⟩) (b : UInt8) (o : Obj) (ho : o = Obj.cells #[.int .u8 (b.toNat : Int)] 5) :
    OB (X.alloc o) w0.heap.size (.slice A H c) l ∧ RB (X.alloc o) (X.alloc o).heap.size (some ⟨X.heap.size, 0, none⟩) [b] ∧ (X.alloc o).cell? ⟨g, me, none⟩ = some (.slice A H c) ∧ (X.alloc o).frozen? ⟨g, me, none⟩ = false ∧ some g ≠ (Value.slice A H c).ownBlock ∧ w0.heap.size ≤ (X.alloc o).heap.size ∧
    ∀ v7 w7, OB w7 w0.heap.size v7 (l ++ [b]) → (X.alloc o).grownBy w7 (Value.slice A H c).ownBlock → (v7.ownBlock = (Value.slice A H c).ownBlock ∨ v7.ownBlock = some (X.alloc o).heap.size) → GoesD w0 X K (w7.setCell ⟨g, me, none⟩ v7) { K.s with L := K.s.L.set me (l ++ [b]) } := by
  have hlr := h.lr
  rw [hlv] at hlr
  have hbA : Below X.heap.size X (X.alloc o) := (Below.refl _ _).alloc (Nat.le_refl _) _
  obtain ⟨q1, q2⟩ := hlr.line _ (List.mem_of_getElem? hm)
  have hjl : me < K.ls.length := (List.getElem?_eq_some_iff.1 hm).1
  have hcv : cur[me]? = some (.slice A H c) := by
    rw [hcur me hjl]
    have := (List.getElem?_eq_some_iff.1 hm).2
    rw [this]
  have hg : g < X.heap.size := (Array.getElem?_eq_some_iff.1 hr).1
  have hrA : (X.alloc o).heap[g]? = some (lineO cur) := (hbA.block g hg).trans hr
  have hng : (Value.slice A H c).ownBlock ≠ some g := fun e => q2 g e rfl
  refine ⟨q1.below hbA (Nat.le_refl _), ?_, ?_, frozen_of_row _ g me _ _ hrA, fun e => hng e.symm, Nat.le_trans h.be.size hbA.size, ?_⟩
  · rw [ho]; exact rb_cells X [b] 5 _ (by simp)
  · rw [cell_of_row _ g me _ _ _ hrA, hcv]
  · intro v7 w7 h1 h2 h3
    have R := (RPut.start hr hcv).step hg hng hbA h2 h3
    have hn7 := R.nog hg hng
    have hO : OB (w7.setCell ⟨g, me, none⟩ v7) w0.heap.size v7 (l ++ [b]) := h1.same fun k hk => Below.heap_setCell _ _ _ _ (fun e => hn7 (by rw [hk, e]))
    exact h.put_line hlv hr me _ l hm v7 (l ++ [b]) R hO
set_option maxHeartbeats 4000000 in
theorem doc_press (w0 w : World) (K : Dm) (h : DM w0 w K) (m : Nat) (hok : Ok K.C m K.s) (h0 : 0 < K.C.n) (h8 : K.C.n ≤ 8) (hme : K.C.me < K.C.n) (b : UInt8) (a : Int) (s' : Pl) (hp : pressP K.C K.s b = (a, s')) {kc : Nat} (hkc : K.c = kc) :
    Calls Tryz.prog 17 #[pB kc, vb b] w fun e w' => e = .returned (.int .i64 a) ∧ GoesD w0 w K w' s' := by
  have hcl : w.cell? ⟨kc, 18, none⟩ = some (.bool K.s.cl) := by rw [← hkc]; exact h.cell 18 _ rfl
  have HH := Lib.hid h
  unfold vb
  obtain ⟨bi, hbi⟩ : ∃ bi : Int, (b.toNat : Int) = bi := ⟨_, rfl⟩
  rw [hbi]
  unfold pressP at hp
  by_cases hcz : K.s.cl = true
  · rw [if_pos hcz] at hp
    injection hp with ea es
    subst ea es
    rw [hcz] at hcl
    clear hok h hbi hkc
    go_enter Tryz.func17, Tryz.ntmps17
    go_wp2_with fail
    go_ret
    exact ⟨rfl, HH.out.goes (Below.refl _ _)⟩
  · rw [if_neg hcz] at hp
    have hcf : K.s.cl = false := by simpa using hcz
    rw [hcf] at hcl
    obtain ⟨l, hl, hl1⟩ := hok.line K.C.me hme
    obtain ⟨H, hH⟩ : ∃ H, l.length = H := ⟨_, rfl⟩
    rw [Ok.head_eq hl, hH] at hp
    rw [hl] at hp
    simp only [Option.getD_some] at hp
    have hLn : K.s.L.length = K.C.n := hok.L
    have HHead : Hid (∀ W, Below w.heap.size w W → Calls Tryz.prog 69 #[pB kc] W fun e w' => e = .returned (.int .i64 H) ∧ Below W.heap.size W w') := fun W hW => by
      have := doc_head w0 W K (h.belows hW) l hl hLn H hH
      rw [hkc] at this
      exact this.mono fun e w' ⟨he, hw⟩ => ⟨he, by rw [hw]; exact (Below.refl _ _).drew⟩
    by_cases h1000 : 1000 ≤ H
    · rw [if_pos h1000] at hp
      injection hp with ea es
      subst ea es
      have h1i : (1000 : Int) ≤ (H : Int) := by omega
      clear hok h hbi hl hH hl1 hkc hLn
      go_enter Tryz.func17, Tryz.ntmps17
      go_wp2_with (first
        | (go_at_call 69; (with_reducible refine (HHead.out _ (Below.refl _ _)).mono ?_); rintro en w2 ⟨rfl, hb⟩; have HB2 := Lib.hid hb; clear hb))
      go_ret
      exact ⟨rfl, HH.out.goes HB2.out⟩
    · rw [if_neg h1000] at hp
      obtain ⟨F, hF⟩ : ∃ F, frontP K.s.L = F := ⟨_, rfl⟩
      rw [hF] at hp
      have hFH : F ≤ H := by
        have hn0 : 0 < K.ls.length := by rw [h.llen, hLn]; exact h0
        have h1 := frontP_mem K.s.L l (List.mem_of_getElem? hl)
        omega
      have HFront : Hid (∀ W, Below w.heap.size w W → Calls Tryz.prog 70 #[pB kc] W fun e w' => e = .returned (.int .i64 F) ∧ W = w') := fun W hW => by
        have := doc_front w0 W K (h.belows hW) (by rw [hLn]; exact h0) (by rw [hLn]; exact h8) hok.ll F hF
        rw [hkc] at this
        exact this
      obtain ⟨wi, hwi⟩ : ∃ wi, K.C.wi = wi := ⟨_, rfl⟩
      rw [hwi] at hp
      obtain ⟨me, hmq⟩ : ∃ me, K.C.me = me := ⟨_, rfl⟩
      obtain ⟨n, hn⟩ : ∃ n, K.C.n = n := ⟨_, rfl⟩
      have HCELL : Hid (∀ W, Below w.heap.size w W → W.cell? ⟨kc, 4, none⟩ = some (.int .i64 (wi : Int))) := fun W hW => by
        have h2 := (h.belows hW).cell 4 _ rfl
        rw [hkc, hwi] at h2
        exact h2
      obtain ⟨g, cap, cur, hlv, -, -, hr, hcur⟩ := h.lines (by rw [hLn]; exact h0) n (by rw [hLn, hn])
      obtain ⟨A, c, ha1, ha2, ha3, -, -⟩ := h.line_at hlv K.C.me l hl H hH
      rw [hmq] at ha1 ha3
      have hmn : (me : Int) < (n : Int) := by omega
      have HCEL1 : Hid (∀ W, Below w.heap.size w W → W.cell? ⟨kc, 10, none⟩ = some (.slice (some ⟨g, 0, none⟩) n cap) ∧ W.cell? ⟨kc, 1, none⟩ = some (.int .i64 (me : Int)) ∧ W.cell? ⟨g, me, none⟩ = some (.slice A H c)) := fun W hW => by
        have h1 := (h.belows hW).cell 10 _ rfl
        have h2 := (h.belows hW).cell 1 _ rfl
        rw [hkc, hlv] at h1; rw [hkc, hmq] at h2
        exact ⟨h1, h2, (World.cell?_of_block (a := ⟨g, me, none⟩) (hW.block g (Array.getElem?_eq_some_iff.1 hr).1)).trans ha1⟩
      have HPA : Hid (∀ W, Below w.heap.size w W → ∀ o, o = Obj.cells #[.int .u8 bi] 5 → OB (W.alloc o) w0.heap.size (.slice A H c) l ∧ RB (W.alloc o) (W.alloc o).heap.size (some ⟨W.heap.size, 0, none⟩) [b] ∧ (W.alloc o).cell? ⟨g, me, none⟩ = some (.slice A H c) ∧ (W.alloc o).frozen? ⟨g, me, none⟩ = false ∧ some g ≠ (Value.slice A H c).ownBlock ∧ w0.heap.size ≤ (W.alloc o).heap.size ∧
          ∀ v7 w7, OB w7 w0.heap.size v7 (l ++ [b]) → (W.alloc o).grownBy w7 (Value.slice A H c).ownBlock → (v7.ownBlock = (Value.slice A H c).ownBlock ∨ v7.ownBlock = some (W.alloc o).heap.size) → GoesD w0 w K (w7.setCell ⟨g, me, none⟩ v7) { K.s with L := K.s.L.set me (l ++ [b]) }) := fun W hW o ho => by
        obtain ⟨p1, p2, p3, p4, p5, p6, p7⟩ := (h.belows hW).press_at hlv ((hW.block g (Array.getElem?_eq_some_iff.1 hr).1).trans hr) hcur me l A H c ha3 b o (by rw [ho, hbi])
        exact ⟨p1, p2, p3, p4, p5, p6, fun v7 w7 t1 t2 t3 => goesd_then (Lv.of_below hW) (fun i hi => .inl hi) rfl rfl (p7 v7 w7 t1 t2 t3)⟩
      have HLEN : Hid (l.length + [b].length ≤ 140737488355328) := by show _ ≤ _; simp; omega
      obtain ⟨d, hd⟩ : ∃ d : Nat, H - F = d := ⟨_, rfl⟩
      have hdi : (H : Int) - (F : Int) = (d : Int) := by omega
      rw [hd, hmq] at hp
      have h1i : (H : Int) < 1000 := by omega
      have h1d : decide ((1000 : Int) ≤ (H : Int)) = false := by simp; omega
      have hwd : IntKind.i64.wrap (d : Int) = (d : Int) := by rw [IntKind.wrap_i64]; omega
      by_cases hst : wi ≤ d
      · rw [if_pos hst] at hp
        injection hp with ea es
        subst ea es
        have hsi : (wi : Int) ≤ (d : Int) := by omega
        clear hok h hbi hl hH hl1 hkc hF hFH hwi hmq hd h1000 hLn hn hlv hr hcur ha1 ha2 ha3
        go_enter Tryz.func17, Tryz.ntmps17
        go_wp2_with (first
          | (go_at_call 69; (with_reducible refine (HHead.out _ (Below.refl _ _)).mono ?_); rintro en w2 ⟨rfl, hb⟩; have HB2 := Lib.hid hb; clear hb))
        refine wp_region_held_drew (S := (fun w' => w'.cell? ⟨kc, 4, none⟩ = some (.int .i64 (wi : Int)))) (by kernel_rfl) (HCELL.out _ HB2.out.drew) (fun hHeld => ?_)
        refine held_take (i := 0) (v := ?_) rfl (by kernel_rfl) (by kernel_rfl) (by kernel_rfl) (fun _ _ _ h => h) (by rfl) hHeld ?_ ?_
        rotate_left 1
        · (intro w hSw; (try dsimp only at hSw); go_simp; try (with_reducible rfl))
        try simp only [Act.put, nB, nC, nD]
        refine held_take (i := 2) (v := ?_) rfl (by kernel_rfl) (by kernel_rfl) (by kernel_rfl) (fun _ _ _ h => h) (by rfl) hHeld ?_ ?_
        rotate_left 1
        · (intro w hSw; (try dsimp only at hSw); go_simp; try (with_reducible rfl))
        try simp only [Act.put, nB, nC, nD]
        refine held_take (i := 5) (v := ?_) rfl (by kernel_rfl) (by kernel_rfl) (by kernel_rfl) (fun _ _ _ h => h) (by rfl) hHeld ?_ ?_
        rotate_left 1
        · (intro w hSw; (try dsimp only at hSw); go_simp; try (with_reducible rfl))
        try simp only [Act.put, nB, nC, nD]
        refine held_take (i := 6) (v := ?_) rfl (by kernel_rfl) (by kernel_rfl) (by kernel_rfl) (fun _ _ _ h => h) (by rfl) hHeld ?_ ?_
        rotate_left 1
        · (intro w hSw; (try dsimp only at hSw); go_simp; try (with_reducible rfl))
        try simp only [Act.put, nB, nC, nD]
        refine held_take (i := 7) (v := ?_) rfl (by kernel_rfl) (by kernel_rfl) (by kernel_rfl) (fun _ _ _ h => h) (by rfl) hHeld ?_ ?_
        rotate_left 1
        · (intro w hSw; (try dsimp only at hSw); go_simp; try (with_reducible rfl))
        try simp only [Act.put, nB, nC, nD]
        refine held_take (i := 8) (v := ?_) rfl (by kernel_rfl) (by kernel_rfl) (by kernel_rfl) (fun _ _ _ h => h) (by rfl) hHeld ?_ ?_
        rotate_left 1
        · (intro w hSw; (try dsimp only at hSw); go_simp; try (with_reducible rfl))
        try simp only [Act.put, nB, nC, nD]
        refine held_take (i := 9) (v := ?_) rfl (by kernel_rfl) (by kernel_rfl) (by kernel_rfl) (fun _ _ _ h => h) (by rfl) hHeld ?_ ?_
        rotate_left 1
        · (intro w hSw; (try dsimp only at hSw); go_simp; try (with_reducible rfl))
        try simp only [Act.put, nB, nC, nD]
        refine held_one (i := 1) rfl (by kernel_rfl) (by rfl) (fun K hK => ?_)
        go_simp
        refine (HHead.out _ HB2.out.drew).mono ?_
        rintro en w3 ⟨rfl, hb3⟩
        have HB3 := Lib.hid (HB2.out.drew.trans (hb3.mono HB2.out.drew.size))
        clear hb3
        refine hK.out _ _ (HCELL.out _ HB3.out) (fun hHeld2 => ?_)
        clear hK K hHeld; have hHeld := hHeld2; clear hHeld2
        try simp only [Act.put, nB, nC, nD]
        refine held_one (i := 3) rfl (by kernel_rfl) (by rfl) (fun K hK => ?_)
        go_simp
        refine (HFront.out _ HB3.out).mono ?_
        rintro en w5 ⟨rfl, rfl⟩
        refine hK.out _ _ (hHeld) (fun hHeld2 => ?_)
        clear hK K hHeld; have hHeld := hHeld2; clear hHeld2
        try simp only [Act.put, nB, nC, nD]
        refine held_one (i := 4) rfl (by kernel_rfl) (by rfl) (fun K hK => ?_)
        go_simp
        refine hK.out _ _ (hHeld) (fun hHeld2 => ?_)
        clear hK K hHeld; have hHeld := hHeld2; clear hHeld2
        try simp only [Act.put, nB, nC, nD]
        refine held_one (i := 10) rfl (by kernel_rfl) (by rfl) (fun K hK => ?_)
        go_simp
        refine hK.out _ _ (hHeld) (fun hHeld2 => ?_)
        clear hK K hHeld; have hHeld := hHeld2; clear hHeld2
        try simp only [Act.put, nB, nC, nD]
        refine held_one (i := 11) rfl (by kernel_rfl) (by rfl) (fun K hK => ?_)
        go_simp
        refine hK.out _ _ (hHeld) (fun hHeld2 => ?_)
        clear hK K hHeld; have hHeld := hHeld2; clear hHeld2
        try simp only [Act.put, nB, nC, nD]
        refine wpAnyH_done (by kernel_rfl) ?_ _
        have HB9 := Lib.hid HB3.out
        clear hHeld
        go_wp2_with fail
        go_ret
        exact ⟨rfl, HH.out.goes HB9.out⟩
      · rw [if_neg hst] at hp
        injection hp with ea es
        subst ea es
        have hsi : (d : Int) < (wi : Int) := by omega
        have hsd : decide ((wi : Int) ≤ (d : Int)) = false := by simp; omega
        have hse : decide (wi ≤ d) = false := by simp; omega
        clear hok h hbi hl hH hl1 hkc hF hFH hwi hmq hd h1000 hLn hn hlv hr hcur ha1 ha2 ha3
        go_enter Tryz.func17, Tryz.ntmps17
        go_wp2_with (first
          | (go_at_call 69; (with_reducible refine (HHead.out _ (Below.refl _ _)).mono ?_); rintro en w2 ⟨rfl, hb⟩; have HB2 := Lib.hid hb; clear hb))
        refine wp_region_held_drew (S := (fun w' => w'.cell? ⟨kc, 4, none⟩ = some (.int .i64 (wi : Int)))) (by kernel_rfl) (HCELL.out _ HB2.out.drew) (fun hHeld => ?_)
        refine held_take (i := 0) (v := ?_) rfl (by kernel_rfl) (by kernel_rfl) (by kernel_rfl) (fun _ _ _ h => h) (by rfl) hHeld ?_ ?_
        rotate_left 1
        · (intro w hSw; (try dsimp only at hSw); go_simp; try (with_reducible rfl))
        try simp only [Act.put, nB, nC, nD]
        refine held_take (i := 2) (v := ?_) rfl (by kernel_rfl) (by kernel_rfl) (by kernel_rfl) (fun _ _ _ h => h) (by rfl) hHeld ?_ ?_
        rotate_left 1
        · (intro w hSw; (try dsimp only at hSw); go_simp; try (with_reducible rfl))
        try simp only [Act.put, nB, nC, nD]
        refine held_take (i := 5) (v := ?_) rfl (by kernel_rfl) (by kernel_rfl) (by kernel_rfl) (fun _ _ _ h => h) (by rfl) hHeld ?_ ?_
        rotate_left 1
        · (intro w hSw; (try dsimp only at hSw); go_simp; try (with_reducible rfl))
        try simp only [Act.put, nB, nC, nD]
        refine held_take (i := 6) (v := ?_) rfl (by kernel_rfl) (by kernel_rfl) (by kernel_rfl) (fun _ _ _ h => h) (by rfl) hHeld ?_ ?_
        rotate_left 1
        · (intro w hSw; (try dsimp only at hSw); go_simp; try (with_reducible rfl))
        try simp only [Act.put, nB, nC, nD]
        refine held_take (i := 7) (v := ?_) rfl (by kernel_rfl) (by kernel_rfl) (by kernel_rfl) (fun _ _ _ h => h) (by rfl) hHeld ?_ ?_
        rotate_left 1
        · (intro w hSw; (try dsimp only at hSw); go_simp; try (with_reducible rfl))
        try simp only [Act.put, nB, nC, nD]
        refine held_take (i := 8) (v := ?_) rfl (by kernel_rfl) (by kernel_rfl) (by kernel_rfl) (fun _ _ _ h => h) (by rfl) hHeld ?_ ?_
        rotate_left 1
        · (intro w hSw; (try dsimp only at hSw); go_simp; try (with_reducible rfl))
        try simp only [Act.put, nB, nC, nD]
        refine held_take (i := 9) (v := ?_) rfl (by kernel_rfl) (by kernel_rfl) (by kernel_rfl) (fun _ _ _ h => h) (by rfl) hHeld ?_ ?_
        rotate_left 1
        · (intro w hSw; (try dsimp only at hSw); go_simp; try (with_reducible rfl))
        try simp only [Act.put, nB, nC, nD]
        refine held_one (i := 1) rfl (by kernel_rfl) (by rfl) (fun K hK => ?_)
        go_simp
        refine (HHead.out _ HB2.out.drew).mono ?_
        rintro en w3 ⟨rfl, hb3⟩
        have HB3 := Lib.hid (HB2.out.drew.trans (hb3.mono HB2.out.drew.size))
        clear hb3
        refine hK.out _ _ (HCELL.out _ HB3.out) (fun hHeld2 => ?_)
        clear hK K hHeld; have hHeld := hHeld2; clear hHeld2
        try simp only [Act.put, nB, nC, nD]
        refine held_one (i := 3) rfl (by kernel_rfl) (by rfl) (fun K hK => ?_)
        go_simp
        refine (HFront.out _ HB3.out).mono ?_
        rintro en w5 ⟨rfl, rfl⟩
        refine hK.out _ _ (hHeld) (fun hHeld2 => ?_)
        clear hK K hHeld; have hHeld := hHeld2; clear hHeld2
        try simp only [Act.put, nB, nC, nD]
        refine held_one (i := 4) rfl (by kernel_rfl) (by rfl) (fun K hK => ?_)
        go_simp
        refine hK.out _ _ (hHeld) (fun hHeld2 => ?_)
        clear hK K hHeld; have hHeld := hHeld2; clear hHeld2
        try simp only [Act.put, nB, nC, nD]
        refine held_one (i := 10) rfl (by kernel_rfl) (by rfl) (fun K hK => ?_)
        go_simp
        refine hK.out _ _ (hHeld) (fun hHeld2 => ?_)
        clear hK K hHeld; have hHeld := hHeld2; clear hHeld2
        try simp only [Act.put, nB, nC, nD]
        refine held_one (i := 11) rfl (by kernel_rfl) (by rfl) (fun K hK => ?_)
        go_simp
        refine hK.out _ _ (hHeld) (fun hHeld2 => ?_)
        clear hK K hHeld; have hHeld := hHeld2; clear hHeld2
        try simp only [Act.put, nB, nC, nD]
        refine wpAnyH_done (by kernel_rfl) ?_ _
        have HB9 := Lib.hid HB3.out
        clear hHeld
        obtain ⟨d1, d2, d3⟩ := HCEL1.out _ HB9.out
        go_wp2_with fail
        go_big_region
        clear d1 d2 d3
        obtain ⟨-, -, d3⟩ := HCEL1.out _ HB9.out.drew
        obtain ⟨p1, p2, p3, p4, p5, p6, p7⟩ := HPA.out _ HB9.out.drew _ rfl
        have P1 := Lib.hid p1; have P2 := Lib.hid p2; have P3 := Lib.hid p3; have P4 := Lib.hid p4; have P5 := Lib.hid p5; have P6 := Lib.hid p6; have P7 := Lib.hid p7
        clear p1 p2 p3 p4 p5 p6 p7
        go_wp2_with (first
          | (refine wpList_append_bytes rfl (.tmp 41) (.tmp 43) rfl w0.heap.size (.slice A H c) l [b] rfl P1.out _ (some ⟨_, 0, none⟩) 1 rfl P2.out HLEN.out P6.out ?_; intro v7 w7 o7 g7 e7; have q7 := gr_cell1 g7 P3.out P5.out; have f7 := gr_fz1 g7 P3.out P4.out P5.out; have G7 := Lib.hid (P7.out v7 w7 o7 g7 e7); obtain ⟨A7, c7, rfl, -, -, -⟩ := o7.form_n _ rfl; clear o7 g7 e7))
        go_ret
        exact ⟨rfl, by have := G7.out; rw [List.length_append] at this; exact this⟩
theorem held_goes {w0 w w1 : World} {K : Dm} {s : Pl} (g : GoesD w0 w K w1 s) (N : Nat) (hN : K.C.n = N) (h8 : N ≤ 8) (h0N : 0 < N) (hp : s.ps.length = N) (hfr : ∀ x ∈ s.ps, x.fr ≤ 1000) (hms : s.ms.length ≤ 1000) (hes : s.es.length ≤ 800000) {kc : Nat} (hkc : K.c = kc) :
    Calls Tryz.prog 88 #[pB kc] w1 fun en w' => en = .returned (.tuple #[]) ∧ GoesD w0 w K w' (heldN s N) :=
  g.step fun K1 e1 e2 e3 h => by
    subst e1
    exact doc_held w0 w1 K1 h N (by rw [e2]; exact hN) h8 h0N hp hfr hms hes (e3.trans hkc)
set_option maxHeartbeats 4000000 in
theorem doc_mark (w0 w : World) (K : Dm) (h : DM w0 w K) (m : Nat) (hok : Ok K.C m K.s) (hm9 : m ≤ 10000) (h8 : K.C.n ≤ 8) (h0N : 0 < K.C.n) (u : Int) (hu : 0 ≤ u ∧ u ≤ 4294967295) (hlt : K.s.ms.length < 1000) {kc : Nat} (hkc : K.c = kc) :
    Calls Tryz.prog 28 #[pB kc, .int .u32 u] w fun e w' => e = .returned (.tuple #[]) ∧ GoesD w0 w K w' (markP K.C K.s u) := by
  have HKC := Lib.hid hkc
  obtain ⟨n, hn⟩ : ∃ n, K.s.ms.length = n := ⟨_, rfl⟩
  obtain ⟨A, cap, hev, -, -⟩ := h.marks
  rw [hn] at hev hlt
  have hcc : w.cell? ⟨kc, 16, none⟩ = some (.slice A n cap) := by rw [← hkc, ← hev]; exact h.cell 16 _ rfl
  unfold markP
  rw [hn, if_pos hlt]
  have HH := Lib.hid h
  have hlt2 : (n : Int) < 1000 := by omega
  have HEV := Lib.hid hev
  have HN1 : Hid (n + 1 ≤ 1000000) := by show _ ≤ _; omega
  have HN2 : Hid ((n + 1) * 4 ≤ 140737488355328) := by show _ ≤ _; omega
  have HKE : Hid (∀ {W : World}, DM w0 W K → RowE 34 1 (.slice A n cap) n (msL K.s.ms) K.mo) := fun h => by have := h.km; rw [hn, hev] at this; exact this
  have HE3 : Hid (K.E[5]? = some ((Value.slice A n cap).ownBlock, K.mo)) := by show _ = _; rw [← hev]; rfl
  have HEB : Hid (K.mv.ownBlock = (Value.slice A n cap).ownBlock) := by show _ = _; rw [hev]
  have HNC : Hid (some kc ≠ (Value.slice A n cap).ownBlock) := fun e => by
    have h1 : K.E[5]? = some (some K.c, K.mo) := by rw [HE3.out, ← e, hkc]
    have := h.bu.inj 0 5 K.c _ _ rfl h1
    omega
  have HR7 : Hid (∀ (v : Value) (o : Obj), RowE 34 1 v (n + 1) (msL K.s.ms ++ [.int .u32 u]) o → RowE 34 1 v (K.s.ms.length + 1) (msL K.s.ms ++ [.int .u32 u]) o) := fun v o R => by rw [hn]; exact R
  have hok2 : Ok1 K.C m (10 * m) { K.s with ms := K.s.ms ++ [u] } := ⟨hok.L, hok.ll, hok.p, hok.pr, hok.ck, by show (K.s.ms ++ [u]).length ≤ 1000; rw [List.length_append]; show K.s.ms.length + 1 ≤ _; omega, fun x hx => (List.mem_append.1 hx).elim (hok.mu x) (fun e => by obtain rfl := List.mem_singleton.1 e; exact hu), hok.es⟩
  have HHO : Hid (∀ W, GoesD w0 w K W { K.s with ms := K.s.ms ++ [u] } → Calls Tryz.prog 88 #[pB kc] W fun en w' => en = .returned (.tuple #[]) ∧ GoesD w0 w K w' (held K.C { K.s with ms := K.s.ms ++ [u] })) := fun W g => by
    have := held_goes g K.C.n rfl h8 h0N hok2.p (fun x hx => (hok2.pr x hx).2.2.1) hok2.ms (by have := hok2.es; omega) hkc
    exact this
  have BA := Lib.hid ((Below.refl w.heap.size w).alloc (Nat.le_refl _) (Obj.cells #[.int .u32 u] 34))
  have H3 := Lib.hid (HH.out.belows BA.out)
  have HS6 : Hid ((w.alloc (Obj.cells #[.int .u32 u] 34)).cell? ⟨kc, 16, none⟩ = some (.slice A n cap) ∧ (w.alloc (Obj.cells #[.int .u32 u] 34)).frozen? ⟨kc, 16, none⟩ = false) := ⟨by have := H3.out.cell 16 _ rfl; rw [hkc, hev] at this; exact this, by rw [← hkc]; exact H3.out.fz 16⟩
  clear h hn hev hkc hok hok2 hu h8
  go_enter Tryz.func28, Tryz.ntmps28
  go_wp2_with (first
    | (refine wpList_append_bu2 (w0 := w0) (E := K.E) (t := 34) (size := 1) (n := n) (v := .slice A n cap) (xs := msL K.s.ms) (o := K.mo) rfl (.tmp 14) (.tmp 16) 102 rfl (.int .u32 0) 4 Tryz.underlying102 u32_info rfl (by decide) H3.out.bu (HKE.out H3.out) 5 HE3.out rfl _ 1 1 [.int .u32 u] rfl rfl (cell_one_new _ _ _) (by simp [Value.oneCell']) HN1.out HN2.out (by decide) ?_; intro v7 w7 o7 k7 R7 hk7 B7 g7 n7; obtain ⟨A7, c7, rfl, -, -⟩ := R7.val; have hg7 := H3.out.push_mark _ o7 u k7 hk7 (HR7.out _ _ R7) B7 (by rw [HEB.out]; exact g7) (by rw [HEB.out]; exact n7); rw [HKC.out] at hg7; have G7 := Lib.hid (goesd_then (Lv.of_below BA.out) (fun k hk => .inl hk) rfl rfl hg7); have q7 := gr_cell1 g7 HS6.out.1 HNC.out; have f7 := gr_fz1 g7 HS6.out.1 HS6.out.2 HNC.out; clear R7 hk7 B7 g7 n7 hg7)
    | (go_at_call 88; (with_reducible refine (HHO.out _ G7.out).mono ?_); rintro en w8 ⟨rfl, hg8⟩; have HG8 := Lib.hid hg8; clear hg8))
  go_end0
  exact ⟨rfl, HG8.out⟩
abbrev Md := Nat × Value × List UInt8
def dmL (me : Nat) : List Md → List Value
  | [] => []
  | m :: r => .int .i64 (me : Int) :: .int .i64 (m.1 : Int) :: m.2.1 :: dmL me r
theorem dmL_len (me : Nat) : ∀ ms, (dmL me ms).length = ms.length * 3
  | [] => rfl
  | m :: r => by show (dmL me r).length + 1 + 1 + 1 = (r.length + 1) * 3; rw [dmL_len me r]; omega
theorem dmL_append (me : Nat) : ∀ a b, dmL me (a ++ b) = dmL me a ++ dmL me b
  | [], b => rfl
  | m :: r, b => by show _ :: _ :: _ :: dmL me (r ++ b) = _; rw [dmL_append me r b]; rfl
theorem dmL_get (me : Nat) : ∀ (ms : List Md) (i : Nat) (m : Md), ms[i]? = some m → (dmL me ms)[i * 3]? = some (.int .i64 (me : Int)) ∧ (dmL me ms)[i * 3 + 1]? = some (.int .i64 (m.1 : Int)) ∧ (dmL me ms)[i * 3 + 2]? = some m.2.1
  | [], i, m, h => by cases h
  | x :: r, 0, m, h => by obtain rfl := Option.some.inj h; exact ⟨rfl, rfl, rfl⟩
  | x :: r, i + 1, m, h => by
    have := dmL_get me r i m h
    rw [show (i + 1) * 3 = i * 3 + 1 + 1 + 1 by omega]
    exact this
def Rd (w : World) (base : Nat) (v u : Value) (l : List UInt8) : Prop := OB w base u l ∧ ∀ k, u.ownBlock = some k → v.ownBlock ≠ some k
structure DT (w : World) (base : Nat) (v : Value) (me : Nat) (ms : List Md) : Prop where
  row : w.ownsRow base 115 3 v ms.length (dmL me ms)
  rd : ∀ m ∈ ms, Rd w base v m.2.1 m.2.2
section
variable {w w' : World} {base me : Nat} {v u : Value} {l : List UInt8} {ms : List Md}
theorem Rd.grown (h : Rd w base v u l) (g : w.grownBy w' v.ownBlock) {v' : Value} (e : v'.ownBlock = v.ownBlock ∨ v'.ownBlock = some w.heap.size) : Rd w' base v' u l :=
  ⟨h.1.same fun k hk => g.block k (h.1.lt k hk).2 (fun e => h.2 k hk e.symm), fun k hk e2 => e.elim (fun e => h.2 k hk (e.symm.trans e2)) (fun e => by have := (h.1.lt k hk).2; have := Option.some.inj (e.symm.trans e2); omega)⟩
theorem Rd.belows (h : Rd w base v u l) (hb : Below w.heap.size w w') : Rd w' base v u l := ⟨h.1.below hb (Nat.le_refl _), h.2⟩
theorem Rd.of_own {b2 : Nat} (h : OB w b2 u l) (hb : base ≤ b2) (hv : ∀ k, v.ownBlock = some k → k < b2) : Rd w base v u l := ⟨h.less hb, fun k hk e => by have := h.ge k hk; have := hv k e; omega⟩
theorem DT.nil (w : World) (base me : Nat) : DT w base (.slice none 0 0) me [] := ⟨World.ownsRow_nil _ _ _ _, fun m hm => (by cases hm)⟩
theorem DT.lt (h : DT w base v me ms) : ∀ k, v.ownBlock = some k → base ≤ k ∧ k < w.heap.size := fun k hk => World.ownsRow.lt h.row k hk
theorem DT.belows (h : DT w base v me ms) (hb : Below w.heap.size w w') : DT w' base v me ms :=
  ⟨ownsRow_same h.row fun k hk => hb.block k (h.lt k hk).2, fun m hm => (h.rd m hm).belows hb⟩
theorem DT.keep (h : DT w base v me ms) (hs : ∀ k, base ≤ k → k < w.heap.size → w'.heap[k]? = w.heap[k]?) : DT w' base v me ms :=
  ⟨ownsRow_same h.row fun k hk => hs k (h.lt k hk).1 (h.lt k hk).2, fun m hm => ⟨(h.rd m hm).1.same fun k hk => hs k ((h.rd m hm).1.lt k hk).1 ((h.rd m hm).1.lt k hk).2, (h.rd m hm).2⟩⟩
theorem DT.snoc (h : DT w base v me ms) (t : Nat) (hu : Rd w base v u l) {v' : Value} (hr : w'.ownsRow base 115 3 v' (ms.length + 1) (dmL me ms ++ [.int .i64 (me : Int), .int .i64 (t : Int), u])) (g : w.grownBy w' v.ownBlock) (e : v'.ownBlock = v.ownBlock ∨ v'.ownBlock = some w.heap.size) : DT w' base v' me (ms ++ [(t, u, l)]) := by
  refine ⟨by rw [List.length_append, dmL_append]; exact hr, fun m hm => ?_⟩
  rcases List.mem_append.1 hm with hm | hm
  · exact (h.rd m hm).grown g e
  · obtain rfl := List.mem_singleton.1 hm
    exact hu.grown g e
theorem DT.form (h : DT w base v me ms) (n : Nat) (hn : ms.length = n) : ∃ A c, v = .slice A n c ∧ n ≤ c ∧ c ≤ maxLen := by
  subst hn
  rcases h.row.2 with ⟨h0, h1⟩ | ⟨g, cap, cur, hv, h1, h2, h3, h4, h5, h6⟩
  · exact ⟨none, 0, by rw [h0, h1], by omega, by unfold maxLen; omega⟩
  · exact ⟨_, cap, hv, h3, h4⟩
theorem DT.at (h : DT w base v me ms) {A : Option Addr} {n c : Nat} (hv : v = .slice A n c) (i : Nat) (m : Md) (hm : ms[i]? = some m) : ∃ (g : Nat) (B : Option Addr) (k d : Nat), A = some ⟨g, 0, none⟩ ∧ g < w.heap.size ∧ w.cell? ⟨g, i * 3, none⟩ = some (.int .i64 (me : Int)) ∧ w.cell? ⟨g, i * 3 + 1, none⟩ = some (.int .i64 (m.1 : Int)) ∧ w.cell? ⟨g, i * 3 + 2, none⟩ = some (.slice B k d) ∧ m.2.2.length = k ∧ k ≤ d ∧ d ≤ maxLen ∧ RB w w.heap.size B m.2.2 := by
  have hi : i < ms.length := (List.getElem?_eq_some_iff.1 hm).1
  rcases h.row.2 with ⟨h0, h1⟩ | ⟨g, cap, cur, hv', h1, h2, h3, h4, h5, h6⟩
  · omega
  · rw [hv] at hv'
    injection hv' with e1 e2 e3
    obtain ⟨q0, q1, q2⟩ := dmL_get me ms i m hm
    obtain ⟨B, d, e5, e7, e8, hr⟩ := (h.rd m (List.mem_of_getElem? hm)).1.form_n m.2.2.length rfl
    rw [e5] at q2
    have key : ∀ j x, (dmL me ms)[j]? = some x → w.cell? ⟨g, j, none⟩ = some x := fun j x hj => by
      have hj2 : j < ms.length * 3 := by have := (List.getElem?_eq_some_iff.1 hj).1; rw [dmL_len] at this; exact this
      rw [cell_of_row w g j _ _ _ h2]
      rw [← h6, List.getElem?_take_of_lt hj2, Array.getElem?_toList] at hj
      exact hj
    exact ⟨g, B, m.2.2.length, d, e1, (Array.getElem?_eq_some_iff.1 h2).1, key _ _ q0, key _ _ q1, key _ _ q2, rfl, e7, e8, hr⟩
end
def DTells (w : World) (base : Nat) (v : Value) (me : Nat) (xs : List (Nat × List UInt8)) : Prop := ∃ ms, DT w base v me ms ∧ ms.map (fun m => (m.1, m.2.2)) = xs
theorem DTells.belows {w w' : World} {base me : Nat} {v : Value} {xs : List (Nat × List UInt8)} (h : DTells w base v me xs) (hb : Below w.heap.size w w') : DTells w' base v me xs := by
  obtain ⟨ms, h1, h2⟩ := h; exact ⟨ms, h1.belows hb, h2⟩
theorem DTells.keep {w w' : World} {base me : Nat} {v : Value} {xs : List (Nat × List UInt8)} (h : DTells w base v me xs) (hs : ∀ k, base ≤ k → k < w.heap.size → w'.heap[k]? = w.heap[k]?) : DTells w' base v me xs := by
  obtain ⟨ms, h1, h2⟩ := h; exact ⟨ms, h1.keep hs, h2⟩
theorem DTells.nil (w : World) (base me : Nat) : DTells w base (.slice none 0 0) me [] := ⟨[], DT.nil _ _ _, rfl⟩
abbrev dmO (me t : Int) (u : Value) : Obj := .cells #[.int .i64 me, .int .i64 t, u] 115
theorem dm_info : ∃ i0, Tryz.prog.info? 115 = some i0 ∧ i0.zero = some (.agg #[.int .i64 0, .int .i64 0, .slice none 0 0]) ∧ i0.size = 3 ∧ i0.bytes = 40 :=
  info_parts (show (Tryz.prog.info? 115).map (fun i => (i.zero, i.size, i.bytes)) = some (some (.agg #[.int .i64 0, .int .i64 0, .slice none 0 0]), 3, 40) from by kernel_rfl)
theorem wp_append_dm {op : Oper} {a : Act} {Kq : Act → World → Prop} {Q : Exit → Act → World → Prop} {X : World} (s x : Operand) (ho : op.op = .call { callee := .builtin .append, args := #[s, x], argTypes := #[41, 41] })
    (base : Nat) (v : Value) (me : Nat) (ms : List Md) (t : Nat) (u : Value) (l : List UInt8) (hs : a.eval s = v) (h : DT X base v me ms) (P : Nat) (hx : a.eval x = .slice (some ⟨P, 0, none⟩) 1 1) (hP : X.heap[P]? = some (dmO (me : Int) (t : Int) u)) (hu : Rd X base v u l) (hms : ms.length + 1 ≤ 1000000) (hbase : base ≤ X.heap.size)
    (hq : ∀ v' w', DT w' base v' me (ms ++ [(t, u, l)]) → X.grownBy w' v.ownBlock → (v'.ownBlock = v.ownBlock ∨ v'.ownBlock = some X.heap.size) → Kq (a.put op.dst v') w') : op.wp Tryz.prog a X Kq Q := by
  obtain ⟨i0, hi0, hz0, hz1, hz2⟩ := dm_info
  have hu1 : u.oneCell' = true := by obtain ⟨A, c, rfl, -, -, -⟩ := hu.1.form_n _ rfl; rfl
  obtain ⟨v', w', hrun, h2, h3, h4, h5⟩ := run_append_own_at (P := Tryz.prog) X base 41 op.type 115 i0 _ 3 40 Tryz.underlying41 hi0 hz0 hz1 hz2 rfl (by decide) v ms.length _ h.row ⟨P, 0, none⟩ 1 1 [.int .i64 (me : Int), .int .i64 (t : Int), u] rfl (fun j y hj => by
    rw [Addr.add_lit, Nat.zero_add, cell_of_row _ _ _ _ _ _ hP]
    simpa using hj) (by intro y hy; simp only [List.mem_cons, List.not_mem_nil, or_false] at hy; rcases hy with rfl | rfl | rfl; rfl; rfl; exact hu1) (by unfold maxLen; omega) (by omega) hbase
  unfold Oper.wp execOp
  simp only [ho, resolve, invoke, builtin, Sem.run_bind, Sem.run_pure, Result.andThen_ok, List.map_toArray, List.map_cons, List.map_nil, hs, hx, hrun]
  exact hq v' w' (h.snoc t hu h2 h3 h5) h3 h5
theorem Tells.own {w : World} {base me : Nat} {v : Value} {xs : List (Nat × List UInt8)} (h : Tells w base v me xs) (n : Nat) (hn : xs.length = n) : ∃ A c, v = .slice A n c ∧ n ≤ c ∧ c ≤ maxLen ∧ ∀ (j tt : Nat) (l : List UInt8), xs[j]? = some (tt, l) → ∃ (g : Nat) (B : Option Addr) (d : Nat), A = some ⟨g, 0, none⟩ ∧ g < w.heap.size ∧ w.cell? ⟨g, j * 3, none⟩ = some (.int .i64 (me : Int)) ∧ w.cell? ⟨g, j * 3 + 1, none⟩ = some (.int .i64 (tt : Int)) ∧ w.cell? ⟨g, j * 3 + 2, none⟩ = some (.slice B l.length d) ∧ OB w base (.slice B l.length d) l := by
  subst hn
  obtain ⟨ms, h1, h2⟩ := h
  have hl : ms.length = xs.length := by have := congrArg List.length h2; simpa using this
  obtain ⟨A, cap, hv, hc, hm⟩ := h1.wr.form xs.length hl
  refine ⟨A, cap, hv, hc, hm, fun j tt l hj => ?_⟩
  have hjx := (List.getElem?_eq_some_iff.1 hj).1
  obtain ⟨g, hA, a0, a1, a2⟩ := (hv ▸ h1.wr).at j (by omega)
  have e := congrArg (·[j]?) h2
  simp only [List.getElem?_map, hj, List.getElem?_eq_getElem (show j < ms.length by omega), Option.map_some] at e
  have e2 := Option.some.inj e
  injection e2 with e3 e4
  injection e4 with e4 e5
  obtain ⟨ho, -⟩ := h1.ob ms[j] (List.getElem_mem _)
  obtain ⟨B, c, hB, q1, q2, q3⟩ := ho.form_n l.length (by rw [e5])
  rw [hB] at a2 ho
  rw [e3] at a0; rw [e4] at a1; rw [e5] at ho
  exact ⟨g, B, c, hA, cell_lt a0, a0, a1, a2, ho⟩
set_option maxHeartbeats 4000000 in
theorem mails_any (w : World) (base me : Nat) (v : Value) (xs : List (Nat × List UInt8)) (h : Tells w base v me xs) (hx8 : xs.length ≤ 100) (hbase : base ≤ w.heap.size) :
    Calls Tryz.prog 19 #[v] w fun e w' => ∃ v', e = .returned v' ∧ DTells w' base v' me xs ∧ Below w.heap.size w w' := by
  obtain ⟨n, hn⟩ : ∃ n, xs.length = n := ⟨_, rfl⟩
  obtain ⟨A, cap, rfl, -, -, hat⟩ := h.own n hn
  have HAT := Lib.hid hat; have HN := Lib.hid hn; have HBS := Lib.hid hbase
  rw [hn] at hx8
  clear h hat hn hbase
  go_enter Tryz.func19, Tryz.ntmps19
  go_wp2_with fail
  go_loopw [3, 4] (fun u i wr => ∃ (k : Nat) (uu : Value) (ms : List Md), i = .int .i64 (k : Int) ∧ uu = u ∧ k ≤ n ∧ Hid (DT wr base uu me ms) ∧ Hid (ms.map (fun m => (m.1, m.2.2)) = xs.take k) ∧ Hid (Below w.heap.size w wr) ∧ Hid (∀ j, uu.ownBlock = some j → w.heap.size ≤ j)) (fun _ i _ => n - (intOf i).toNat)
  case atStart => exact ⟨0, _, [], rfl, rfl, by omega, DT.nil _ _ _, rfl, Below.refl _ _, fun j hj => by cases hj⟩
  case round =>
    obtain ⟨k, vv, ms, rfl, rfl, hk, HD, HM, HB, HGE⟩ := hrel
    by_cases hlt : k < n
    · obtain ⟨⟨tt, l⟩, hx⟩ : ∃ p, xs[k]? = some p := ⟨_, List.getElem?_eq_getElem (by rw [HN.out]; exact hlt)⟩
      obtain ⟨g, B, d, rfl, hg, a0, a1, a2, hr⟩ := HAT.out k tt l hx
      obtain ⟨L, hL⟩ : ∃ L, l.length = L := ⟨_, rfl⟩
      rw [hL] at a2 hr
      have HCC : Hid (∀ W, Below w.heap.size w W → W.cell? ⟨g, k * 3, none⟩ = some (.int .i64 (me : Int)) ∧ W.cell? ⟨g, k * 3 + 1, none⟩ = some (.int .i64 (tt : Int)) ∧ W.cell? ⟨g, k * 3 + 2, none⟩ = some (.slice B L d)) := fun W hW => ⟨(hW.cell (p := ⟨g, k * 3, none⟩) hg).trans a0, (hW.cell (p := ⟨g, k * 3 + 1, none⟩) hg).trans a1, (hW.cell (p := ⟨g, k * 3 + 2, none⟩) hg).trans a2⟩
      have HRD : Hid (∀ W, Below w.heap.size w W → Rd W base vv (.slice B L d) l) := fun W hW => ⟨hr.below hW (Nat.le_refl _), fun j hj e => by have := (hr.lt j hj).2; have := HGE.out j e; omega⟩
      have HMS : Hid (ms.length + 1 ≤ 1000000) := by
        show _ ≤ _
        have := congrArg List.length HM.out
        rw [List.length_map, List.length_take, HN.out] at this
        omega
      have HTK : Hid (xs.take (k + 1) = xs.take k ++ [(tt, l)]) := by show _ = _; exact take_snoc xs k _ hx
      have hkn : (k : Int) < (n : Int) := by omega
      have hk2 : Hid (k + 1 ≤ n) := hlt
      have hms : Hid (n - (k + 1) < n - k) := by show _ < _; omega
      clear hx hg a0 a1 a2 hr hL
      go_wp2_with fail
      refine wp_region_held_drew (S := (fun w' => w'.cell? ⟨g, k * 3, none⟩ = some (.int .i64 (me : Int)) ∧ w'.cell? ⟨g, k * 3 + 1, none⟩ = some (.int .i64 (tt : Int)) ∧ w'.cell? ⟨g, k * 3 + 2, none⟩ = some (.slice B L d))) (by kernel_rfl) (HCC.out _ HB.out.drew) (fun hHeld => ?_)
      refine held_take (i := 0) (v := ?_) rfl (by kernel_rfl) (by kernel_rfl) (by kernel_rfl) (fun _ _ _ h => h) (by rfl) hHeld ?_ ?_
      rotate_left 1
      · (intro w hSw; (try dsimp only at hSw); go_simp; try (with_reducible rfl))
      try simp only [Act.put, nB, nC, nD]
      refine held_take (i := 1) (v := ?_) rfl (by kernel_rfl) (by kernel_rfl) (by kernel_rfl) (fun _ _ _ h => h) (by rfl) hHeld ?_ ?_
      rotate_left 1
      · (intro w hSw; (try dsimp only at hSw); go_simp; try (with_reducible rfl))
      try simp only [Act.put, nB, nC, nD]
      refine held_take (i := 2) (v := ?_) rfl (by kernel_rfl) (by kernel_rfl) (by kernel_rfl) (fun _ _ _ h => h) (by rfl) hHeld ?_ ?_
      rotate_left 1
      · (intro w hSw; (try dsimp only at hSw); go_simp; try (with_reducible rfl))
      try simp only [Act.put, nB, nC, nD]
      refine held_take (i := 3) (v := ?_) rfl (by kernel_rfl) (by kernel_rfl) (by kernel_rfl) (fun _ _ _ h => h) (by rfl) hHeld ?_ ?_
      rotate_left 1
      · (intro w hSw; (try dsimp only at hSw); go_simp; try (with_reducible rfl))
      try simp only [Act.put, nB, nC, nD]
      refine held_take (i := 4) (v := ?_) rfl (by kernel_rfl) (by kernel_rfl) (by kernel_rfl) (fun _ _ _ h => h) (by rfl) hHeld ?_ ?_
      rotate_left 1
      · (intro w hSw; (try dsimp only at hSw); go_simp; try (with_reducible rfl))
      try simp only [Act.put, nB, nC, nD]
      refine held_take (i := 5) (v := ?_) rfl (by kernel_rfl) (by kernel_rfl) (by kernel_rfl) (fun _ _ _ h => h) (by rfl) hHeld ?_ ?_
      rotate_left 1
      · (intro w hSw; (try dsimp only at hSw); go_simp; try (with_reducible rfl))
      try simp only [Act.put, nB, nC, nD]
      refine held_take (i := 6) (v := ?_) rfl (by kernel_rfl) (by kernel_rfl) (by kernel_rfl) (fun _ _ _ h => h) (by rfl) hHeld ?_ ?_
      rotate_left 1
      · (intro w hSw; (try dsimp only at hSw); go_simp; try (with_reducible rfl))
      try simp only [Act.put, nB, nC, nD]
      refine held_take (i := 7) (v := ?_) rfl (by kernel_rfl) (by kernel_rfl) (by kernel_rfl) (fun _ _ _ h => h) (by rfl) hHeld ?_ ?_
      rotate_left 1
      · (intro w hSw; (try dsimp only at hSw); go_simp; try (with_reducible rfl))
      try simp only [Act.put, nB, nC, nD]
      refine held_take (i := 8) (v := ?_) rfl (by kernel_rfl) (by kernel_rfl) (by kernel_rfl) (fun _ _ _ h => h) (by rfl) hHeld ?_ ?_
      rotate_left 1
      · (intro w hSw; (try dsimp only at hSw); go_simp; try (with_reducible rfl))
      try simp only [Act.put, nB, nC, nD]
      refine held_take (i := 9) (v := ?_) rfl (by kernel_rfl) (by kernel_rfl) (by kernel_rfl) (fun _ _ _ h => h) (by rfl) hHeld ?_ ?_
      rotate_left 1
      · (intro w hSw; (try dsimp only at hSw); go_simp; try (with_reducible rfl))
      try simp only [Act.put, nB, nC, nD]
      refine held_take (i := 10) (v := ?_) rfl (by kernel_rfl) (by kernel_rfl) (by kernel_rfl) (fun _ _ _ h => h) (by rfl) hHeld ?_ ?_
      rotate_left 1
      · (intro w hSw; (try dsimp only at hSw); go_simp; try (with_reducible rfl))
      try simp only [Act.put, nB, nC, nD]
      refine held_take (i := 11) (v := ?_) rfl (by kernel_rfl) (by kernel_rfl) (by kernel_rfl) (fun _ _ _ h => h) (by rfl) hHeld ?_ ?_
      rotate_left 1
      · (intro w hSw; (try dsimp only at hSw); go_simp; try (with_reducible rfl))
      try simp only [Act.put, nB, nC, nD]
      refine held_take (i := 12) (v := ?_) rfl (by kernel_rfl) (by kernel_rfl) (by kernel_rfl) (fun _ _ _ h => h) (by rfl) hHeld ?_ ?_
      rotate_left 1
      · (intro w hSw; (try dsimp only at hSw); go_simp; try (with_reducible rfl))
      try simp only [Act.put, nB, nC, nD]
      refine held_take (i := 13) (v := ?_) rfl (by kernel_rfl) (by kernel_rfl) (by kernel_rfl) (fun _ _ _ h => h) (by rfl) hHeld ?_ ?_
      rotate_left 1
      · (intro w hSw; (try dsimp only at hSw); go_simp; try (with_reducible rfl))
      try simp only [Act.put, nB, nC, nD]
      refine held_take (i := 14) (v := ?_) rfl (by kernel_rfl) (by kernel_rfl) (by kernel_rfl) (fun _ _ _ h => h) (by rfl) hHeld ?_ ?_
      rotate_left 1
      · (intro w hSw; (try dsimp only at hSw); go_simp; try (with_reducible rfl))
      try simp only [Act.put, nB, nC, nD]
      refine held_take (i := 15) (v := ?_) rfl (by kernel_rfl) (by kernel_rfl) (by kernel_rfl) (fun _ _ _ h => h) (by rfl) hHeld ?_ ?_
      rotate_left 1
      · (intro w hSw; (try dsimp only at hSw); go_simp; try (with_reducible rfl))
      try simp only [Act.put, nB, nC, nD]
      refine held_take (i := 16) (v := ?_) rfl (by kernel_rfl) (by kernel_rfl) (by kernel_rfl) (fun _ _ _ h => h) (by rfl) hHeld ?_ ?_
      rotate_left 1
      · (intro w hSw; (try dsimp only at hSw); go_simp; try (with_reducible rfl))
      try simp only [Act.put, nB, nC, nD]
      refine held_one (i := 17) rfl (by kernel_rfl) (by rfl) (fun K hK => ?_)
      go_simp
      have HA8 := Lib.hid ((Below.refl wr.drew.heap.size wr.drew).alloc (Nat.le_refl _) (dmO (me : Int) (tt : Int) (.slice B L d)))
      have HB8 := Lib.hid (HB.out.drew.trans (HA8.out.mono HB.out.drew.size))
      refine hK.out _ _ (HCC.out _ HB8.out) (fun hHeld2 => ?_)
      clear hK K hHeld; have hHeld := hHeld2; clear hHeld2
      try simp only [Act.put, nB, nC, nD]
      refine held_one (i := 18) rfl (by kernel_rfl) (by rfl) (fun K hK => ?_)
      refine wp_append_dm (.tmp 11) (.tmp 28) (by rfl) base vv me ms tt (.slice B L d) l (by rfl) (HD.out.belows ((Below.refl _ _).drew.trans (HA8.out.mono (by simp)))) wr.drew.heap.size (by rfl) (heap_alloc_new _ _) (HRD.out _ HB8.out) HMS.out (Nat.le_trans HBS.out HB8.out.size) ?_
      intro v9 w9 r9 g9 e9
      have HGE9 : Hid (∀ j, v9.ownBlock = some j → w.heap.size ≤ j) := fun j hj => e9.elim (fun e => HGE.out j (e.symm.trans hj)) (fun e => by have h1 := (Below.refl wr.drew.heap.size wr.drew).size; have h2 := HB8.out.size; have h3 := Option.some.inj (e.symm.trans hj); rw [← h3]; exact h2)
      have HD9 := Lib.hid r9
      have HB9 := Lib.hid (HB8.out.grown g9 HB8.out.size HGE.out)
      clear r9 g9 e9
      refine hK.out _ _ (HCC.out _ HB9.out) (fun hHeld2 => ?_)
      clear hK K hHeld; have hHeld := hHeld2; clear hHeld2
      try simp only [Act.put, nB, nC, nD]
      refine held_one (i := 19) rfl (by kernel_rfl) (by rfl) (fun K hK => ?_)
      go_simp
      refine hK.out _ _ (hHeld) (fun hHeld2 => ?_)
      clear hK K hHeld; have hHeld := hHeld2; clear hHeld2
      try simp only [Act.put, nB, nC, nD]
      refine wpAnyH_done (by kernel_rfl) ?_ _
      clear hHeld
      have HMP : Hid ((ms ++ [(tt, Value.slice B L d, l)]).map (fun m => (m.1, m.2.2)) = xs.take (k + 1)) := by show _ = _; rw [List.map_append, HM.out, HTK.out]; rfl
      go_wp2_with fail
      go_roundw
      case rel => exact ⟨k + 1, _, _, by go_num, rfl, hk2.out, HD9, HMP, HB9, HGE9⟩
      case measure => simp [intOf]; have := hms.out; omega
    · obtain rfl : n = k := by omega
      go_wp2_with fail
      go_ret
      exact ⟨_, rfl, ⟨ms, HD.out, by rw [HM.out, List.take_of_length_le (by rw [HN.out]; exact Nat.le_refl _)]⟩, HB.out⟩
set_option maxHeartbeats 4000000 in
theorem eqmails_same (w : World) (b1 b2 me : Nat) (v1 v2 : Value) (xs : List (Nat × List UInt8)) (h1 : DTells w b1 v1 me xs) (h2 : DTells w b2 v2 me xs) (hx8 : xs.length ≤ 100000) :
    Calls Tryz.prog 18 #[v1, v2] w fun e w' => e = .returned (.bool true) ∧ Below w.heap.size w w' := by
  obtain ⟨m1, d1, e1⟩ := h1
  obtain ⟨m2, d2, e2⟩ := h2
  obtain ⟨n, hn⟩ : ∃ n, xs.length = n := ⟨_, rfl⟩
  have hn1 : m1.length = n := by rw [← hn, ← e1, List.length_map]
  have hn2 : m2.length = n := by rw [← hn, ← e2, List.length_map]
  obtain ⟨A1, c1, rfl, -, -⟩ := d1.form n hn1
  obtain ⟨A2, c2, rfl, -, -⟩ := d2.form n hn2
  have HE : Hid (∀ k, k < n → ∃ (tt : Nat) (s : ByteArray) (g1 g2 : Nat) (B1 B2 : Option Addr) (k1 k2 d1 d2 : Nat), A1 = some ⟨g1, 0, none⟩ ∧ A2 = some ⟨g2, 0, none⟩ ∧ ∀ W, Below w.heap.size w W → (W.cell? ⟨g1, k * 3, none⟩ = some (.int .i64 (me : Int)) ∧ W.cell? ⟨g1, k * 3 + 1, none⟩ = some (.int .i64 (tt : Int)) ∧ W.cell? ⟨g1, k * 3 + 2, none⟩ = some (.slice B1 k1 d1)) ∧ (W.cell? ⟨g2, k * 3, none⟩ = some (.int .i64 (me : Int)) ∧ W.cell? ⟨g2, k * 3 + 1, none⟩ = some (.int .i64 (tt : Int)) ∧ W.cell? ⟨g2, k * 3 + 2, none⟩ = some (.slice B2 k2 d2)) ∧ (convert 33 9 (.slice B1 k1 d1)).run Tryz.prog W = .ok (.string s) W ∧ (convert 33 9 (.slice B2 k2 d2)).run Tryz.prog W = .ok (.string s) W) := fun k hk => by
    obtain ⟨x1, hx1⟩ : ∃ x, m1[k]? = some x := ⟨_, List.getElem?_eq_getElem (by omega)⟩
    obtain ⟨x2, hx2⟩ : ∃ x, m2[k]? = some x := ⟨_, List.getElem?_eq_getElem (by omega)⟩
    have q1 : xs[k]? = some (x1.1, x1.2.2) := by rw [← e1, List.getElem?_map, hx1]; rfl
    have q2 : xs[k]? = some (x2.1, x2.2.2) := by rw [← e2, List.getElem?_map, hx2]; rfl
    have q := Option.some.inj (q1.symm.trans q2)
    injection q with qa qb
    obtain ⟨g1, B1, k1, dd1, ea1, hg1, a1, a2, a3, a4, -, -, a7⟩ := d1.at rfl k x1 hx1
    obtain ⟨g2, B2, k2, dd2, ea2, hg2, b1, b2, b3, b4, -, -, b7⟩ := d2.at rfl k x2 hx2
    rw [← qa] at b2
    refine ⟨x1.1, str x1.2.2, g1, g2, B1, B2, k1, k2, dd1, dd2, ea1, ea2, fun W hW => ⟨⟨(hW.cell (p := ⟨g1, k * 3, none⟩) hg1).trans a1, (hW.cell (p := ⟨g1, k * 3 + 1, none⟩) hg1).trans a2, (hW.cell (p := ⟨g1, k * 3 + 2, none⟩) hg1).trans a3⟩, ⟨(hW.cell (p := ⟨g2, k * 3, none⟩) hg2).trans b1, (hW.cell (p := ⟨g2, k * 3 + 1, none⟩) hg2).trans b2, (hW.cell (p := ⟨g2, k * 3 + 2, none⟩) hg2).trans b3⟩, conv_rb (a7.below hW) k1 dd1 a4, ?_⟩⟩
    rw [qb]
    exact conv_rb (b7.below hW) k2 dd2 b4
  rw [hn] at hx8
  clear d1 d2 e1 e2 hn hn1 hn2
  go_enter Tryz.func18, Tryz.ntmps18
  go_wp2_with fail
  go_loopw [5] (fun i wr => ∃ (k : Nat), i = .int .i64 (k : Int) ∧ k ≤ n ∧ Hid (Below w.heap.size w wr)) (fun i _ => n - (intOf i).toNat)
  case atStart => exact ⟨0, rfl, by omega, Below.refl _ _⟩
  case round =>
    obtain ⟨k, rfl, hk, HB⟩ := hrel
    by_cases hlt : k < n
    · obtain ⟨tt, s, g1, g2, B1, B2, k1, k2, d1, d2, rfl, rfl, hW⟩ := HE.out k hlt
      obtain ⟨⟨a0, a1, a2⟩, ⟨b0, b1, b2⟩, q1, q2⟩ := hW wr HB.out
      obtain ⟨-, -, q3, q4⟩ := hW wr.drew HB.out.drew
      have hkn : (k : Int) < (n : Int) := by omega
      have hk2 : Hid (k + 1 ≤ n) := hlt
      have hms : Hid (n - (k + 1) < n - k) := by show _ < _; omega
      clear hW
      go_wp2_with fail
      go_big_region
      go_wp2_with fail
      go_roundw
      case rel => exact ⟨k + 1, by go_num, hk2.out, HB.out.drew⟩
      case measure => simp [intOf]; have := hms.out; omega
    · obtain rfl : n = k := by omega
      go_wp2_with fail
      go_ret
      exact ⟨rfl, HB.out⟩
theorem raw_size : (Tryz.prog.info? 119).map (·.size) = some 3 := by kernel_rfl
theorem run_load_raw (w : World) (b o : Nat) (x y z : Int) (h0 : w.cell? ⟨b, o, none⟩ = some (.int .i64 x)) (h1 : w.cell? ⟨b, o + 1, none⟩ = some (.int .i64 y)) (h2 : w.cell? ⟨b, o + 2, none⟩ = some (.int .i64 z)) : (loadVar 119 ⟨b, o, none⟩).run Tryz.prog w = .ok (.agg #[.int .i64 x, .int .i64 y, .int .i64 z]) w := by
  have hl : (loadCells ⟨b, o, none⟩ 3).run Tryz.prog w = .ok [Value.int .i64 x, .int .i64 y, .int .i64 z].toArray w :=
    run_loadCells_list (P := Tryz.prog) w ⟨b, o, none⟩ [Value.int .i64 x, .int .i64 y, .int .i64 z] (fun j v hv => by
      rw [Addr.add_lit]
      match j, hv with
      | 0, hv => cases hv; exact h0
      | 1, hv => cases hv; exact h1
      | 2, hv => cases hv; exact h2
      | n + 3, hv => simp at hv)
  have hq := raw_size
  cases hi : Tryz.prog.info? 119 with
  | none => rw [hi] at hq; simp at hq
  | some i =>
    have hs : i.size = 3 := by rw [hi] at hq; simpa using hq
    have hagg : (isAgg 119).run Tryz.prog w = .ok true w := by
      unfold isAgg
      rw [Sem.run_bind, run_underlying Tryz.underlying119 w]
      rfl
    simp [loadVar, Sem.run_bind, hagg, sizeOf, typeInfo, hi, hs, hl]
theorem exec_load_raw {S : World → Prop} {op : Oper} {a : Act} (x : Operand) (ho : op.op = .load 119 x) (b o : Nat) (hx : a.eval x = .pointer (some ⟨b, o, none⟩)) (k p f : Int) (hS : ∀ w, S w → w.cell? ⟨b, o, none⟩ = some (.int .i64 k) ∧ w.cell? ⟨b, o + 1, none⟩ = some (.int .i64 p) ∧ w.cell? ⟨b, o + 2, none⟩ = some (.int .i64 f)) (w : World) (hw : S w) :
    (execOp a.eval op).run Tryz.prog w = .ok (.value (.agg #[.int .i64 k, .int .i64 p, .int .i64 f])) w := by
  obtain ⟨h0, h1, h2⟩ := hS w hw
  have := run_load_raw w b o k p f h0 h1 h2
  unfold execOp
  simp only [ho, hx, Instr.loadAt, Instr.sureAddr, Sem.run_bind, Sem.run_pure, Result.andThen_ok, this]
set_option maxHeartbeats 4000000 in
theorem eqraws_same (w : World) (b1 b2 : Nat) (v1 v2 : Value) (es : List Ev) (h1 : RwO w b1 v1 es) (h2 : RwO w b2 v2 es) (hx8 : es.length ≤ 900000) :
    Calls Tryz.prog 31 #[v1, v2] w fun e w' => e = .returned (.bool true) ∧ Below w.heap.size w w' := by
  obtain ⟨n, hn⟩ : ∃ n, es.length = n := ⟨_, rfl⟩
  obtain ⟨A1, c1, rfl, -, -, t1⟩ := h1.at
  obtain ⟨A2, c2, rfl, -, -, t2⟩ := h2.at
  rw [hn]
  have HE : Hid (∀ k, k < n → ∃ (x y z : Int) (g1 g2 : Nat), A1 = some ⟨g1, 0, none⟩ ∧ A2 = some ⟨g2, 0, none⟩ ∧ ∀ W, Below w.heap.size w W → (W.cell? ⟨g1, k * 3, none⟩ = some (.int .i64 x) ∧ W.cell? ⟨g1, k * 3 + 1, none⟩ = some (.int .i64 y) ∧ W.cell? ⟨g1, k * 3 + 2, none⟩ = some (.int .i64 z)) ∧ (W.cell? ⟨g2, k * 3, none⟩ = some (.int .i64 x) ∧ W.cell? ⟨g2, k * 3 + 1, none⟩ = some (.int .i64 y) ∧ W.cell? ⟨g2, k * 3 + 2, none⟩ = some (.int .i64 z))) := fun k hk => by
    obtain ⟨e, he⟩ : ∃ e, es[k]? = some e := ⟨_, List.getElem?_eq_getElem (by omega)⟩
    obtain ⟨g1, ea1, hg1, a1, a2, a3⟩ := t1 k e he
    obtain ⟨g2, ea2, hg2, b1, b2, b3⟩ := t2 k e he
    exact ⟨_, _, _, g1, g2, ea1, ea2, fun W hW => ⟨⟨(hW.cell (p := ⟨g1, k * 3, none⟩) hg1).trans a1, (hW.cell (p := ⟨g1, k * 3 + 1, none⟩) hg1).trans a2, (hW.cell (p := ⟨g1, k * 3 + 2, none⟩) hg1).trans a3⟩, ⟨(hW.cell (p := ⟨g2, k * 3, none⟩) hg2).trans b1, (hW.cell (p := ⟨g2, k * 3 + 1, none⟩) hg2).trans b2, (hW.cell (p := ⟨g2, k * 3 + 2, none⟩) hg2).trans b3⟩⟩⟩
  have HQ := Lib.hid eqraw_same
  rw [hn] at hx8
  clear h1 h2 t1 t2 hn
  go_enter Tryz.func31, Tryz.ntmps31
  go_wp2_with fail
  go_loopw [5] (fun i wr => ∃ (k : Nat), i = .int .i64 (k : Int) ∧ k ≤ n ∧ Hid (Below w.heap.size w wr)) (fun i _ => n - (intOf i).toNat)
  case atStart => exact ⟨0, rfl, by omega, Below.refl _ _⟩
  case round =>
    obtain ⟨k, rfl, hk, HB⟩ := hrel
    by_cases hlt : k < n
    · obtain ⟨x, y, z, g1, g2, rfl, rfl, hW⟩ := HE.out k hlt
      obtain ⟨⟨a0, a1, a2⟩, ⟨b0, b1, b2⟩⟩ := hW wr HB.out
      have hkn : (k : Int) < (n : Int) := by omega
      have hk2 : Hid (k + 1 ≤ n) := hlt
      have hms : Hid (n - (k + 1) < n - k) := by show _ < _; omega
      have HW := Lib.hid hW
      clear hW
      go_wp2_with fail
      refine wp_region_held_drew (S := (fun w' => (w'.cell? ⟨g1, k * 3, none⟩ = some (.int .i64 x) ∧ w'.cell? ⟨g1, k * 3 + 1, none⟩ = some (.int .i64 y) ∧ w'.cell? ⟨g1, k * 3 + 2, none⟩ = some (.int .i64 z)) ∧ (w'.cell? ⟨g2, k * 3, none⟩ = some (.int .i64 x) ∧ w'.cell? ⟨g2, k * 3 + 1, none⟩ = some (.int .i64 y) ∧ w'.cell? ⟨g2, k * 3 + 2, none⟩ = some (.int .i64 z)))) (by kernel_rfl) (HW.out _ HB.out.drew) (fun hHeld => ?_)
      refine held_take (i := 0) (v := ?_) rfl (by kernel_rfl) (by kernel_rfl) (by kernel_rfl) (fun _ _ _ h => h) (by rfl) hHeld ?_ ?_
      rotate_left 1
      · (intro w hSw; (try dsimp only at hSw); go_simp; try (with_reducible rfl))
      try simp only [Act.put, nB, nC, nD]
      refine held_take (i := 1) (v := ?_) rfl (by kernel_rfl) (by kernel_rfl) (by kernel_rfl) (fun _ _ _ h => h) (by rfl) hHeld ?_ ?_
      rotate_left 1
      · (intro w hSw; (try dsimp only at hSw); go_simp; try (with_reducible rfl))
      try simp only [Act.put, nB, nC, nD]
      refine held_take (i := 2) (v := ?_) rfl (by kernel_rfl) (by kernel_rfl) (by kernel_rfl) (fun _ _ _ h => h) (by rfl) hHeld ?_ ?_
      rotate_left 1
      · (intro w hSw; (try dsimp only at hSw); go_simp; try (with_reducible rfl))
      try simp only [Act.put, nB, nC, nD]
      refine held_take (i := 3) (v := .agg #[.int .i64 x, .int .i64 y, .int .i64 z]) rfl (by kernel_rfl) (by kernel_rfl) (by kernel_rfl) (fun _ _ _ h => h) (by rfl) hHeld (exec_load_raw (.tmp 19) rfl g1 (k * 3) (by rfl) x y z (fun w h => h.1)) ?_
      try simp only [Act.put, nB, nC, nD]
      refine held_take (i := 4) (v := ?_) rfl (by kernel_rfl) (by kernel_rfl) (by kernel_rfl) (fun _ _ _ h => h) (by rfl) hHeld ?_ ?_
      rotate_left 1
      · (intro w hSw; (try dsimp only at hSw); go_simp; try (with_reducible rfl))
      try simp only [Act.put, nB, nC, nD]
      refine held_take (i := 5) (v := ?_) rfl (by kernel_rfl) (by kernel_rfl) (by kernel_rfl) (fun _ _ _ h => h) (by rfl) hHeld ?_ ?_
      rotate_left 1
      · (intro w hSw; (try dsimp only at hSw); go_simp; try (with_reducible rfl))
      try simp only [Act.put, nB, nC, nD]
      refine held_take (i := 6) (v := ?_) rfl (by kernel_rfl) (by kernel_rfl) (by kernel_rfl) (fun _ _ _ h => h) (by rfl) hHeld ?_ ?_
      rotate_left 1
      · (intro w hSw; (try dsimp only at hSw); go_simp; try (with_reducible rfl))
      try simp only [Act.put, nB, nC, nD]
      refine held_take (i := 7) (v := .agg #[.int .i64 x, .int .i64 y, .int .i64 z]) rfl (by kernel_rfl) (by kernel_rfl) (by kernel_rfl) (fun _ _ _ h => h) (by rfl) hHeld (exec_load_raw (.tmp 23) rfl g2 (k * 3) (by rfl) x y z (fun w h => h.2)) ?_
      try simp only [Act.put, nB, nC, nD]
      refine held_one (i := 8) rfl (by kernel_rfl) (by rfl) (fun K hK => ?_)
      go_simp
      refine (HQ.out x y z _).mono ?_
      rintro e w7 ⟨rfl, hb7⟩
      have HB9 := Lib.hid (HB.out.drew.trans (hb7.mono HB.out.drew.size))
      clear hb7
      refine hK.out _ _ (HW.out _ HB9.out) (fun hHeld2 => ?_)
      clear hK K hHeld; have hHeld := hHeld2; clear hHeld2
      try simp only [Act.put, nB, nC, nD]
      refine held_one (i := 9) rfl (by kernel_rfl) (by rfl) (fun K hK => ?_)
      go_simp
      refine hK.out _ _ (hHeld) (fun hHeld2 => ?_)
      clear hK K hHeld; have hHeld := hHeld2; clear hHeld2
      try simp only [Act.put, nB, nC, nD]
      refine wpAnyH_done (by kernel_rfl) ?_ _
      clear hHeld
      go_wp2_with fail
      go_roundw
      case rel => exact ⟨k + 1, by go_num, hk2.out, HB9.out⟩
      case measure => simp [intOf]; have := hms.out; omega
    · obtain rfl : n = k := by omega
      go_wp2_with fail
      go_ret
      exact ⟨rfl, HB.out⟩
def GoesO (w0 w : World) (K : Dm) (w' : World) (s' : Pl) (O : Nat → Prop) : Prop :=
  ∃ K', K'.s = s' ∧ K'.C = K.C ∧ K'.c = K.c ∧ DM w0 w' K' ∧ Lv w w' (DB K) ∧ (∀ k, DB K' k → DB K k ∨ w.heap.size ≤ k) ∧ ∀ k, O k → k < w'.heap.size ∧ ¬ DB K' k
section
variable {w0 w w1 w' : World} {K K1 : Dm} {s s' : Pl} {O : Nat → Prop}
theorem GoesO.goes (g : GoesO w0 w K w' s' O) : GoesD w0 w K w' s' := by obtain ⟨K1, a, b, c, d, e, f, -⟩ := g; exact ⟨K1, a, b, c, d, e, f⟩
theorem GoesO.start (h : DM w0 w K) (hb : Below w.heap.size w w1) (ho : ∀ k, O k → w.heap.size ≤ k ∧ k < w1.heap.size) : GoesO w0 w K w1 K.s O :=
  ⟨K, rfl, rfl, rfl, h.belows hb, Lv.of_below hb, fun k hk => .inl hk, fun k hk => ⟨(ho k hk).2, fun e => by have := (h.lt e).2; have := (ho k hk).1; omega⟩⟩
theorem goeso_then (h1 : Lv w w1 (DB K)) (h2 : ∀ k, DB K1 k → DB K k ∨ w.heap.size ≤ k) (h3 : ∀ k, O k → k < w1.heap.size ∧ ¬ DB K1 k) (hC : K1.C = K.C) (hc : K1.c = K.c) (g : GoesD w0 w1 K1 w' s') : GoesO w0 w K w' s' O ∧ Same O w1 w' := by
  obtain ⟨K', e1, e2, e3, g1, g2, g3⟩ := g
  refine ⟨⟨K', e1, e2.trans hC, e3.trans hc, g1, h1.trans g2 h2, fun k hk => (g3 k hk).elim (h2 k) (fun e => .inr (Nat.le_trans h1.size e)), fun k hk => ⟨Nat.lt_of_lt_of_le (h3 k hk).1 g2.size, fun e => (g3 k e).elim (h3 k hk).2 (fun e2 => by have := (h3 k hk).1; omega)⟩⟩, fun k hk => g2.block k (h3 k hk).1 (h3 k hk).2⟩
theorem GoesO.belows {w2 : World} (g : GoesO w0 w K w1 s O) (hb : Below w1.heap.size w1 w2) : GoesO w0 w K w2 s O ∧ Same O w1 w2 := by
  obtain ⟨K1, e1, e2, e3, H1, L1, N1, X1⟩ := g
  have := goeso_then L1 N1 X1 e2 e3 (H1.goes hb)
  rw [e1] at this
  exact this
theorem GoesO.less {O' : Nat → Prop} (g : GoesO w0 w K w1 s O) (h : ∀ k, O' k → O k) : GoesO w0 w K w1 s O' := by
  obtain ⟨K1, e1, e2, e3, H1, L1, N1, X1⟩ := g
  exact ⟨K1, e1, e2, e3, H1, L1, N1, fun k hk => X1 k (h k hk)⟩
end
theorem DM.all {w0 w : World} {K : Dm} (h : DM w0 w K) {c n hb ab db : Nat} (hc : K.c = c) (hn : K.C.n = n) (h1 : K.h = hb) (h2 : K.a = ab) (h3 : K.d = db) (i : Nat) (x : Pr) (hx : K.s.ps[i]? = some x) :
    (w.cell? ⟨c, 12, none⟩ = some (.slice (some ⟨hb, 0, none⟩) n n) ∧ w.cell? ⟨c, 13, none⟩ = some (.slice (some ⟨ab, 0, none⟩) n n) ∧ w.cell? ⟨c, 14, none⟩ = some (.slice (some ⟨db, 0, none⟩) n n)) ∧ (w.cell? ⟨hb, i, none⟩ = some (.int .i64 (x.he : Int)) ∧ w.frozen? ⟨hb, i, none⟩ = false) ∧ (w.cell? ⟨ab, i, none⟩ = some (.int .i64 (x.ha : Int)) ∧ w.frozen? ⟨ab, i, none⟩ = false) ∧
    (w.cell? ⟨db, i * 2, none⟩ = some (.int .i64 (x.fr : Int)) ∧ w.cell? ⟨db, i * 2 + 1, none⟩ = some (.int .u32 x.su) ∧ w.frozen? ⟨db, i * 2, none⟩ = false ∧ w.frozen? ⟨db, i * 2 + 1, none⟩ = false) := by
  subst hc; subst hn; subst h1; subst h2; subst h3
  obtain ⟨a0, a1, a2, a3, a4⟩ := h.peer i x hx
  exact ⟨⟨h.cell 12 _ rfl, h.cell 13 _ rfl, h.cell 14 _ rfl⟩, ⟨a0, h.fzh i⟩, ⟨a1, h.fza i⟩, a2, a3, h.fzd _, h.fzd _⟩
def UnpOwn : Prop := ∀ (A : Option Addr) (l : List UInt8) (n c : Nat) (w : World), RB w w.heap.size A l → l.length = n → n ≤ c → c ≤ maxLen → n ≤ 4096 → ∀ p : Pk, IsK l p →
    Calls Tryz.prog 86 #[.slice A n c] w fun e w' => ∃ (A2 : Option Addr) (n2 c2 : Nat), e = .returned (.tuple #[pkV p.k p.f p.t p.id p.fi A2 n2 c2 p.ac p.fr p.su, .bool true]) ∧ OB w' w.heap.size (.slice A2 n2 c2) p.l ∧ p.l.length = n2 ∧ Below w.heap.size w w'
theorem pk_laid {w w1 w3 : World} (hb : Below w.heap.size w w1) {o : Obj} (g : (w1.alloc o).grownBy w3 (some w1.heap.size)) : Below w.heap.size w w3 ∧ w1.heap.size < w3.heap.size ∧ w.heap.size ≤ w1.heap.size ∧ ∀ {v : Value} {l : List UInt8}, OB w1 w.heap.size v l → OB w3 w.heap.size v l := by
  have h1 := hb.alloc hb.size o
  refine ⟨h1.grown g h1.size (fun k e => by cases e; exact hb.size), Nat.lt_of_lt_of_le (by simp) g.size, hb.size, fun {v l} h => h.same fun k hk => ?_⟩
  have hl := (h.lt k hk).2
  exact (g.block k (by simp; omega) (fun e => by cases e; omega)).trans (Below.heap_alloc _ _ _ hl)
set_option maxHeartbeats 4000000 in
theorem doc_recv_closed (w : World) (kc : Nat) (hcl : w.cell? ⟨kc, 18, none⟩ = some (.bool true)) (v : Value) : Calls Tryz.prog 25 #[pB kc, v] w fun e w' => e = .returned (.int .i64 6) ∧ w = w' := by
  go_enter Tryz.func25, Tryz.ntmps25
  go_wp2_with fail
  go_ret
  exact ⟨rfl, rfl⟩
set_option maxHeartbeats 4000000 in
theorem doc_recv_none (w0 w : World) (K : Dm) (h : DM w0 w K) {kc : Nat} (hkc : K.c = kc) (hcf : K.s.cl = false) (A : Option Addr) (l : List UInt8) (n c : Nat) (hr : RB w w.heap.size A l) (hn : l.length = n) (hc : n ≤ c) (hm : c ≤ maxLen) (hl : n ≤ 4096) (ho : ∀ p, ¬ IsK l p) :
    Calls Tryz.prog 25 #[pB kc, .slice A n c] w fun e w' => e = .returned (.int .i64 1) ∧ GoesD w0 w K w' K.s := by
  have hcl : w.cell? ⟨kc, 18, none⟩ = some (.bool false) := by rw [← hkc, ← hcf]; exact h.cell 18 _ rfl
  have HU := Lib.hid (unp_no A l n c w hr hn hc hm hl ho)
  have HH := Lib.hid h
  have HC : Hid (∀ W, Below w.heap.size w W → W.cell? ⟨kc, 0, none⟩ = some (.int .i64 (K.C.n : Int)) ∧ W.cell? ⟨kc, 1, none⟩ = some (.int .i64 (K.C.me : Int)) ∧ W.cell? ⟨kc, 2, none⟩ = some (.int .i64 K.C.id)) := fun W hW => by rw [← hkc]; exact ⟨(h.belows hW).cell 0 _ rfl, (h.belows hW).cell 1 _ rfl, (h.belows hW).cell 2 _ rfl⟩
  clear h hkc hcf hr hn ho
  go_enter Tryz.func25, Tryz.ntmps25
  go_wp2_with (first
    | (go_at_call 86; (refine (HU.out).mono ?_); rintro en w1 ⟨k, f, t, id, fi, A2, n2, c2, ac, fr, su, rfl, hb⟩; have HB1 := Lib.hid hb; clear hb)
    | (refine wpList_store_pk rfl (.tmp 5) (.tmp 14) rfl w1.heap.size (by rfl) (PkM.new w1 0 0 0 0 0 none 0 0 0 0 0) (by rfl) ?_; intro w3 p3 z3 g3; have HL3 := Lib.hid (pk_laid HB1.out g3); have HK3 := Lib.hid p3; clear p3 z3 g3))
  (try simp only [Act.put])
  obtain ⟨a0, a1, a2⟩ := HC.out w3 HL3.out.1
  obtain ⟨q0, q1, q2, q3, -, -, -, -, -⟩ := HK3.out.c
  go_big_region
  go_wp2_with fail
  go_ret
  exact ⟨rfl, (HH.out.goes HL3.out.1).drew⟩
set_option maxHeartbeats 8000000 in
theorem doc_recv_other (UN : UnpOwn) (w0 w : World) (K : Dm) (h : DM w0 w K) {kc : Nat} (hkc : K.c = kc) (hcf : K.s.cl = false) (A : Option Addr) (l : List UInt8) (n c : Nat) (hr : RB w w.heap.size A l) (hn : l.length = n) (hc : n ≤ c) (hm : c ≤ maxLen) (hl : n ≤ 4096) (p : Pk) (ho : IsK l p) (hno : ¬ forMe K.C p) :
    Calls Tryz.prog 25 #[pB kc, .slice A n c] w fun e w' => e = .returned (.int .i64 1) ∧ GoesD w0 w K w' K.s := by
  have hcl : w.cell? ⟨kc, 18, none⟩ = some (.bool false) := by rw [← hkc, ← hcf]; exact h.cell 18 _ rfl
  have HU := Lib.hid (UN A l n c w hr hn hc hm hl p ho)
  have HH := Lib.hid h
  obtain ⟨N, hN⟩ : ∃ N, K.C.n = N := ⟨_, rfl⟩
  obtain ⟨me, hmq⟩ : ∃ me, K.C.me = me := ⟨_, rfl⟩
  obtain ⟨ID, hID⟩ : ∃ ID, K.C.id = ID := ⟨_, rfl⟩
  have HC : Hid (∀ W, Below w.heap.size w W → W.cell? ⟨kc, 0, none⟩ = some (.int .i64 (N : Int)) ∧ W.cell? ⟨kc, 1, none⟩ = some (.int .i64 (me : Int)) ∧ W.cell? ⟨kc, 2, none⟩ = some (.int .i64 ID)) := fun W hW => by rw [← hkc, ← hN, ← hmq, ← hID]; exact ⟨(h.belows hW).cell 0 _ rfl, (h.belows hW).cell 1 _ rfl, (h.belows hW).cell 2 _ rfl⟩
  unfold forMe at hno
  rw [hN, hmq, hID] at hno
  obtain ⟨k, f, t, id, fi, ac, fr, su, x⟩ := p
  dsimp only at hno HU
  clear h hkc hcf hr hn ho hN hmq hID
  by_cases ht : t = (me : Int)
  · subst ht
    by_cases hf : f < (N : Int)
    · have hid : (id == ID) = false := by simp; exact fun e => hno ⟨rfl, hf, e⟩
      have hid2 : (id != ID) = true := by simp; exact fun e => hno ⟨rfl, hf, e⟩
      have hfd : decide ((N : Int) ≤ f) = false := by simp; omega
      clear hno
      go_enter Tryz.func25, Tryz.ntmps25
      go_wp2_with (first
        | (go_at_call 86; (refine (HU.out).mono ?_); rintro en w1 ⟨A2, n2, c2, rfl, ho, hl2, hb⟩; have HB1 := Lib.hid hb; clear hb ho)
        | (refine wpList_store_pk rfl (.tmp 5) (.tmp 14) rfl w1.heap.size (by rfl) (PkM.new w1 0 0 0 0 0 none 0 0 0 0 0) (by rfl) ?_; intro w3 p3 z3 g3; have HL3 := Lib.hid (pk_laid HB1.out g3); have HK3 := Lib.hid p3; clear p3 z3 g3))
      (try simp only [Act.put])
      obtain ⟨a0, a1, a2⟩ := HC.out w3 HL3.out.1
      obtain ⟨q0, q1, q2, q3, -, -, -, -, -⟩ := HK3.out.c
      go_big_region
      go_wp2_with fail
      go_ret
      exact ⟨rfl, (HH.out.goes HL3.out.1).drew⟩
    · have hfd : (N : Int) ≤ f := by omega
      clear hno hf
      go_enter Tryz.func25, Tryz.ntmps25
      go_wp2_with (first
        | (go_at_call 86; (refine (HU.out).mono ?_); rintro en w1 ⟨A2, n2, c2, rfl, ho, hl2, hb⟩; have HB1 := Lib.hid hb; clear hb ho)
        | (refine wpList_store_pk rfl (.tmp 5) (.tmp 14) rfl w1.heap.size (by rfl) (PkM.new w1 0 0 0 0 0 none 0 0 0 0 0) (by rfl) ?_; intro w3 p3 z3 g3; have HL3 := Lib.hid (pk_laid HB1.out g3); have HK3 := Lib.hid p3; clear p3 z3 g3))
      (try simp only [Act.put])
      obtain ⟨a0, a1, a2⟩ := HC.out w3 HL3.out.1
      obtain ⟨q0, q1, q2, q3, -, -, -, -, -⟩ := HK3.out.c
      go_big_region
      go_wp2_with fail
      go_ret
      exact ⟨rfl, (HH.out.goes HL3.out.1).drew⟩
  · have ht1 : (t == (me : Int)) = false := by simp; exact ht
    have ht2 : (t != (me : Int)) = true := by simp; exact ht
    clear hno
    go_enter Tryz.func25, Tryz.ntmps25
    go_wp2_with (first
      | (go_at_call 86; (refine (HU.out).mono ?_); rintro en w1 ⟨A2, n2, c2, rfl, ho, hl2, hb⟩; have HB1 := Lib.hid hb; clear hb ho)
      | (refine wpList_store_pk rfl (.tmp 5) (.tmp 14) rfl w1.heap.size (by rfl) (PkM.new w1 0 0 0 0 0 none 0 0 0 0 0) (by rfl) ?_; intro w3 p3 z3 g3; have HL3 := Lib.hid (pk_laid HB1.out g3); have HK3 := Lib.hid p3; clear p3 z3 g3))
    (try simp only [Act.put])
    obtain ⟨a0, a1, a2⟩ := HC.out w3 HL3.out.1
    obtain ⟨q0, q1, q2, q3, -, -, -, -, -⟩ := HK3.out.c
    go_big_region
    go_wp2_with fail
    go_ret
    exact ⟨rfl, (HH.out.goes HL3.out.1).drew⟩
theorem Same.drew {O : Nat → Prop} (w : World) : Same O w w.drew := fun _ _ => rfl
theorem GoesO.drew {w0 w w1 : World} {K : Dm} {s : Pl} {O : Nat → Prop} (g : GoesO w0 w K w1 s O) : GoesO w0 w K w1.drew s O := (g.belows (Below.refl _ _).drew).1
theorem GoesO.be {w0 w w1 : World} {K : Dm} {s : Pl} {O : Nat → Prop} (g : GoesO w0 w K w1 s O) : w.heap.size ≤ w1.heap.size := by obtain ⟨K1, -, -, -, -, e, -⟩ := g; exact e.size
theorem ob_own {w : World} {base : Nat} {A : Option Addr} {n c : Nat} {l : List UInt8} (h : OB w base (.slice A n c) l) (h0 : 0 < l.length) : ∀ b off, A = some ⟨b, off, none⟩ → (Value.slice A n c).ownBlock = some b := fun b off e => by
  rcases h.2 with ⟨hv, h1⟩ | ⟨g, cap, cur, hv, h1, h2, -⟩
  · omega
  · injection hv with e1
    rw [e] at e1
    injection e1 with e1; injection e1 with e1 e2
    subst e1 e2
    rw [e]; rfl
theorem put_goes {w0 w w1 : World} {K : Dm} {s : Pl} {O : Nat → Prop} (g : GoesO w0 w K w1 s O) (F : Nat) (lF : List UInt8) (hlF : s.L[F]? = some lF) (hlF1 : lF.length ≤ 1000) (fi : Int) (A : Option Addr) (n c : Nat) (x : List UInt8) (hx : OB w1 w.heap.size (.slice A n c) x) (hox : ∀ k, (Value.slice A n c).ownBlock = some k → O k) (hn : x.length = n) (hn1 : n ≤ 1000) {kc : Nat} (hkc : K.c = kc) {N : Nat} (hN : s.L.length = N) (hsz : w0.heap.size ≤ w1.heap.size) :
    ∃ (g1 cap : Nat), w1.cell? ⟨kc, 10, none⟩ = some (.slice (some ⟨g1, 0, none⟩) N cap) ∧
      Calls Tryz.prog 87 #[.pointer (some ⟨g1, F, none⟩), .int .i64 fi, .slice A n c] w1 fun e w' => ∃ a b : Int, e = .returned (.tuple #[.int .i64 a, .int .i64 b]) ∧ GoesO w0 w K w' { s with L := s.L.set F (putP lF fi x).2.2 } O ∧ Same O w1 w' ∧ w'.cell? ⟨kc, 10, none⟩ = some (.slice (some ⟨g1, 0, none⟩) N cap) := by
  obtain ⟨K1, e1, e2, e3, H1, L1, N1, X1⟩ := g
  subst e1
  have hFl : F < K1.s.L.length := (List.getElem?_eq_some_iff.1 hlF).1
  obtain ⟨g1, cap, cur, hlv, -, -, hr, hcur⟩ := H1.lines (by omega) N hN
  obtain ⟨A0, c0, -, -, hm, -, -⟩ := H1.line_at hlv F lF hlF lF.length rfl
  have hlr := H1.lr
  rw [hlv] at hlr
  obtain ⟨q1, q2⟩ := hlr.line _ (List.mem_of_getElem? hm)
  have hcv : cur[F]? = some (.slice A0 lF.length c0) := by
    rw [hcur F (List.getElem?_eq_some_iff.1 hm).1, (List.getElem?_eq_some_iff.1 hm).2]
  have hgB : DB K1 g1 := .inl (.inl (by rw [hlv]; rfl))
  have hvB : ∀ k, (Value.slice A0 lF.length c0).ownBlock = some k → DB K1 k := fun k hk => .inl (.inr ⟨_, List.mem_of_getElem? hm, hk⟩)
  refine ⟨g1, cap, by rw [← hkc, ← e3, ← hlv]; exact H1.cell 10 _ rfl, ?_⟩
  obtain ⟨a, b, hab⟩ : ∃ a b, putP lF fi x = (a, b, (putP lF fi x).2.2) := ⟨_, _, rfl⟩
  have hcells := hx.cells
  refine (rput_far w1 g1 F cur _ lF x w0.heap.size fi A c n hr hcv q1 (fun e => q2 g1 e rfl) hcells (fun h0 b2 off e => ?_) hsz hn hlF1 hn1 a b _ hab).mono ?_
  · obtain ⟨-, hw⟩ := ob_where hx b2 off e
    have hob : (Value.slice A n c).ownBlock = some b2 := ob_own hx h0 b2 off e
    have ho := (X1 b2 (hox b2 hob)).2
    exact ⟨fun e2 => ho (e2 ▸ hgB), fun e2 => ho (hvB b2 e2)⟩
  · rintro e w' ⟨rfl, v', R, hO⟩
    have hg := H1.put_line hlv hr F _ lF hm v' (putP lF fi x).2.2 R hO
    obtain ⟨G, S⟩ := goeso_then L1 N1 X1 e2 e3 hg
    refine ⟨a, b, rfl, G, S, ?_⟩
    have hcD : DO K1 K1.c := by simp [DO, Dm.bl]
    have hb := R.block K1.c (H1.get hcD).2 (fun e => H1.far g1 (.inl (by rw [hlv]; rfl)) (e ▸ hcD)) (fun e => H1.far K1.c (.inr ⟨_, List.mem_of_getElem? hm, e⟩) hcD)
    rw [← hkc, ← e3, ← hlv]
    exact (World.cell?_of_block (a := ⟨K1.c, 10, none⟩) hb).trans (H1.cell 10 _ rfl)
set_option maxHeartbeats 8000000 in
theorem doc_recv_quit (UN : UnpOwn) (w0 w : World) (K : Dm) (h : DM w0 w K) {kc : Nat} (hkc : K.c = kc) (hcf : K.s.cl = false) (m : Nat) (hok : Ok K.C m K.s) (hm9 : m ≤ 10000) (h0 : 0 < K.C.n) (h8 : K.C.n ≤ 8) (hme : K.C.me < K.C.n) (A : Option Addr) (l : List UInt8) (n c : Nat) (hr : RB w w.heap.size A l) (hn : l.length = n) (hc : n ≤ c) (hm : c ≤ maxLen) (hl : n ≤ 4096) (p : Pk) (ho : IsK l p) (hfm : forMe K.C p) (hk : p.k ≠ 1) :
    Calls Tryz.prog 25 #[pB kc, .slice A n c] w fun e w' => e = .returned (.int .i64 0) ∧ GoesD w0 w K w' (held K.C (tellP K.C (hearP K.s p.f.toNat) p)) := by
  have hcl : w.cell? ⟨kc, 18, none⟩ = some (.bool false) := by rw [← hkc, ← hcf]; exact h.cell 18 _ rfl
  have HU := Lib.hid (UN A l n c w hr hn hc hm hl p ho)
  have HH := Lib.hid h
  have hmay := ho.1
  have hsu := ho.2.1
  unfold Pk.may mayC at hmay
  obtain ⟨⟨f0, f7, t0, t7, hft, -, -⟩, hkk⟩ := hmay
  obtain ⟨F, hF⟩ : ∃ F : Nat, p.f = F := ⟨p.f.toNat, by omega⟩
  obtain ⟨ac, hac⟩ : ∃ ac : Nat, p.ac = ac := ⟨p.ac.toNat, by omega⟩
  obtain ⟨fr, hfr⟩ : ∃ fr : Nat, p.fr = fr := ⟨p.fr.toNat, by omega⟩
  have hfm' := hfm
  unfold forMe at hfm'
  obtain ⟨N, hN⟩ : ∃ N, K.C.n = N := ⟨_, rfl⟩
  obtain ⟨me, hmq⟩ : ∃ me, K.C.me = me := ⟨_, rfl⟩
  obtain ⟨ID, hID⟩ : ∃ ID, K.C.id = ID := ⟨_, rfl⟩
  have hFN : F < N := by rw [← hN]; omega
  have hFme : F ≠ me := fun e => hft (by rw [hfm'.1, hF, hmq, e])
  have hFI : (F : Int) < (N : Int) := by omega
  have hFD : ¬ (N : Int) ≤ (F : Int) := by omega
  have hFE : decide ((N : Int) ≤ (F : Int)) = false := by simp; omega
  have hFG : decide (N ≤ F) = false := by simp; omega
  obtain ⟨x, hx⟩ := hok.at F (by rw [hN]; exact hFN)
  obtain ⟨ck, hck⟩ : ∃ ck, K.s.ck = ck := ⟨_, rfl⟩
  obtain ⟨kh, hkh⟩ : ∃ kh, K.h = kh := ⟨_, rfl⟩
  rw [hfm'.1, hfm'.2.2, hF, hac, hfr, hmq, hID] at HU
  have HC : Hid (∀ W, Below w.heap.size w W → (W.cell? ⟨kc, 0, none⟩ = some (.int .i64 (N : Int)) ∧ W.cell? ⟨kc, 1, none⟩ = some (.int .i64 (me : Int)) ∧ W.cell? ⟨kc, 2, none⟩ = some (.int .i64 ID)) ∧ W.cell? ⟨kc, 11, none⟩ = some (.int .i64 (ck : Int)) ∧ W.cell? ⟨kc, 12, none⟩ = some (.slice (some ⟨kh, 0, none⟩) N N) ∧ W.cell? ⟨kh, F, none⟩ = some (.int .i64 (x.he : Int)) ∧ W.frozen? ⟨kh, F, none⟩ = false) := fun W hW => by
    have hD := h.belows hW
    obtain ⟨⟨b0, -, -⟩, ⟨b1, b2⟩, -, -⟩ := hD.all hkc hN hkh rfl rfl F x hx
    rw [← hck, ← hmq, ← hID]
    refine ⟨?_, ?_, b0, b1, b2⟩
    · rw [← hkc, ← hN]; exact ⟨hD.cell 0 _ rfl, hD.cell 1 _ rfl, hD.cell 2 _ rfl⟩
    · rw [← hkc]; exact hD.cell 11 _ rfl
  have HHEAR : Hid (∀ W O, Below w.heap.size w W → (∀ k, O k → w.heap.size ≤ k ∧ k < W.heap.size) → GoesO w0 w K (W.setCell ⟨kh, F, none⟩ (.int .i64 (ck : Int))).drew.drew (hearP K.s p.f.toNat) O ∧ Same O W (W.setCell ⟨kh, F, none⟩ (.int .i64 (ck : Int))).drew.drew) := fun W O hW hO => by
    have := ((h.belows hW).set_he F x hx ck).drew.drew
    rw [hkh] at this
    have e : hearP K.s p.f.toNat = { K.s with ps := K.s.ps.set F { x with he := ck } } := by
      unfold hearP
      rw [hF, Int.toNat_natCast, modify_at _ _ _ _ hx, ← hck]
    rw [e]
    obtain ⟨K2, a1, a2, a3, a4, a5, a6, a7⟩ := GoesO.start h hW hO
    exact goeso_then (Lv.of_below hW) (fun k hk => .inl hk) (fun k hk => ⟨(hO k hk).2, fun e => by have := (h.lt e).2; have := (hO k hk).1; omega⟩) rfl rfl this
  obtain ⟨s1, hs1⟩ : ∃ s1, hearP K.s p.f.toNat = s1 := ⟨_, rfl⟩
  have ok1 : Ok1 K.C m (10 * m) s1 := by rw [← hs1]; exact hok.one.hear _
  rw [hs1] at HHEAR ⊢
  have hTK := ok1.tell p (by omega) (by omega) hsu
  have HOK1 := Lib.hid ok1
  have HHO : Hid (∀ W s2, Ok1 K.C m (10 * m + 1) s2 → GoesD w0 w K W s2 → Calls Tryz.prog 88 #[pB kc] W fun en w' => en = .returned (.tuple #[]) ∧ GoesD w0 w K w' (held K.C s2)) := fun W s2 h2 g => by
    have := held_goes g K.C.n rfl h8 h0 h2.p (fun x hx => (h2.pr x hx).2.2.1) h2.ms (by have := h2.es; omega) hkc
    exact this
  have HTK := Lib.hid hTK
  have hk2 : p.k = 2 := by omega
  rw [hk2] at HU
  have HTL : Hid (tellP K.C s1 p = { s1 with es := s1.es ++ [.q F], cl := true }) := by
    show _ = _
    unfold tellP; rw [if_neg hk, hF, Int.toNat_natCast]
  have HEV : Hid (∀ W, GoesD w0 w K W s1 → Calls Tryz.prog 75 #[pB kc, .int .i64 1, .int .i64 (F : Int), .int .i64 0] W fun en w' => en = .returned (.tuple #[]) ∧ GoesD w0 w K w' { s1 with es := s1.es ++ [.q F] }) := fun W g => event_goes g (.q F) 1 F 0 rfl (by have := HOK1.out.es; omega) hkc
  have HCL : Hid (∀ W s2, GoesD w0 w K W s2 → W.cell? ⟨kc, 18, none⟩ = some (.bool s2.cl) ∧ W.frozen? ⟨kc, 18, none⟩ = false ∧ GoesD w0 w K (W.setCell ⟨kc, 18, none⟩ (.bool true)) { s2 with cl := true }) := fun W s2 g => by
    obtain ⟨K1, e1, e2, e3, H1, L1, N1⟩ := g
    have r1 := H1.cell 18 _ rfl
    have r2 := H1.fz 18
    have r3 := H1.set_closed
    rw [e3, hkc] at r1 r2 r3
    rw [e1] at r1 r3
    exact ⟨r1, r2, goesd_then L1 N1 e2 e3 r3⟩
  have HKH : Hid (kh < w.heap.size) := by show _ < _; rw [← hkh]; exact (h.get (k := K.h) (by simp [DO, Dm.bl])).2
  have HF := Lib.hid hF
  clear h hcf hr hn hok ho hx hck hkh hkc hN hmq hID hs1 ok1 hfm hfm' hft hFN hFme hF hac hfr f0 f7 t0 t7 hTK hm9 hkk hk hk2 hsu h0 h8 hme
  go_enter Tryz.func25, Tryz.ntmps25
  go_wp2_with (first
    | (go_at_call 86; (refine (HU.out).mono ?_); rintro en w1 ⟨A2, n2, c2, rfl, ho, hl2, hb⟩; have HB1 := Lib.hid hb; have HOB := Lib.hid ho; have HLN := Lib.hid hl2; clear hb ho hl2)
    | (refine wpList_store_pk rfl (.tmp 5) (.tmp 14) rfl w1.heap.size (by rfl) (PkM.new w1 0 0 0 0 0 none 0 0 0 0 0) (by rfl) ?_; intro w3 p3 z3 g3; have HL3 := Lib.hid (pk_laid HB1.out g3); have HK3 := Lib.hid p3; clear p3 z3 g3))
  (try simp only [Act.put])
  obtain ⟨⟨a0, a1, a2⟩, a11, a12, ah, fh⟩ := HC.out w3 HL3.out.1
  obtain ⟨q0, q1, q2, q3, -, -, -, -, -⟩ := HK3.out.c
  obtain ⟨P, hP⟩ : ∃ P, w1.heap.size = P := ⟨_, rfl⟩
  have HP3 : Hid (w.heap.size ≤ P ∧ P < w3.heap.size) := by show _ ∧ _; rw [← hP]; exact ⟨HL3.out.2.2.1, HL3.out.2.1⟩
  have HOB3 : Hid (OB w3 w.heap.size (.slice A2 n2 c2) p.l) := HL3.out.2.2.2 HOB.out
  rw [hP] at HK3 q0 q1 q2 q3
  rw [hP]
  clear hP HOB
  have hkhP : kh ≠ P := by have := HKH.out; have := HP3.out; omega
  have hPkh : P ≠ kh := fun e => hkhP e.symm
  go_big_region
  go_wp2_with fail
  go_big_region
  obtain ⟨w5, hw5⟩ : ∃ w5, w5 = (w3.setCell ⟨kh, F, none⟩ (.int .i64 (ck : Int))).drew.drew := ⟨_, rfl⟩
  obtain ⟨O, hO⟩ : ∃ O : Nat → Prop, O = fun k => w.heap.size ≤ k ∧ k < w3.heap.size := ⟨_, rfl⟩
  have HGS := Lib.hid (HHEAR.out w3 O HL3.out.1 (fun k hk => by rw [hO] at hk; exact hk))
  rw [← hw5] at HGS
  have HOP : Hid (O P) := by show O P; rw [hO]; exact HP3.out
  have HOO : Hid (∀ k, (Value.slice A2 n2 c2).ownBlock = some k → O k) := fun k hk => by rw [hO]; exact HOB3.out.lt k hk
  have HK5 : Hid (PkM w5 P 2 (F : Int) (me : Int) ID p.fi A2 n2 c2 (ac : Int) (fr : Int) p.su) := (HGS.out.2 P HOP.out).trans HK3.out
  have HOB5 : Hid (OB w5 w.heap.size (.slice A2 n2 c2) p.l) := HOB3.out.same fun k hk => HGS.out.2 k (HOO.out k hk)
  have HG5 := Lib.hid HGS.out.1
  try rw [← hw5]
  clear hw5 hO a0 a1 a2 a11 a12 ah fh q0 q1 q2 q3 HGS HK3 HOB3 HP3 hkhP hPkh
  obtain ⟨q0, q1, -, -, -, -, -, -, -⟩ := HK5.out.c
  go_wp2_with (first
    | (go_at_call 75; (with_reducible refine (HEV.out _ HG5.out.goes).mono ?_); rintro en w6 ⟨rfl, hg⟩; obtain ⟨t1, t2, t3⟩ := HCL.out _ _ hg; have HG6 := Lib.hid t3; clear t3 hg)
    | (go_at_call 88; (with_reducible refine (HHO.out _ _ (HTL.out ▸ HTK.out) HG6.out).mono ?_); rintro en w7 ⟨rfl, hg⟩; have HG7 := Lib.hid hg; clear hg))
  go_ret
  exact ⟨rfl, by rw [HTL.out]; exact HG7.out⟩
end Go.Proofs.YtpnobpligchpiaaGreatDoor
