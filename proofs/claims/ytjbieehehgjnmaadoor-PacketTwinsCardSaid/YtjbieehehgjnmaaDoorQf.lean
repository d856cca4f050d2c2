/- WALKS over package packet: the reader's methods next, number. -/
import Derived.Test.YtjbieehehgjnmaaDoorQe
import Derived.Deep.OwnRows
namespace Go.Proofs.YtjbieehehgjnmaaDoor
set_option maxRecDepth 100000
open Go.RowKit
set_option linter.unusedVariables false
set_option linter.unusedSimpArgs false

theorem gr_trans {a b c : World} {row : Option Nat} (h : a.grownBy b row) (k : b.grownBy c row) : a.grownBy c row :=
  ⟨k.os.trans h.os, k.tape.trans h.tape, k.output.trans h.output, Nat.le_trans h.size k.size, fun i hi hg => (k.block i (Nat.lt_of_lt_of_le hi h.size) hg).trans (h.block i hi hg)⟩
theorem gr_refl (w : World) (row : Option Nat) : w.grownBy w row := ⟨rfl, rfl, rfl, Nat.le_refl _, fun _ _ _ => rfl⟩
theorem gr_set (w : World) (g j : Nat) (u : Value) : w.grownBy (w.setCell ⟨g, j, none⟩ u) (some g) :=
  ⟨rfl, rfl, rfl, by simp [World.setCell], fun i hi hg => Below.heap_setCell _ _ _ _ (fun e => hg (by have e : i = g := e; rw [e]))⟩
theorem gr_alloc (w : World) (o : Obj) (row : Option Nat) : w.grownBy (w.alloc o) row := ⟨rfl, rfl, rfl, by simp, fun i hi _ => Below.heap_alloc _ _ _ hi⟩
theorem gr_cell {w w' : World} {g : Nat} (h : w.grownBy w' (some g)) {b off : Nat} (hb : b < w.heap.size) (hg : b ≠ g) : w'.cell? ⟨b, off, none⟩ = w.cell? ⟨b, off, none⟩ := by
  unfold World.cell?
  rw [h.block b hb (fun e => hg (Option.some.inj e))]
/-- A slice at A reads as the bytes l, in a block that is not g. -/
def RX (w : World) (g : Nat) (A : Option Addr) (l : List UInt8) : Prop :=
  0 < l.length → ∃ b off, A = some ⟨b, off, none⟩ ∧ b ≠ g ∧ b < w.heap.size ∧ ∀ j (h : j < l.length), w.cell? ⟨b, off + j, none⟩ = some (vb l[j])
theorem RX.kept {w w' : World} {g : Nat} {A : Option Addr} {l : List UInt8} (h : RX w g A l) (hg : w.grownBy w' (some g)) : RX w' g A l := fun h0 => by
  obtain ⟨b, off, e, hne, hlt, hc⟩ := h h0
  exact ⟨b, off, e, hne, Nat.lt_of_lt_of_le hlt hg.size, fun j hj => (gr_cell hg hlt hne).trans (hc j hj)⟩
theorem RB.kept {w w' : World} {g : Nat} {A : Option Addr} {l : List UInt8} (h : RB w g A l) (hg : w.grownBy w' (some g)) (hs : g ≤ w.heap.size) : RB w' g A l := fun h0 => by
  obtain ⟨b, off, e, hlt, hc⟩ := h h0
  exact ⟨b, off, e, hlt, fun j hj => (gr_cell hg (by omega) (by omega)).trans (hc j hj)⟩
/-- a reader lies at block g -/
structure RdM (w : World) (g : Nat) (r : RS) (A : Option Addr) (n c : Nat) : Prop where
  c0 : w.cell? ⟨g, 0, none⟩ = some (.slice A n c)
  c1 : w.cell? ⟨g, 1, none⟩ = some (.bool r.bad)
  f0 : w.frozen? ⟨g, 0, none⟩ = false
  f1 : w.frozen? ⟨g, 1, none⟩ = false
  rb : RB w g A r.rest
  n_ : r.rest.length = n
  nc : n ≤ c
  cm : c ≤ maxLen
theorem RdM.lt {w : World} {g : Nat} {r : RS} {A : Option Addr} {n c : Nat} (h : RdM w g r A n c) : g < w.heap.size := cell_lt h.c0
theorem RdM.set0 {w : World} {g : Nat} {r : RS} {A : Option Addr} {n c : Nat} (h : RdM w g r A n c) (A' : Option Addr) (n' c' : Nat) (l : List UInt8) (hr : RB w g A' l) (hn : l.length = n') (hc : n' ≤ c') (hm : c' ≤ maxLen) :
    RdM (w.setCell ⟨g, 0, none⟩ (.slice A' n' c')) g ⟨l, r.bad⟩ A' n' c' := by
  have h0 := h.c0; have h1 := h.c1; have f0 := h.f0; have f1 := h.f1
  refine ⟨by go_simp, by go_simp, by go_simp, by go_simp, hr.kept (gr_set w g 0 _) (Nat.le_of_lt h.lt), hn, hc, hm⟩
theorem RdM.set1 {w : World} {g : Nat} {r : RS} {A : Option Addr} {n c : Nat} (h : RdM w g r A n c) :
    RdM (w.setCell ⟨g, 1, none⟩ (.bool true)) g ⟨r.rest, true⟩ A n c := by
  have h0 := h.c0; have h1 := h.c1; have f0 := h.f0; have f1 := h.f1
  refine ⟨by go_simp, by go_simp, by go_simp, by go_simp, h.rb.kept (gr_set w g 1 _) (Nat.le_of_lt h.lt), h.n_, h.nc, h.cm⟩
theorem gr_alloc_cell {w : World} {g off : Nat} {o : Obj} (h : g < w.heap.size) : (w.alloc o).cell? ⟨g, off, none⟩ = w.cell? ⟨g, off, none⟩ := World.cell?_of_block (a := ⟨g, off, none⟩) (Below.heap_alloc _ _ _ h)
theorem gr_alloc_frozen {w : World} {g off : Nat} {o : Obj} (h : g < w.heap.size) : (w.alloc o).frozen? ⟨g, off, none⟩ = w.frozen? ⟨g, off, none⟩ := World.frozen?_of_block (a := ⟨g, off, none⟩) (Below.heap_alloc _ _ _ h)
/-- what make lays for k bytes -/
def madeB (k : Nat) : Obj := .cells (madeCells #[.int .u8 0] k) 5
theorem make_b (k : Nat) (hk : k ≤ 1000) (W : World) : (Instr.makeSlice 22 (.int .i64 (k : Int)) (.int .i64 (k : Int))).run Tryd.prog W = .ok (.slice (some ⟨W.heap.size, 0, none⟩) k k) (W.alloc (madeB k)) :=
  run_make_row' 22 5 (.int .u8 0) 1 Tryd.underlying22 byte_info rfl .i64 .i64 k (by omega) (by omega) W
theorem rx_zeros (W : World) (k g : Nat) (hg : g < W.heap.size) : RX (W.alloc (madeB k)) g (some ⟨W.heap.size, 0, none⟩) (List.replicate k 0) := fun _ =>
  ⟨W.heap.size, 0, rfl, by omega, by simp, fun j hj => by
    rw [List.length_replicate] at hj
    rw [Nat.zero_add]
    refine (World.rowIs.cell (w := W.alloc (madeB k)) (World.rowIs_made W (.int .u8 0) k 5) hj).trans ?_
    simp [vb]⟩
theorem get_n (A : Option Addr) (l : List UInt8) (n cap B : Nat) (w : World) (hr : RB w B A l) (hn : l.length = n) (hc : n ≤ cap) (hm : cap ≤ maxLen) :
    Calls Tryd.prog 47 #[.slice A n cap] w fun e w' => e = .returned (gotV (getN l)) ∧ w = w' := by
  subst hn
  exact get_any A l cap B w hr hc hm
set_option maxHeartbeats 4000000 in
theorem num_any (g : Nat) (r : RS) (A : Option Addr) (n c : Nat) (w : World) (h : RdM w g r A n c) :
    Calls Tryd.prog 40 #[.pointer (some ⟨g, 0, none⟩)] w fun e w' => ∃ A' n' c', e = .returned (.int .i64 (numK r).1) ∧ RdM w' g (numK r).2 A' n' c' ∧ w.grownBy w' (some g) := by
  have hG := Lib.hid (get_n A r.rest n c g w h.rb h.n_ h.nc h.cm)
  have h0 := h.c0; have h1 := h.c1; have f0 := h.f0; have f1 := h.f1; have hnc := h.nc
  have hcm := h.cm
  unfold maxLen at hcm
  have H := Lib.hid h
  clear h
  cases hg : getN r.rest with
  | ok u k =>
    have hgg := getN_got _ _ _ hg
    have hk : k ≤ n := by rw [← H.out.n_]; exact hgg.2.2.2.1
    have hk0 := hgg.2.2.2.2
    rw [hg] at hG
    unfold gotV at hG
    obtain ⟨b, off, rfl, hb, -⟩ := H.out.rb (by have := H.out.n_; omega)
    have HGG := Lib.hid hg
    clear hgg hg
    have HE : Hid (numK r = (zag u, ⟨r.rest.drop k, r.bad⟩)) := by show _ = _; unfold numK; rw [HGG.out]
    have HL : Hid ((r.rest.drop k).length = n - k) := by show _ = _; rw [List.length_drop, H.out.n_]
    have hd := H.out.rb.cut k c (by rw [H.out.n_]; exact hk) (by rw [H.out.n_]; exact hnc)
    by_cases hcap : c = k
    · rw [if_pos hcap] at hd
      subst hcap
      obtain rfl : n = c := by omega
      rw [Nat.sub_self] at HL
      have HD := Lib.hid hd; clear hd
      go_enter Tryd.func40, Tryd.ntmps40
      go_wp2_with fail
      (with_reducible refine hG.out.mono ?_)
      rintro e w1 ⟨rfl, rfl⟩
      go_wp2_with fail
      go_ret
      refine ⟨some ⟨b, off, none⟩, 0, 0, by rw [HE.out]; rfl, ?_, gr_set _ _ _ _⟩
      rw [HE.out]
      exact H.out.set0 _ _ _ _ HD.out HL.out (by omega) (by unfold maxLen; omega)
    · rw [if_neg hcap] at hd
      simp only [Option.map_some, Addr.add_lit] at hd
      have HD := Lib.hid hd; clear hd
      go_enter Tryd.func40, Tryd.ntmps40
      go_wp2_with fail
      (with_reducible refine hG.out.mono ?_)
      rintro e w1 ⟨rfl, rfl⟩
      go_wp2_with fail
      go_ret
      refine ⟨some ⟨b, off + k, none⟩, n - k, c - k, by rw [HE.out]; rfl, ?_, gr_set _ _ _ _⟩
      rw [HE.out]
      exact H.out.set0 _ _ _ _ HD.out HL.out (by omega) (by unfold maxLen; omega)
  | more =>
    rw [hg] at hG
    unfold gotV at hG
    have HE : Hid (numK r = (0, ⟨r.rest, true⟩)) := by show _ = _; unfold numK; rw [hg]
    clear hg
    have HX : Hid (RdM (w.setCell ⟨g, 1, none⟩ (.bool true)) g ⟨r.rest, true⟩ A n c) := H.out.set1
    go_enter Tryd.func40, Tryd.ntmps40
    go_wp2_with fail
    (with_reducible refine hG.out.mono ?_)
    rintro e w1 ⟨rfl, rfl⟩
    go_wp2_with fail
    go_ret
    refine ⟨A, n, c, by rw [HE.out]; rfl, ?_, gr_trans (gr_set _ _ _ _) (gr_set _ _ _ _)⟩
    rw [HE.out]
    exact HX.out.set0 A n c r.rest HX.out.rb H.out.n_ H.out.nc H.out.cm
  | form =>
    rw [hg] at hG
    unfold gotV at hG
    have HE : Hid (numK r = (0, ⟨r.rest, true⟩)) := by show _ = _; unfold numK; rw [hg]
    clear hg
    have HX : Hid (RdM (w.setCell ⟨g, 1, none⟩ (.bool true)) g ⟨r.rest, true⟩ A n c) := H.out.set1
    go_enter Tryd.func40, Tryd.ntmps40
    go_wp2_with fail
    (with_reducible refine hG.out.mono ?_)
    rintro e w1 ⟨rfl, rfl⟩
    go_wp2_with fail
    go_ret
    refine ⟨A, n, c, by rw [HE.out]; rfl, ?_, gr_trans (gr_set _ _ _ _) (gr_set _ _ _ _)⟩
    rw [HE.out]
    exact HX.out.set0 A n c r.rest HX.out.rb H.out.n_ H.out.nc H.out.cm
set_option maxHeartbeats 4000000 in
theorem next3_any (g : Nat) (r : RS) (A : Option Addr) (n c : Nat) (w : World) (h : RdM w g r A n c) :
    Calls Tryd.prog 39 #[.pointer (some ⟨g, 0, none⟩), .int .i64 3] w fun e w' => ∃ A' n' c' X cx, e = .returned (.slice X 3 cx) ∧ 3 ≤ cx ∧ cx ≤ maxLen ∧ RX w' g X (nextK 3 r).1 ∧ RdM w' g (nextK 3 r).2 A' n' c' ∧ w.grownBy w' (some g) := by
  have h0 := h.c0; have h1 := h.c1; have f0 := h.f0; have f1 := h.f1; have hnc := h.nc
  have hcm := h.cm
  unfold maxLen at hcm
  have H := Lib.hid h
  clear h
  by_cases hk : 3 ≤ n
  · obtain ⟨b, off, rfl, hb, -⟩ := H.out.rb (by have := H.out.n_; omega)
    have HE : Hid (nextK 3 r = (r.rest.take 3, ⟨r.rest.drop 3, r.bad⟩)) := by show _ = _; unfold nextK; rw [if_pos (by rw [H.out.n_]; exact hk)]
    have HL : Hid ((r.rest.drop 3).length = n - 3) := by show _ = _; rw [List.length_drop, H.out.n_]
    have hd := H.out.rb.cut 3 c (by rw [H.out.n_]; exact hk) (by rw [H.out.n_]; exact hnc)
    have HX : Hid (RX w g (some ⟨b, off, none⟩) (r.rest.take 3)) := fun h0 => by
      obtain ⟨b', off', e, hlt, hc⟩ := H.out.rb.take 3 h0
      exact ⟨b', off', e, by omega, by have := H.out.lt; omega, hc⟩
    have k1 : (3 : Int) ≤ (n : Int) := by omega
    have k2 : (3 : Int) ≤ (c : Int) := by omega
    by_cases hcap : c = 3
    · rw [if_pos hcap] at hd
      subst hcap
      obtain rfl : n = 3 := by omega
      have HD := Lib.hid hd; clear hd
      go_enter Tryd.func39, Tryd.ntmps39
      go_wp2_with fail
      go_ret
      refine ⟨some ⟨b, off, none⟩, 0, 0, some ⟨b, off, none⟩, 3, rfl, Nat.le_refl _, by unfold maxLen; omega, ?_, ?_, gr_set _ _ _ _⟩
      · rw [HE.out]; exact HX.out.kept (gr_set _ _ _ _)
      · rw [HE.out]; exact H.out.set0 _ _ _ _ HD.out HL.out (by omega) (by unfold maxLen; omega)
    · rw [if_neg hcap] at hd
      simp only [Option.map_some, Addr.add_lit] at hd
      have HD := Lib.hid hd; clear hd
      go_enter Tryd.func39, Tryd.ntmps39
      go_wp2_with fail
      go_ret
      refine ⟨some ⟨b, off + 3, none⟩, n - 3, c - 3, some ⟨b, off, none⟩, c, rfl, by omega, by unfold maxLen; omega, ?_, ?_, gr_set _ _ _ _⟩
      · rw [HE.out]; exact HX.out.kept (gr_set _ _ _ _)
      · rw [HE.out]; exact H.out.set0 _ _ _ _ HD.out HL.out (by omega) (by unfold maxLen; omega)
  · have HE : Hid (nextK 3 r = (List.replicate 3 0, ⟨r.rest, true⟩)) := by show _ = _; unfold nextK; rw [if_neg (by rw [H.out.n_]; exact hk)]
    have HX : Hid (RdM (w.setCell ⟨g, 1, none⟩ (.bool true)) g ⟨r.rest, true⟩ A n c) := H.out.set1
    have k1 : (n : Int) < 3 := by omega
    have hmk : (Instr.makeSlice 22 (.int .i64 3) (.int .i64 3)).run Tryd.prog (w.setCell ⟨g, 1, none⟩ (.bool true)) = .ok (.slice (some ⟨(w.setCell ⟨g, 1, none⟩ (.bool true)).heap.size, 0, none⟩) 3 3) ((w.setCell ⟨g, 1, none⟩ (.bool true)).alloc (madeB 3)) := make_b 3 (by omega) _
    go_enter Tryd.func39, Tryd.ntmps39
    go_wp2_with fail
    go_ret
    have ha : (w.setCell ⟨g, 1, none⟩ (.bool true)).grownBy ((w.setCell ⟨g, 1, none⟩ (.bool true)).alloc (madeB 3)) (some g) := gr_alloc _ _ _
    have hlt : g < (w.setCell ⟨g, 1, none⟩ (.bool true)).heap.size := HX.out.lt
    refine ⟨A, n, c, _, 3, rfl, Nat.le_refl _, by unfold maxLen; omega, ?_, ?_, gr_trans (gr_set _ _ _ _) ha⟩
    · rw [HE.out]
      have h := rx_zeros (w.setCell ⟨g, 1, none⟩ (.bool true)) 3 g hlt
      rw [show (w.setCell ⟨g, 1, none⟩ (.bool true)).heap.size = w.heap.size by simp [World.setCell]] at h
      exact h
    · rw [HE.out]
      have hl := HX.out.lt
      exact ⟨(gr_alloc_cell hl).trans HX.out.c0, (gr_alloc_cell hl).trans HX.out.c1, (gr_alloc_frozen hl).trans HX.out.f0, (gr_alloc_frozen hl).trans HX.out.f1, HX.out.rb.kept ha (Nat.le_of_lt hl), HX.out.n_, HX.out.nc, HX.out.cm⟩
set_option maxHeartbeats 4000000 in
theorem next4_any (g : Nat) (r : RS) (A : Option Addr) (n c : Nat) (w : World) (h : RdM w g r A n c) :
    Calls Tryd.prog 39 #[.pointer (some ⟨g, 0, none⟩), .int .i64 4] w fun e w' => ∃ A' n' c' X cx, e = .returned (.slice X 4 cx) ∧ 4 ≤ cx ∧ cx ≤ maxLen ∧ RX w' g X (nextK 4 r).1 ∧ RdM w' g (nextK 4 r).2 A' n' c' ∧ w.grownBy w' (some g) := by
  have h0 := h.c0; have h1 := h.c1; have f0 := h.f0; have f1 := h.f1; have hnc := h.nc
  have hcm := h.cm
  unfold maxLen at hcm
  have H := Lib.hid h
  clear h
  by_cases hk : 4 ≤ n
  · obtain ⟨b, off, rfl, hb, -⟩ := H.out.rb (by have := H.out.n_; omega)
    have HE : Hid (nextK 4 r = (r.rest.take 4, ⟨r.rest.drop 4, r.bad⟩)) := by show _ = _; unfold nextK; rw [if_pos (by rw [H.out.n_]; exact hk)]
    have HL : Hid ((r.rest.drop 4).length = n - 4) := by show _ = _; rw [List.length_drop, H.out.n_]
    have hd := H.out.rb.cut 4 c (by rw [H.out.n_]; exact hk) (by rw [H.out.n_]; exact hnc)
    have HX : Hid (RX w g (some ⟨b, off, none⟩) (r.rest.take 4)) := fun h0 => by
      obtain ⟨b', off', e, hlt, hc⟩ := H.out.rb.take 4 h0
      exact ⟨b', off', e, by omega, by have := H.out.lt; omega, hc⟩
    have k1 : (4 : Int) ≤ (n : Int) := by omega
    have k2 : (4 : Int) ≤ (c : Int) := by omega
    by_cases hcap : c = 4
    · rw [if_pos hcap] at hd
      subst hcap
      obtain rfl : n = 4 := by omega
      have HD := Lib.hid hd; clear hd
      go_enter Tryd.func39, Tryd.ntmps39
      go_wp2_with fail
      go_ret
      refine ⟨some ⟨b, off, none⟩, 0, 0, some ⟨b, off, none⟩, 4, rfl, Nat.le_refl _, by unfold maxLen; omega, ?_, ?_, gr_set _ _ _ _⟩
      · rw [HE.out]; exact HX.out.kept (gr_set _ _ _ _)
      · rw [HE.out]; exact H.out.set0 _ _ _ _ HD.out HL.out (by omega) (by unfold maxLen; omega)
    · rw [if_neg hcap] at hd
      simp only [Option.map_some, Addr.add_lit] at hd
      have HD := Lib.hid hd; clear hd
      go_enter Tryd.func39, Tryd.ntmps39
      go_wp2_with fail
      go_ret
      refine ⟨some ⟨b, off + 4, none⟩, n - 4, c - 4, some ⟨b, off, none⟩, c, rfl, by omega, by unfold maxLen; omega, ?_, ?_, gr_set _ _ _ _⟩
      · rw [HE.out]; exact HX.out.kept (gr_set _ _ _ _)
      · rw [HE.out]; exact H.out.set0 _ _ _ _ HD.out HL.out (by omega) (by unfold maxLen; omega)
  · have HE : Hid (nextK 4 r = (List.replicate 4 0, ⟨r.rest, true⟩)) := by show _ = _; unfold nextK; rw [if_neg (by rw [H.out.n_]; exact hk)]
    have HX : Hid (RdM (w.setCell ⟨g, 1, none⟩ (.bool true)) g ⟨r.rest, true⟩ A n c) := H.out.set1
    have k1 : (n : Int) < 4 := by omega
    have hmk : (Instr.makeSlice 22 (.int .i64 4) (.int .i64 4)).run Tryd.prog (w.setCell ⟨g, 1, none⟩ (.bool true)) = .ok (.slice (some ⟨(w.setCell ⟨g, 1, none⟩ (.bool true)).heap.size, 0, none⟩) 4 4) ((w.setCell ⟨g, 1, none⟩ (.bool true)).alloc (madeB 4)) := make_b 4 (by omega) _
    go_enter Tryd.func39, Tryd.ntmps39
    go_wp2_with fail
    go_ret
    have ha : (w.setCell ⟨g, 1, none⟩ (.bool true)).grownBy ((w.setCell ⟨g, 1, none⟩ (.bool true)).alloc (madeB 4)) (some g) := gr_alloc _ _ _
    have hlt : g < (w.setCell ⟨g, 1, none⟩ (.bool true)).heap.size := HX.out.lt
    refine ⟨A, n, c, _, 4, rfl, Nat.le_refl _, by unfold maxLen; omega, ?_, ?_, gr_trans (gr_set _ _ _ _) ha⟩
    · rw [HE.out]
      have h := rx_zeros (w.setCell ⟨g, 1, none⟩ (.bool true)) 4 g hlt
      rw [show (w.setCell ⟨g, 1, none⟩ (.bool true)).heap.size = w.heap.size by simp [World.setCell]] at h
      exact h
    · rw [HE.out]
      have hl := HX.out.lt
      exact ⟨(gr_alloc_cell hl).trans HX.out.c0, (gr_alloc_cell hl).trans HX.out.c1, (gr_alloc_frozen hl).trans HX.out.f0, (gr_alloc_frozen hl).trans HX.out.f1, HX.out.rb.kept ha (Nat.le_of_lt hl), HX.out.n_, HX.out.nc, HX.out.cm⟩
end Go.Proofs.YtjbieehehgjnmaaDoor
