/- texts of YpS -/
import Derived.Deep.DeepCutAuto
import Derived.Deep.OwnRows
import Derived.Deep.RegionWith
import Derived.RegionTactic
import Derived.Test.YtpnobpligchpiaaGreatDoorYpK
import Derived.Test.YtpnobpligchpiaaGreatDoorYpR
namespace Go.Proofs.YtpnobpligchpiaaGreatDoor
set_option maxRecDepth 100000
open Go.RowKit
set_option linter.unusedVariables false
set_option linter.unusedSimpArgs false
theorem gr_trans {a b c : World} {row : Option Nat} (h : a.grownBy b row) (k : b.grownBy c row) : a.grownBy c row :=
 ⟨k.os.trans h.os, k.tape.trans h.tape, k.output.trans h.output, Nat.le_trans h.size k.size, fun i hi hg => (k.block i (Nat.lt_of_lt_of_le hi h.size) hg).trans (h.block i hi hg)⟩
theorem gr_set (w : World) (g j : Nat) (u : Value) : w.grownBy (w.setCell ⟨g, j, none⟩ u) (some g) :=
 ⟨rfl, rfl, rfl, by simp [World.setCell], fun i hi hg => Below.heap_setCell _ _ _ _ (fun e => hg (by have e : i = g := e; rw [e]))⟩
theorem gr_alloc (w : World) (o : Obj) (row : Option Nat) : w.grownBy (w.alloc o) row := ⟨rfl, rfl, rfl, by simp, fun i hi _ => Below.heap_alloc _ _ _ hi⟩
theorem gr_cell {w w' : World} {g : Nat} (h : w.grownBy w' (some g)) {b off : Nat} (hb : b < w.heap.size) (hg : b ≠ g) : w'.cell? ⟨b, off, none⟩ = w.cell? ⟨b, off, none⟩ := by
 unfold World.cell?
 rw [h.block b hb (fun e => hg (Option.some.inj e))]
def RX (w : World) (g : Nat) (A : Option Addr) (l : List UInt8) : Prop :=
 0 < l.length → ∃ b off, A = some ⟨b, off, none⟩ ∧ b ≠ g ∧ b < w.heap.size ∧ ∀ j (h : j < l.length), w.cell? ⟨b, off + j, none⟩ = some (vb l[j])
theorem RX.kept {w w' : World} {g : Nat} {A : Option Addr} {l : List UInt8} (h : RX w g A l) (hg : w.grownBy w' (some g)) : RX w' g A l := fun h0 => by
 obtain ⟨b, off, e, hne, hlt, hc⟩ := h h0
 exact ⟨b, off, e, hne, Nat.lt_of_lt_of_le hlt hg.size, fun j hj => (gr_cell hg hlt hne).trans (hc j hj)⟩
theorem RB.kept {w w' : World} {g : Nat} {A : Option Addr} {l : List UInt8} (h : RB w g A l) (hg : w.grownBy w' (some g)) (hs : g ≤ w.heap.size) : RB w' g A l := fun h0 => by
 obtain ⟨b, off, e, hlt, hc⟩ := h h0
 exact ⟨b, off, e, hlt, fun j hj => (gr_cell hg (by omega) (by omega)).trans (hc j hj)⟩
structure RdM (w : World) (g : Nat) (r : RS) (A : Option Addr) (n c : Nat) : Prop where
 c0 : w.cell? ⟨g, 0, none⟩ = some (.slice A n c)
 c1 : w.cell? ⟨g, 1, none⟩ = some (.bool r.bad)
 f0 : w.frozen? ⟨g, 0, none⟩ = false
 f1 : w.frozen? ⟨g, 1, none⟩ = false
 rb : RB w g A r.rest
 n_ : r.rest.length = n
 nc : n ≤ c
 cm : c ≤ maxLen
theorem RdM.lt {w : World} {g : Nat} {r : RS} {A : Option Addr} {n c : Nat} (h : RdM w g r A n c) : g < w.heap.size := cell_lt h.c0
theorem RdM.set0 {w : World} {g : Nat} {r : RS} {A : Option Addr} {n c : Nat} (h : RdM w g r A n c) (A' : Option Addr) (n' c' : Nat) (l : List UInt8) (hr : RB w g A' l) (hn : l.length = n') (hc : n' ≤ c') (hm : c' ≤ maxLen) :
 RdM (w.setCell ⟨g, 0, none⟩ (.slice A' n' c')) g ⟨l, r.bad⟩ A' n' c' := by
 have h0 := h.c0; have h1 := h.c1; have f0 := h.f0; have f1 := h.f1
 refine ⟨by go_simp, by go_simp, by go_simp, by go_simp, hr.kept (gr_set w g 0 _) (Nat.le_of_lt h.lt), hn, hc, hm⟩
theorem RdM.set1 {w : World} {g : Nat} {r : RS} {A : Option Addr} {n c : Nat} (h : RdM w g r A n c) :
 RdM (w.setCell ⟨g, 1, none⟩ (.bool true)) g ⟨r.rest, true⟩ A n c := by
 have h0 := h.c0; have h1 := h.c1; have f0 := h.f0; have f1 := h.f1
 refine ⟨by go_simp, by go_simp, by go_simp, by go_simp, h.rb.kept (gr_set w g 1 _) (Nat.le_of_lt h.lt), h.n_, h.nc, h.cm⟩
theorem gr_alloc_cell {w : World} {g off : Nat} {o : Obj} (h : g < w.heap.size) : (w.alloc o).cell? ⟨g, off, none⟩ = w.cell? ⟨g, off, none⟩ := World.cell?_of_block (a := ⟨g, off, none⟩) (Below.heap_alloc _ _ _ h)
theorem gr_alloc_frozen {w : World} {g off : Nat} {o : Obj} (h : g < w.heap.size) : (w.alloc o).frozen? ⟨g, off, none⟩ = w.frozen? ⟨g, off, none⟩ := World.frozen?_of_block (a := ⟨g, off, none⟩) (Below.heap_alloc _ _ _ h)
theorem rx_zeros (W : World) (k g : Nat) (hg : g < W.heap.size) : RX (W.alloc (madeB k)) g (some ⟨W.heap.size, 0, none⟩) (List.replicate k 0) := fun _ =>
 ⟨W.heap.size, 0, rfl, by omega, by simp, fun j hj => by
   rw [List.length_replicate] at hj
   rw [Nat.zero_add]
   refine (World.rowIs.cell (w := W.alloc (madeB k)) (World.rowIs_made W (.int .u8 0) k 5) hj).trans ?_
   simp [vb]⟩
theorem get_n (A : Option Addr) (l : List UInt8) (n cap B : Nat) (w : World) (hr : RB w B A l) (hn : l.length = n) (hc : n ≤ cap) (hm : cap ≤ maxLen) :
 Calls Tryz.prog 175 #[.slice A n cap] w fun e w' => e = .returned (gotV (getN l)) ∧ w = w' := by
 subst hn
 exact get_any A l cap B w hr hc hm
set_option maxHeartbeats 4000000 in
theorem num_any (g : Nat) (r : RS) (A : Option Addr) (n c : Nat) (w : World) (h : RdM w g r A n c) :
 Calls Tryz.prog 153 #[.pointer (some ⟨g, 0, none⟩)] w fun e w' => ∃ A' n' c', e = .returned (.int .i64 (numK r).1) ∧ RdM w' g (numK r).2 A' n' c' ∧ w.grownBy w' (some g) := by
 have hG := qh (get_n A r.rest n c g w h.rb h.n_ h.nc h.cm)
 have h0 := h.c0; have h1 := h.c1; have f0 := h.f0; have f1 := h.f1; have hnc := h.nc
 have hcm := h.cm
 unfold maxLen at hcm
 have H := qh h
 clear h
 cases hg : getN r.rest with
 | ok u k =>
   have hgg := getN_got _ _ _ hg
   have hk : k ≤ n := by rw [← H.out.n_]; exact hgg.2.2.2.1
   have hk0 := hgg.2.2.2.2
   rw [hg] at hG
   unfold gotV at hG
   obtain ⟨b, off, rfl, hb, -⟩ := H.out.rb (by have := H.out.n_; omega)
   have HGG := qh hg
   clear hgg hg
   have HE : Hid (numK r = (zag u, ⟨r.rest.drop k, r.bad⟩)) := by show _ = _; unfold numK; rw [HGG.out]
   have HL : Hid ((r.rest.drop k).length = n - k) := by show _ = _; rw [List.length_drop, H.out.n_]
   have hd := H.out.rb.cut k c (by rw [H.out.n_]; exact hk) (by rw [H.out.n_]; exact hnc)
   by_cases hcap : c = k
   · rw [if_pos hcap] at hd
     subst hcap
     obtain rfl : n = c := by omega
     rw [Nat.sub_self] at HL
     have HD := qh hd; clear hd
     go_enter Tryz.func153, Tryz.ntmps153
     go_wp2_with fail
     (with_reducible refine hG.out.mono ?_)
     rintro e w1 ⟨rfl, rfl⟩
     go_wp2_with fail
     go_ret
     refine ⟨some ⟨b, off, none⟩, 0, 0, by rw [HE.out]; rfl, ?_, gr_set _ _ _ _⟩
     rw [HE.out]
     exact H.out.set0 _ _ _ _ HD.out HL.out (by omega) (by unfold maxLen; omega)
   · rw [if_neg hcap] at hd
     simp only [Option.map_some, Addr.add_lit] at hd
     have HD := qh hd; clear hd
     go_enter Tryz.func153, Tryz.ntmps153
     go_wp2_with fail
     (with_reducible refine hG.out.mono ?_)
     rintro e w1 ⟨rfl, rfl⟩
     go_wp2_with fail
     go_ret
     refine ⟨some ⟨b, off + k, none⟩, n - k, c - k, by rw [HE.out]; rfl, ?_, gr_set _ _ _ _⟩
     rw [HE.out]
     exact H.out.set0 _ _ _ _ HD.out HL.out (by omega) (by unfold maxLen; omega)
 | more =>
   rw [hg] at hG
   unfold gotV at hG
   have HE : Hid (numK r = (0, ⟨r.rest, true⟩)) := by show _ = _; unfold numK; rw [hg]
   clear hg
   have HX : Hid (RdM (w.setCell ⟨g, 1, none⟩ (.bool true)) g ⟨r.rest, true⟩ A n c) := H.out.set1
   go_enter Tryz.func153, Tryz.ntmps153
   go_wp2_with fail
   (with_reducible refine hG.out.mono ?_)
   rintro e w1 ⟨rfl, rfl⟩
   go_wp2_with fail
   go_ret
   refine ⟨A, n, c, by rw [HE.out]; rfl, ?_, gr_trans (gr_set _ _ _ _) (gr_set _ _ _ _)⟩
   rw [HE.out]
   exact HX.out.set0 A n c r.rest HX.out.rb H.out.n_ H.out.nc H.out.cm
 | form =>
   rw [hg] at hG
   unfold gotV at hG
   have HE : Hid (numK r = (0, ⟨r.rest, true⟩)) := by show _ = _; unfold numK; rw [hg]
   clear hg
   have HX : Hid (RdM (w.setCell ⟨g, 1, none⟩ (.bool true)) g ⟨r.rest, true⟩ A n c) := H.out.set1
   go_enter Tryz.func153, Tryz.ntmps153
   go_wp2_with fail
   (with_reducible refine hG.out.mono ?_)
   rintro e w1 ⟨rfl, rfl⟩
   go_wp2_with fail
   go_ret
   refine ⟨A, n, c, by rw [HE.out]; rfl, ?_, gr_trans (gr_set _ _ _ _) (gr_set _ _ _ _)⟩
   rw [HE.out]
   exact HX.out.set0 A n c r.rest HX.out.rb H.out.n_ H.out.nc H.out.cm
set_option maxHeartbeats 4000000 in
theorem next3_any (g : Nat) (r : RS) (A : Option Addr) (n c : Nat) (w : World) (h : RdM w g r A n c) :
 Calls Tryz.prog 152 #[.pointer (some ⟨g, 0, none⟩), .int .i64 3] w fun e w' => ∃ A' n' c' X cx, e = .returned (.slice X 3 cx) ∧ 3 ≤ cx ∧ cx ≤ maxLen ∧ RX w' g X (nextK 3 r).1 ∧ RdM w' g (nextK 3 r).2 A' n' c' ∧ w.grownBy w' (some g) := by
 have h0 := h.c0; have h1 := h.c1; have f0 := h.f0; have f1 := h.f1; have hnc := h.nc
 have hcm := h.cm
 unfold maxLen at hcm
 have H := qh h
 clear h
 by_cases hk : 3 ≤ n
 · obtain ⟨b, off, rfl, hb, -⟩ := H.out.rb (by have := H.out.n_; omega)
   have HE : Hid (nextK 3 r = (r.rest.take 3, ⟨r.rest.drop 3, r.bad⟩)) := by show _ = _; unfold nextK; rw [if_pos (by rw [H.out.n_]; exact hk)]
   have HL : Hid ((r.rest.drop 3).length = n - 3) := by show _ = _; rw [List.length_drop, H.out.n_]
   have hd := H.out.rb.cut 3 c (by rw [H.out.n_]; exact hk) (by rw [H.out.n_]; exact hnc)
   have HX : Hid (RX w g (some ⟨b, off, none⟩) (r.rest.take 3)) := fun h0 => by
    obtain ⟨b', off', e, hlt, hc⟩ := H.out.rb.take 3 h0
    exact ⟨b', off', e, by omega, by have := H.out.lt; omega, hc⟩
   have k1 : (3 : Int) ≤ (n : Int) := by omega
   have k2 : (3 : Int) ≤ (c : Int) := by omega
   by_cases hcap : c = 3
   · rw [if_pos hcap] at hd
     subst hcap
     obtain rfl : n = 3 := by omega
     have HD := qh hd; clear hd
     go_enter Tryz.func152, Tryz.ntmps152
     go_wp2_with fail
     go_ret
     refine ⟨some ⟨b, off, none⟩, 0, 0, some ⟨b, off, none⟩, 3, rfl, nl _, by unfold maxLen; omega, ?_, ?_, gr_set _ _ _ _⟩
     · rw [HE.out]; exact HX.out.kept (gr_set _ _ _ _)
     · rw [HE.out]; exact H.out.set0 _ _ _ _ HD.out HL.out (by omega) (by unfold maxLen; omega)
   · rw [if_neg hcap] at hd
     simp only [Option.map_some, Addr.add_lit] at hd
     have HD := qh hd; clear hd
     go_enter Tryz.func152, Tryz.ntmps152
     go_wp2_with fail
     go_ret
     refine ⟨some ⟨b, off + 3, none⟩, n - 3, c - 3, some ⟨b, off, none⟩, c, rfl, by omega, by unfold maxLen; omega, ?_, ?_, gr_set _ _ _ _⟩
     · rw [HE.out]; exact HX.out.kept (gr_set _ _ _ _)
     · rw [HE.out]; exact H.out.set0 _ _ _ _ HD.out HL.out (by omega) (by unfold maxLen; omega)
 · have HE : Hid (nextK 3 r = (List.replicate 3 0, ⟨r.rest, true⟩)) := by show _ = _; unfold nextK; rw [if_neg (by rw [H.out.n_]; exact hk)]
   have HX : Hid (RdM (w.setCell ⟨g, 1, none⟩ (.bool true)) g ⟨r.rest, true⟩ A n c) := H.out.set1
   have k1 : (n : Int) < 3 := by omega
   have hmk : (Instr.makeSlice 33 (.int .i64 3) (.int .i64 3)).run Tryz.prog (w.setCell ⟨g, 1, none⟩ (.bool true)) = .ok (.slice (some ⟨(w.setCell ⟨g, 1, none⟩ (.bool true)).heap.size, 0, none⟩) 3 3) ((w.setCell ⟨g, 1, none⟩ (.bool true)).alloc (madeB 3)) := make_b 3 (by omega) _
   go_enter Tryz.func152, Tryz.ntmps152
   go_wp2_with fail
   go_ret
   have ha : (w.setCell ⟨g, 1, none⟩ (.bool true)).grownBy ((w.setCell ⟨g, 1, none⟩ (.bool true)).alloc (madeB 3)) (some g) := gr_alloc _ _ _
   have hlt : g < (w.setCell ⟨g, 1, none⟩ (.bool true)).heap.size := HX.out.lt
   refine ⟨A, n, c, _, 3, rfl, nl _, by unfold maxLen; omega, ?_, ?_, gr_trans (gr_set _ _ _ _) ha⟩
   · rw [HE.out]
     have h := rx_zeros (w.setCell ⟨g, 1, none⟩ (.bool true)) 3 g hlt
     rw [show (w.setCell ⟨g, 1, none⟩ (.bool true)).heap.size = w.heap.size by simp [World.setCell]] at h
     exact h
   · rw [HE.out]
     have hl := HX.out.lt
     exact ⟨(gr_alloc_cell hl).trans HX.out.c0, (gr_alloc_cell hl).trans HX.out.c1, (gr_alloc_frozen hl).trans HX.out.f0, (gr_alloc_frozen hl).trans HX.out.f1, HX.out.rb.kept ha (Nat.le_of_lt hl), HX.out.n_, HX.out.nc, HX.out.cm⟩
set_option maxHeartbeats 4000000 in
theorem next4_any (g : Nat) (r : RS) (A : Option Addr) (n c : Nat) (w : World) (h : RdM w g r A n c) :
 Calls Tryz.prog 152 #[.pointer (some ⟨g, 0, none⟩), .int .i64 4] w fun e w' => ∃ A' n' c' X cx, e = .returned (.slice X 4 cx) ∧ 4 ≤ cx ∧ cx ≤ maxLen ∧ RX w' g X (nextK 4 r).1 ∧ RdM w' g (nextK 4 r).2 A' n' c' ∧ w.grownBy w' (some g) := by
 have h0 := h.c0; have h1 := h.c1; have f0 := h.f0; have f1 := h.f1; have hnc := h.nc
 have hcm := h.cm
 unfold maxLen at hcm
 have H := qh h
 clear h
 by_cases hk : 4 ≤ n
 · obtain ⟨b, off, rfl, hb, -⟩ := H.out.rb (by have := H.out.n_; omega)
   have HE : Hid (nextK 4 r = (r.rest.take 4, ⟨r.rest.drop 4, r.bad⟩)) := by show _ = _; unfold nextK; rw [if_pos (by rw [H.out.n_]; exact hk)]
   have HL : Hid ((r.rest.drop 4).length = n - 4) := by show _ = _; rw [List.length_drop, H.out.n_]
   have hd := H.out.rb.cut 4 c (by rw [H.out.n_]; exact hk) (by rw [H.out.n_]; exact hnc)
   have HX : Hid (RX w g (some ⟨b, off, none⟩) (r.rest.take 4)) := fun h0 => by
    obtain ⟨b', off', e, hlt, hc⟩ := H.out.rb.take 4 h0
    exact ⟨b', off', e, by omega, by have := H.out.lt; omega, hc⟩
   have k1 : (4 : Int) ≤ (n : Int) := by omega
   have k2 : (4 : Int) ≤ (c : Int) := by omega
   by_cases hcap : c = 4
   · rw [if_pos hcap] at hd
     subst hcap
     obtain rfl : n = 4 := by omega
     have HD := qh hd; clear hd
     go_enter Tryz.func152, Tryz.ntmps152
     go_wp2_with fail
     go_ret
     refine ⟨some ⟨b, off, none⟩, 0, 0, some ⟨b, off, none⟩, 4, rfl, nl _, by unfold maxLen; omega, ?_, ?_, gr_set _ _ _ _⟩
     · rw [HE.out]; exact HX.out.kept (gr_set _ _ _ _)
     · rw [HE.out]; exact H.out.set0 _ _ _ _ HD.out HL.out (by omega) (by unfold maxLen; omega)
   · rw [if_neg hcap] at hd
     simp only [Option.map_some, Addr.add_lit] at hd
     have HD := qh hd; clear hd
     go_enter Tryz.func152, Tryz.ntmps152
     go_wp2_with fail
     go_ret
     refine ⟨some ⟨b, off + 4, none⟩, n - 4, c - 4, some ⟨b, off, none⟩, c, rfl, by omega, by unfold maxLen; omega, ?_, ?_, gr_set _ _ _ _⟩
     · rw [HE.out]; exact HX.out.kept (gr_set _ _ _ _)
     · rw [HE.out]; exact H.out.set0 _ _ _ _ HD.out HL.out (by omega) (by unfold maxLen; omega)
 · have HE : Hid (nextK 4 r = (List.replicate 4 0, ⟨r.rest, true⟩)) := by show _ = _; unfold nextK; rw [if_neg (by rw [H.out.n_]; exact hk)]
   have HX : Hid (RdM (w.setCell ⟨g, 1, none⟩ (.bool true)) g ⟨r.rest, true⟩ A n c) := H.out.set1
   have k1 : (n : Int) < 4 := by omega
   have hmk : (Instr.makeSlice 33 (.int .i64 4) (.int .i64 4)).run Tryz.prog (w.setCell ⟨g, 1, none⟩ (.bool true)) = .ok (.slice (some ⟨(w.setCell ⟨g, 1, none⟩ (.bool true)).heap.size, 0, none⟩) 4 4) ((w.setCell ⟨g, 1, none⟩ (.bool true)).alloc (madeB 4)) := make_b 4 (by omega) _
   go_enter Tryz.func152, Tryz.ntmps152
   go_wp2_with fail
   go_ret
   have ha : (w.setCell ⟨g, 1, none⟩ (.bool true)).grownBy ((w.setCell ⟨g, 1, none⟩ (.bool true)).alloc (madeB 4)) (some g) := gr_alloc _ _ _
   have hlt : g < (w.setCell ⟨g, 1, none⟩ (.bool true)).heap.size := HX.out.lt
   refine ⟨A, n, c, _, 4, rfl, nl _, by unfold maxLen; omega, ?_, ?_, gr_trans (gr_set _ _ _ _) ha⟩
   · rw [HE.out]
     have h := rx_zeros (w.setCell ⟨g, 1, none⟩ (.bool true)) 4 g hlt
     rw [show (w.setCell ⟨g, 1, none⟩ (.bool true)).heap.size = w.heap.size by simp [World.setCell]] at h
     exact h
   · rw [HE.out]
     have hl := HX.out.lt
     exact ⟨(gr_alloc_cell hl).trans HX.out.c0, (gr_alloc_cell hl).trans HX.out.c1, (gr_alloc_frozen hl).trans HX.out.f0, (gr_alloc_frozen hl).trans HX.out.f1, HX.out.rb.kept ha (Nat.le_of_lt hl), HX.out.n_, HX.out.nc, HX.out.cm⟩
theorem next_len (k : Nat) (r : RS) : (nextK k r).1.length = k := by
 unfold nextK
 split
 · show (r.rest.take k).length = k; rw [List.length_take]; omega
 · show (List.replicate k (0 : UInt8)).length = k; rw [List.length_replicate]
set_option maxHeartbeats 4000000 in
theorem rfour_any (g : Nat) (r : RS) (A : Option Addr) (n c : Nat) (w : World) (h : RdM w g r A n c) :
 Calls Tryz.prog 154 #[.pointer (some ⟨g, 0, none⟩)] w fun e w' => ∃ A' n' c', e = .returned (.int .u32 (fourK r).1) ∧ RdM w' g (fourK r).2 A' n' c' ∧ w.grownBy w' (some g) := by
 have HN := qh (next4_any g r A n c w h)
 have hl := next_len 4 r
 obtain ⟨l, hll⟩ : ∃ l, (nextK 4 r).1 = l := ⟨_, rfl⟩
 rw [hll] at HN hl
 have HE : Hid (fourK r = (acc4 l, (nextK 4 r).2)) := by show _ = _; unfold fourK; rw [hll]
 have HL := qh hl
 clear h hll hl
 go_enter Tryz.func154, Tryz.ntmps154
 go_wp2_with fail
 (with_reducible refine HN.out.mono ?_)
 rintro e w1 ⟨A', n', c', X, cx, rfl, hcx, hcm, hx, hR, hg⟩
 obtain ⟨b, off, rfl, -, -, hcell⟩ := hx (by rw [HL.out]; omega)
 have HC := qh hcell; have HR := qh hR; have HG := qh hg
 have hcm2 := hcm
 unfold maxLen at hcm2
 clear hcell hR hg hx hcm
 go_wp2_with fail
 go_loop [3, 9] (fun u i => ∃ (k : Nat) (y : Int), k ≤ 4 ∧ i = .int .i64 k ∧ u = .int .u32 y ∧ Hid (y = acc4 (l.take k))) (fun _ i => 4 - (intOf i).toNat)
 case atStart => exact ⟨0, 0, by omega, rfl, rfl, rfl⟩
 case round =>
  obtain ⟨k, y, hk, rfl, rfl, hy⟩ := hrel
  by_cases h : k < 4
  · have hkl : k < l.length := by rw [HL.out]; exact h
    have hsn : acc4 (l.take (k + 1)) = y * 256 + (l[k]'hkl).toNat := by rw [List.take_succ_eq_append_getElem hkl, acc4_snoc, hy.out]
    have hlo := acc4_lo (l.take k)
    have hhi := acc4_hi (l.take k) 3 16777216 (by rw [List.length_take]; omega) (by decide)
    rw [← hy.out] at hlo hhi
    have hx := HC.out k hkl
    obtain ⟨x, hxx⟩ : ∃ x, l[k]'hkl = x := ⟨_, rfl⟩
    rw [hxx] at hsn hx
    unfold vb at hx
    have hor := or_byte y x hlo (by omega)
    have hyl := x.toNat_lt
    have HS := qh hsn
    have hk4 : (k : Int) < 4 := by omega
    clear hsn hxx
    go_wp2
    clear hor
    go_round
    case rel => exact ⟨k + 1, _, by omega, by go_num, rfl, HS.out.symm⟩
    case measure => simp [intOf]; omega
  · obtain rfl : k = 4 := by omega
    have HF : Hid (y = acc4 l) := by have := hy.out; rw [List.take_of_length_le (by rw [HL.out]; omega)] at this; exact this
    clear hy
    go_wp2
    go_ret
    have hfin : RdM w1 g (fourK r).2 A' n' c' := by rw [HE.out]; exact HR.out
    first
     | exact ⟨A', n', c', by rw [HE.out, ← HF.out]; rfl, hfin, HG.out⟩
     | exact ⟨by rw [HE.out, ← HF.out]; rfl, ⟨A', n', c', hfin⟩, HG.out⟩
theorem RdM.below {w w' : World} {g : Nat} {r : RS} {A : Option Addr} {n c B : Nat} (h : RdM w g r A n c) (hb : Below B w w') (hB : g < B) : RdM w' g r A n c :=
 ⟨(hb.cell (p := ⟨g, 0, none⟩) hB).trans h.c0, (hb.cell (p := ⟨g, 1, none⟩) hB).trans h.c1, (hb.frozen (p := ⟨g, 0, none⟩) hB).trans h.f0, (hb.frozen (p := ⟨g, 1, none⟩) hB).trans h.f1, h.rb.below (hb.mono (by omega)), h.n_, h.nc, h.cm⟩
theorem gr_below {a b : World} {r : Option Nat} (h : Below a.heap.size a b) : a.grownBy b r := ⟨h.os, h.tape, h.output, h.size, fun i hi _ => h.block i hi⟩
theorem num_rest (r : RS) : (numK r).2.rest.length ≤ r.rest.length := by
 unfold numK
 split
 · show (r.rest.drop _).length ≤ _; rw [List.length_drop]; omega
 · exact nl _
theorem OB.kept_gr {w w' : World} {base g : Nat} {v : Value} {l : List UInt8} (h : OB w base v l) (hg : w.grownBy w' (some g)) (hlt : g < base) : OB w' base v l := by
 refine World.ownsRow.kept h hg ?_
 cases hv : v.ownBlock with
 | none => exact .inl rfl
 | some k => exact .inr (fun e => by have h1 := h.ge k hv; have := Option.some.inj e; omega)
set_option maxHeartbeats 4000000 in
theorem press_any (g : Nat) (r : RS) (A : Option Addr) (n c : Nat) (w : World) (h : RdM w g r A n c) (hn : n ≤ 4096) :
 Calls Tryz.prog 155 #[.pointer (some ⟨g, 0, none⟩)] w fun e w' => ∃ v, e = .returned v ∧ OB w' w.heap.size v (pressK r).1 ∧ RdM w' g (pressK r).2 none 0 0 ∧ w.grownBy w' (some g) := by
 have HNU := qh (num_any g r A n c w h)
 have hgw := h.lt
 obtain ⟨m, hm⟩ : ∃ m, (numK r).1 = m := ⟨_, rfl⟩
 obtain ⟨s, hs⟩ : ∃ s, (numK r).2 = s := ⟨_, rfl⟩
 have hsl : s.rest.length ≤ 4096 := by have := num_rest r; rw [hs, h.n_] at this; omega
 rw [hm, hs] at HNU
 have HD : Hid (∀ W A1 n1 c1, RB W W.heap.size A1 s.rest → s.rest.length = n1 → n1 ≤ c1 → c1 ≤ maxLen → Calls Tryz.prog 176 #[.slice A1 n1 c1, .int .i64 32] W fun e w' => UnAns (cnt 32 0 (items true s.rest)) (expand 0 (items true s.rest)) W w' e ∧ Below W.heap.size W w') := fun W A1 n1 c1 hr hn1 hc1 hm1 =>
  dec_any A1 s.rest n1 c1 32 32 W (by omega) (by omega) hr hn1 hc1 hm1 (by omega) (fun t h => by have := cnt_le 32 _ 0 t (by omega) (fun x hx => (items_in s.rest true x hx).1) h; omega)
 have HM := qh hm; have HS := qh hs
 clear h hm hs hn hsl
 cases hc : cnt 32 0 (items true s.rest) with
 | form =>
   have HE : Hid (pressK r = ([], ⟨[], true⟩)) := by show _ = _; unfold pressK; rw [HS.out, hc]
   rw [hc] at HD
   unfold UnAns at HD
   clear hc
   go_enter Tryz.func155, Tryz.ntmps155
   go_wp2_with fail
   (with_reducible refine HNU.out.mono ?_)
   rintro e w1 ⟨A1, n1, c1, rfl, hR, hg⟩
   have HR := qh hR; have HG := qh hg
   have x0 := hR.c0
   have HDD := qh (HD.out w1 A1 n1 c1 (hR.rb.more (Nat.le_of_lt hR.lt)) hR.n_ hR.nc hR.cm)
   clear hR hg
   go_wp2_with fail
   (with_reducible refine HDD.out.mono ?_)
   rintro e w2 ⟨rfl, hb⟩
   have HR2 := qh (HR.out.below hb HR.out.lt)
   have HR3 := qh HR2.out.set1
   have y0 := HR2.out.c0; have y1 := HR2.out.c1; have f0 := HR2.out.f0; have f1 := HR2.out.f1
   have HB := qh hb
   clear hb x0 HDD HNU HD
   go_wp2_with fail
   go_ret
   refine ⟨_, rfl, by rw [HE.out]; exact OB.nil _ _, ?_, gr_trans HG.out (gr_trans (gr_below HB.out) (gr_trans (gr_set _ _ _ _) (gr_set _ _ _ _)))⟩
   rw [HE.out]
   exact HR3.out.set0 none 0 0 [] (RB.nil _ _ _) rfl (nl _) (by unfold maxLen; omega)
 | full =>
   have HE : Hid (pressK r = ([], ⟨[], true⟩)) := by show _ = _; unfold pressK; rw [HS.out, hc]
   rw [hc] at HD
   unfold UnAns at HD
   clear hc
   go_enter Tryz.func155, Tryz.ntmps155
   go_wp2_with fail
   (with_reducible refine HNU.out.mono ?_)
   rintro e w1 ⟨A1, n1, c1, rfl, hR, hg⟩
   have HR := qh hR; have HG := qh hg
   have x0 := hR.c0
   have HDD := qh (HD.out w1 A1 n1 c1 (hR.rb.more (Nat.le_of_lt hR.lt)) hR.n_ hR.nc hR.cm)
   clear hR hg
   go_wp2_with fail
   (with_reducible refine HDD.out.mono ?_)
   rintro e w2 ⟨rfl, hb⟩
   have HR2 := qh (HR.out.below hb HR.out.lt)
   have HR3 := qh HR2.out.set1
   have y0 := HR2.out.c0; have y1 := HR2.out.c1; have f0 := HR2.out.f0; have f1 := HR2.out.f1
   have HB := qh hb
   clear hb x0 HDD HNU HD
   go_wp2_with fail
   go_ret
   refine ⟨_, rfl, by rw [HE.out]; exact OB.nil _ _, ?_, gr_trans HG.out (gr_trans (gr_below HB.out) (gr_trans (gr_set _ _ _ _) (gr_set _ _ _ _)))⟩
   rw [HE.out]
   exact HR3.out.set0 none 0 0 [] (RB.nil _ _ _) rfl (nl _) (by unfold maxLen; omega)
 | ok t =>
   rw [hc] at HD
   unfold UnAns at HD
   have hit := items_in s.rest true
   have hle := cnt_le 32 _ 0 t (by omega) (fun x hx => (hit x hx).1) hc
   have hel := expand_len 32 _ 0 t 0 (fun x hx => (hit x hx).1) hc
   obtain ⟨L, hL⟩ : ∃ L : Nat, t = L := ⟨t.toNat, by omega⟩
   obtain ⟨xs, hxs⟩ : ∃ xs, expand 0 (items true s.rest) = xs := ⟨_, rfl⟩
   rw [hxs] at HD hel
   have hXL : xs.length = L := by omega
   have HXL := qh hXL
   by_cases hq : t = m
   · have HE : Hid (pressK r = (xs, ⟨[], s.bad⟩)) := by
      show _ = _; unfold pressK; rw [HS.out, HM.out, hc, hxs]
      show (xs, (⟨[], s.bad || decide (t ≠ m)⟩ : RS)) = _
      rw [decide_eq_false (by simpa using hq), Bool.or_false]
     have q1 : ((L : Int) != m) = false := by simp; omega
     have HQ := qh hq
     clear hc hit hle hel hxs hXL hq hL
     go_enter Tryz.func155, Tryz.ntmps155
     go_wp2_with fail
     (with_reducible refine HNU.out.mono ?_)
     rintro e w1 ⟨A1, n1, c1, rfl, hR, hg⟩
     have HR := qh hR; have HG := qh hg
     have x0 := hR.c0
     have HDD := qh (HD.out w1 A1 n1 c1 (hR.rb.more (Nat.le_of_lt hR.lt)) hR.n_ hR.nc hR.cm)
     clear hR hg
     go_wp2_with fail
     (with_reducible refine HDD.out.mono ?_)
     rintro e w2 ⟨⟨v, rfl, ov⟩, hb⟩
     obtain ⟨A2, c2, rfl, hc2, hcm2, hr2⟩ := ov.form_n L HXL.out
     have HR2 := qh (HR.out.below hb HR.out.lt)
     have y0 := HR2.out.c0; have y1 := HR2.out.c1; have f0 := HR2.out.f0; have f1 := HR2.out.f1
     have HB := qh hb; have HV := qh ov
     clear hb x0 HDD HNU HD hr2 ov hcm2
     go_wp2_with fail
     go_ret
     have hgg := gr_trans HG.out (gr_trans (gr_below HB.out) (gr_set w2 g 0 (.slice none 0 0)))
     refine ⟨_, rfl, ?_, ?_, hgg⟩
     · rw [HE.out]
       exact (HV.out.kept_gr (gr_set w2 g 0 (.slice none 0 0)) HR.out.lt).less HG.out.size
     · rw [HE.out]
       exact HR2.out.set0 none 0 0 [] (RB.nil _ _ _) rfl (nl _) (by unfold maxLen; omega)
   · have HE : Hid (pressK r = (xs, ⟨[], true⟩)) := by
      show _ = _; unfold pressK; rw [HS.out, HM.out, hc, hxs]
      show (xs, (⟨[], s.bad || decide (t ≠ m)⟩ : RS)) = _
      rw [decide_eq_true (by simpa using hq), Bool.or_true]
     have q1 : ((L : Int) != m) = true := by simp; omega
     have HQ := qh hq
     clear hc hit hle hel hxs hXL hq hL
     go_enter Tryz.func155, Tryz.ntmps155
     go_wp2_with fail
     (with_reducible refine HNU.out.mono ?_)
     rintro e w1 ⟨A1, n1, c1, rfl, hR, hg⟩
     have HR := qh hR; have HG := qh hg
     have x0 := hR.c0
     have HDD := qh (HD.out w1 A1 n1 c1 (hR.rb.more (Nat.le_of_lt hR.lt)) hR.n_ hR.nc hR.cm)
     clear hR hg
     go_wp2_with fail
     (with_reducible refine HDD.out.mono ?_)
     rintro e w2 ⟨⟨v, rfl, ov⟩, hb⟩
     obtain ⟨A2, c2, rfl, hc2, hcm2, hr2⟩ := ov.form_n L HXL.out
     have HR2 := qh (HR.out.below hb HR.out.lt)
     have HR3 := qh HR2.out.set1
     have y0 := HR2.out.c0; have y1 := HR2.out.c1; have f0 := HR2.out.f0; have f1 := HR2.out.f1
     have HB := qh hb; have HV := qh ov
     clear hb x0 HDD HNU HD hr2 ov hcm2
     go_wp2_with fail
     go_ret
     have hgs := gr_trans (gr_set w2 g 1 (.bool true)) (gr_set (w2.setCell ⟨g, 1, none⟩ (.bool true)) g 0 (.slice none 0 0))
     have hgg := gr_trans HG.out (gr_trans (gr_below HB.out) hgs)
     refine ⟨_, rfl, ?_, ?_, hgg⟩
     · rw [HE.out]
       exact (HV.out.kept_gr hgs HR.out.lt).less HG.out.size
     · rw [HE.out]
       exact HR3.out.set0 none 0 0 [] (RB.nil _ _ _) rfl (nl _) (by unfold maxLen; omega)
theorem beq_any (A1 A2 : Option Addr) (x y : List UInt8) (n1 n2 c1 c2 : Nat) (w : World) (h1 : RB w w.heap.size A1 x) (h2 : RB w w.heap.size A2 y) (k1 : x.length = n1) (k2 : y.length = n2) (b : Bool) (hb : b = true ↔ x = y) :
 Calls Tryz.prog 151 #[.slice A1 n1 c1, .slice A2 n2 c2] w fun e w' => e = .returned (.bool b) ∧ w = w' := by
 have q1 := conv_rb h1 n1 c1 k1
 have q2 := conv_rb h2 n2 c2 k2
 obtain ⟨s, hs⟩ : ∃ s, str x = s := ⟨_, rfl⟩
 obtain ⟨t, ht⟩ : ∃ t, str y = t := ⟨_, rfl⟩
 rw [hs] at q1
 rw [ht] at q2
 by_cases he : x = y
 · have HB := qh (hb.2 he)
   have hst : t = s := by rw [← hs, ← ht, he]
   subst hst
   clear hs ht h1 h2 hb he
   go_enter Tryz.func151, Tryz.ntmps151
   go_wp2
   go_ret
   exact ⟨by rw [HB.out]; rfl, rfl⟩
 · have HB := qh (show b = false by rw [Bool.eq_false_iff]; exact fun h => he (hb.1 h))
   have hq : (s.toList == t.toList) = false := by
    rw [beq_eq_false_iff_ne]
    intro h
    rw [← hs, ← ht, str_toList, str_toList] at h
    exact he h
   clear hs ht h1 h2 hb he
   go_enter Tryz.func151, Tryz.ntmps151
   go_wp2
   go_ret
   exact ⟨by rw [HB.out]; rfl, rfl⟩
theorem seal_split (l : List UInt8) (e : Nat) (he : e + 4 = l.length) : (l.drop e = s4 (tn (sumL (l.take e)))) ↔ l = sealK (l.take e) := by
 constructor
 · intro h
   unfold sealK
   rw [← h, List.take_append_drop]
 · intro h
   have h2 := List.take_append_drop e l
   have h3 : l.take e ++ l.drop e = l.take e ++ s4 (tn (sumL (l.take e))) := by rw [h2]; exact h
   exact List.append_cancel_left h3
theorem seal_take {l x : List UInt8} (h : l = sealK x) : l.take x.length = x ∧ x.length + 4 = l.length := by
 subst h
 exact ⟨by unfold sealK; rw [List.take_left], (sealK_len x).symm⟩
set_option maxHeartbeats 4000000 in
theorem unseal_four (A : Option Addr) (l : List UInt8) (e c : Nat) (w : World) (hT : TabW w) (hr : RB w w.heap.size A l) (hn : l.length = e + 4) (hc : e + 4 ≤ c) (hm : c ≤ maxLen) (b : Bool) (hb : b = true ↔ l = sealK (l.take e)) :
 Calls Tryz.prog 123 #[.slice A (e + 4 : Nat) c] w fun r w' => (b = true → r = .returned (.tuple #[.slice A e c, .bool true])) ∧ (b = false → r = .returned (.tuple #[.slice none 0 0, .bool false])) ∧ Below w.heap.size w w' := by
 obtain ⟨bl, off, rfl, hbl, -⟩ := hr (by omega)
 have hcm := hm
 unfold maxLen at hcm
 have HT := qh hT
 have HR1 := qh (hr.take e)
 have hd := hr.cut e c (by omega) (by omega)
 rw [if_neg (by omega)] at hd
 simp only [Option.map_some, Addr.add_lit] at hd
 have HR2 := qh hd
 have HN1 : Hid ((l.take e).length = e) := by show _ = _; rw [List.length_take]; omega
 have HN2 : Hid ((l.drop e).length = 4) := by show _ = _; rw [List.length_drop]; omega
 obtain ⟨z, hz⟩ : ∃ z, tn (sumL (l.take e)) = z := ⟨_, rfl⟩
 have hz0 : 0 ≤ z := by rw [← hz]; exact tn_lo _
 have hz1 : z ≤ 4294967295 := by rw [← hz]; exact tn_hi _
 have HB : Hid (b = true ↔ l.drop e = s4 z) := by show b = true ↔ _; rw [hb, ← hz]; exact (seal_split l e (by omega)).symm
 have HT2 : TabW w.drew := hT.below ((bR w.heap.size w).drew) hT.lt
 have HR1d : RB w.drew w.drew.heap.size (some ⟨bl, off, none⟩) (l.take e) := HR1.out.below ((bR w.heap.size w).drew)
 have HR2d : RB w.drew w.drew.heap.size (some ⟨bl, off + e, none⟩) (l.drop e) := HR2.out.below ((bR w.heap.size w).drew)
 have HSU := qh (sum_n (some ⟨bl, off, none⟩) (l.take e) e c w.drew HT2 HR1d HN1.out (by unfold maxLen; omega))
 rw [hz] at HSU
 have N : ((e + 4 : Nat) : Int) - 4 = (e : Int) := by omega
 have HF := qh (nfour_any z w.drew hz0 hz1)
 have ha : Below w.heap.size w (w.alloc (rowB (s4 z))).drew := ((bR _ _).alloc (nl _) _).drew
 have HEQ := qh (beq_any (some ⟨bl, off + e, none⟩) (some ⟨w.heap.size, 0, none⟩) (l.drop e) (s4 z) 4 4 (c - e) 4 (w.alloc (rowB (s4 z))).drew ((HR2.out.below ha).more ha.size) (((s4_reads w z).below ((bR _ _).drew)).more (by simp)) HN2.out (s4_len z) b HB.out)
 have HA := qh ha
 clear hT hr hn hb hz hd hm HT2 HR1d HR2d ha
 have hce : ¬ c = e := by omega
 have g0 : decide ((e : Int) < 0) = false := by simp
 go_enter Tryz.func123, Tryz.ntmps123
 go_upto_region 2 with fail
 go_cut [21] (fun s21 wx => s21 = .bool (!b) ∧ Hid (Below w.heap.size w wx))
 case first =>
  go_region_with (first
   | (go_at_call 150; (with_reducible refine HSU.out.mono ?_); rintro r w6 ⟨rfl, rfl⟩)
   | (go_at_call 149; (with_reducible refine HF.out.mono ?_); rintro r w7 ⟨rfl, rfl⟩)
   | (go_at_call 151; (with_reducible refine HEQ.out.mono ?_); rintro r w8 ⟨rfl, rfl⟩))
  all_goals
   go_wp2_with fail
   go_meet
   exact ⟨rfl, HA.out⟩
 case rest =>
  obtain ⟨rfl, HW⟩ := hcut
  clear HEQ HF HSU HR1 HR2 HT
  cases b
  · go_wp2
    go_ret2
    exact ⟨rfl, HW.out⟩
  · go_wp2
    go_ret2
    exact ⟨rfl, HW.out⟩
set_option maxHeartbeats 4000000 in
theorem unseal_less (A : Option Addr) (n c : Nat) (w : World) (hn : n < 4) :
 Calls Tryz.prog 123 #[.slice A n c] w fun r w' => r = .returned (.tuple #[.slice none 0 0, .bool false]) ∧ Below w.heap.size w w' := by
 obtain ⟨z, hz⟩ : ∃ z : Int, (n : Int) - 4 = z := ⟨_, rfl⟩
 have g0 : decide (z < 0) = true := by simp; omega
 have g1 : z < 0 := by omega
 have HZ : Hid (Below w.heap.size w w.drew) := (bR _ _).drew
 go_enter Tryz.func123, Tryz.ntmps123
 go_wp2
 go_region
 go_wp2
 go_ret2
 exact ⟨rfl, HZ.out⟩
def PkM (w : World) (P : Nat) (k f t id fi : Int) (A : Option Addr) (n c : Nat) (ac fr su : Int) : Prop := w.heap[P]? = some (pkO k f t id fi A n c ac fr su)
theorem PkM.c {w : World} {P : Nat} {k f t id fi : Int} {A : Option Addr} {n c : Nat} {ac fr su : Int} (h : PkM w P k f t id fi A n c ac fr su) :
 w.cell? ⟨P, 0, none⟩ = some (.int .i64 k) ∧ w.cell? ⟨P, 1, none⟩ = some (.int .i64 f) ∧ w.cell? ⟨P, 2, none⟩ = some (.int .i64 t) ∧ w.cell? ⟨P, 3, none⟩ = some (.int .i64 id) ∧ w.cell? ⟨P, 4, none⟩ = some (.int .i64 fi) ∧ w.cell? ⟨P, 5, none⟩ = some (.slice A n c) ∧ w.cell? ⟨P, 6, none⟩ = some (.int .i64 ac) ∧ w.cell? ⟨P, 7, none⟩ = some (.int .i64 fr) ∧ w.cell? ⟨P, 8, none⟩ = some (.int .u32 su) := by
 refine ⟨?_, ?_, ?_, ?_, ?_, ?_, ?_, ?_, ?_⟩ <;> (rw [cell_of_row _ _ _ _ _ _ h]; rfl)
theorem PkM.fz {w : World} {P : Nat} {k f t id fi : Int} {A : Option Addr} {n c : Nat} {ac fr su : Int} (h : PkM w P k f t id fi A n c ac fr su) (j : Nat) : w.frozen? ⟨P, j, none⟩ = false := by
 unfold PkM at h
 simp [World.frozen?, h]
theorem PkM.lt {w : World} {P : Nat} {k f t id fi : Int} {A : Option Addr} {n c : Nat} {ac fr su : Int} (h : PkM w P k f t id fi A n c ac fr su) : P < w.heap.size := cell_lt h.c.1
theorem PkM.kept {w w' : World} {P g : Nat} {k f t id fi : Int} {A : Option Addr} {n c : Nat} {ac fr su : Int} (h : PkM w P k f t id fi A n c ac fr su) (hg : w.grownBy w' (some g)) (hne : P ≠ g) : PkM w' P k f t id fi A n c ac fr su :=
 (hg.block P h.lt (fun e => hne (Option.some.inj e))).trans h
theorem PkM.below {w w' : World} {P B : Nat} {k f t id fi : Int} {A : Option Addr} {n c : Nat} {ac fr su : Int} (h : PkM w P k f t id fi A n c ac fr su) (hb : Below B w w') (hB : P < B) : PkM w' P k f t id fi A n c ac fr su := (hb.block P hB).trans h
theorem PkM.new (w : World) (k f t id fi : Int) (A : Option Addr) (n c : Nat) (ac fr su : Int) : PkM (w.alloc (pkO k f t id fi A n c ac fr su)) w.heap.size k f t id fi A n c ac fr su := heap_alloc_new w _
theorem PkM.set_fi {w : World} {P : Nat} {k f t id fi : Int} {A : Option Addr} {n c : Nat} {ac fr su : Int} (h : PkM w P k f t id fi A n c ac fr su) (v : Int) : PkM (w.setCell ⟨P, 4, none⟩ (.int .i64 v)) P k f t id v A n c ac fr su := by
 unfold PkM at h ⊢
 simp only [World.setCell]
 rw [Array.getElem?_modify, if_pos rfl, h]
 rfl
theorem PkM.set_ac {w : World} {P : Nat} {k f t id fi : Int} {A : Option Addr} {n c : Nat} {ac fr su : Int} (h : PkM w P k f t id fi A n c ac fr su) (v : Int) : PkM (w.setCell ⟨P, 6, none⟩ (.int .i64 v)) P k f t id fi A n c v fr su := by
 unfold PkM at h ⊢
 simp only [World.setCell]
 rw [Array.getElem?_modify, if_pos rfl, h]
 rfl
theorem PkM.set_fr {w : World} {P : Nat} {k f t id fi : Int} {A : Option Addr} {n c : Nat} {ac fr su : Int} (h : PkM w P k f t id fi A n c ac fr su) (v : Int) : PkM (w.setCell ⟨P, 7, none⟩ (.int .i64 v)) P k f t id fi A n c ac v su := by
 unfold PkM at h ⊢
 simp only [World.setCell]
 rw [Array.getElem?_modify, if_pos rfl, h]
 rfl
theorem PkM.set_su {w : World} {P : Nat} {k f t id fi : Int} {A : Option Addr} {n c : Nat} {ac fr su : Int} (h : PkM w P k f t id fi A n c ac fr su) (v : Int) : PkM (w.setCell ⟨P, 8, none⟩ (.int .u32 v)) P k f t id fi A n c ac fr v := by
 unfold PkM at h ⊢
 simp only [World.setCell]
 rw [Array.getElem?_modify, if_pos rfl, h]
 rfl
theorem PkM.set_pr {w : World} {P : Nat} {k f t id fi : Int} {A : Option Addr} {n c : Nat} {ac fr su : Int} (h : PkM w P k f t id fi A n c ac fr su) (A2 : Option Addr) (n2 c2 : Nat) : PkM (w.setCell ⟨P, 5, none⟩ (.slice A2 n2 c2)) P k f t id fi A2 n2 c2 ac fr su := by
 unfold PkM at h ⊢
 simp only [World.setCell]
 rw [Array.getElem?_modify, if_pos rfl, h]
 rfl
theorem PkM.set_id {w : World} {P : Nat} {k f t id fi : Int} {A : Option Addr} {n c : Nat} {ac fr su : Int} (h : PkM w P k f t id fi A n c ac fr su) (v : Int) : PkM (w.setCell ⟨P, 3, none⟩ (.int .i64 v)) P k f t v fi A n c ac fr su := by
 unfold PkM at h ⊢
 simp only [World.setCell]
 rw [Array.getElem?_modify, if_pos rfl, h]
 rfl
theorem pk_info : (Tryz.prog.info? 36).map (·.size) = some 9 := by kernel_rfl
theorem wp_store_pk {w : World} {o : Oper} {a : Act} {K : Act → World → Prop} {Q : Exit → Act → World → Prop} (x y : Operand) (ho : o.op = .store 36 x y)
 (b : Nat) (hx : a.eval x = .pointer (some ⟨b, 0, none⟩)) {k f t id fi : Int} {A : Option Addr} {n c : Nat} {ac fr su : Int} (h : PkM w b k f t id fi A n c ac fr su)
 {k2 f2 t2 id2 fi2 : Int} {A2 : Option Addr} {n2 c2 : Nat} {ac2 fr2 su2 : Int} (hy : a.eval y = pkV k2 f2 t2 id2 fi2 A2 n2 c2 ac2 fr2 su2)
 (hk : ∀ w', PkM w' b k2 f2 t2 id2 fi2 A2 n2 c2 ac2 fr2 su2 → w'.heap.size = w.heap.size → w.grownBy w' (some b) → K (a.put o.dst undef) w') : o.wp Tryz.prog a w K Q := by
 have hrun := run_storeVar_row (P := Tryz.prog) w b 36 36 _ #[.int .i64 k2, .int .i64 f2, .int .i64 t2, .int .i64 id2, .int .i64 fi2, .slice A2 n2 c2, .int .i64 ac2, .int .i64 fr2, .int .u32 su2] h (by rw [pk_info]; rfl) rfl (by simp [Value.oneCell'])
 unfold Oper.wp execOp
 simp only [ho, hx, hy, pkV, Instr.storeAt, Instr.sureAddr, Sem.run_bind, Sem.run_pure, Result.andThen_ok, hrun]
 exact hk _ (setRow_heap w b _ _ _ _ h) (by simp [World.setRow]) ⟨rfl, rfl, rfl, by simp [World.setRow], fun k hk hne => setRow_other w b k _ (fun e => hne (by rw [e]))⟩
theorem wpList_store_pk {w : World} {ops : Array Oper} {rest : List Oper} {o : Oper} {a : Act} {Q : Exit → Act → World → Prop} (hgd : o.guard = none) (x y : Operand) (ho : o.op = .store 36 x y)
 (b : Nat) (hx : a.eval x = .pointer (some ⟨b, 0, none⟩)) {k f t id fi : Int} {A : Option Addr} {n c : Nat} {ac fr su : Int} (h : PkM w b k f t id fi A n c ac fr su)
 {k2 f2 t2 id2 fi2 : Int} {A2 : Option Addr} {n2 c2 : Nat} {ac2 fr2 su2 : Int} (hy : a.eval y = pkV k2 f2 t2 id2 fi2 A2 n2 c2 ac2 fr2 su2)
 (hk : ∀ w', PkM w' b k2 f2 t2 id2 fi2 A2 n2 c2 ac2 fr2 su2 → w'.heap.size = w.heap.size → w.grownBy w' (some b) → wpList Tryz.prog ops Q rest (a.put o.dst undef) w') : wpList Tryz.prog ops Q (o :: rest) a w :=
 wpList_plain hgd fun K hK => wp_store_pk x y ho b hx h hy fun w' h1 h2 h3 => hK _ _ (hk w' h1 h2 h3)
theorem run_load_pk (w : World) (b : Nat) {k f t id fi : Int} {A : Option Addr} {n c : Nat} {ac fr su : Int} (h : PkM w b k f t id fi A n c ac fr su) :
 (loadVar 36 ⟨b, 0, none⟩).run Tryz.prog w = .ok (pkV k f t id fi A n c ac fr su) w :=
 run_loadVar_row w b 36 36 _ (0, 0) _ h Tryz.underlying36 rfl (by rw [pk_info]; rfl)
theorem exec_load_pk {S : World → Prop} {op : Oper} {a : Act} (x : Operand) (ho : op.op = .load 36 x) (b : Nat) (hx : a.eval x = .pointer (some ⟨b, 0, none⟩)) {k f t id fi : Int} {A : Option Addr} {n c : Nat} {ac fr su : Int} (hS : ∀ w, S w → PkM w b k f t id fi A n c ac fr su) (w : World) (hw : S w) :
 (execOp a.eval op).run Tryz.prog w = .ok (.value (pkV k f t id fi A n c ac fr su)) w := by
 have := run_load_pk w b (hS w hw)
 unfold execOp
 simp only [ho, hx, Instr.loadAt, Instr.sureAddr, Sem.run_bind, Sem.run_pure, Result.andThen_ok, this]
theorem wpList_load_pk {w : World} {ops : Array Oper} {rest : List Oper} {o : Oper} {a : Act} {Q : Exit → Act → World → Prop} (hgd : o.guard = none) (x : Operand) (ho : o.op = .load 36 x)
 (b : Nat) (hx : a.eval x = .pointer (some ⟨b, 0, none⟩)) {k f t id fi : Int} {A : Option Addr} {n c : Nat} {ac fr su : Int} (h : PkM w b k f t id fi A n c ac fr su)
 (hk : wpList Tryz.prog ops Q rest (a.put o.dst (pkV k f t id fi A n c ac fr su)) w) : wpList Tryz.prog ops Q (o :: rest) a w := by
 refine wpList_plain hgd fun K hK => ?_
 have hrun := run_load_pk w b h
 unfold Oper.wp execOp
 simp only [ho, hx, Instr.loadAt, Instr.sureAddr, Sem.run_bind, Sem.run_pure, Result.andThen_ok, hrun]
 exact hK _ _ hk
end Go.Proofs.YtpnobpligchpiaaGreatDoor
