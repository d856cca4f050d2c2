/- WALKS of the laws of layer 18: begun. -/
import Derived.Test.YtphcbeccipjlgaaFp
namespace Go.Proofs.Ytphcbeccipjlgaa
set_option maxRecDepth 100000
open Go.RowKit Go.Maps
set_option linter.unusedVariables false
set_option linter.unusedSimpArgs false

def pst : List UInt8 := [1, 2, 1, 2, 1]
def kM1 : Kd := ⟨2, 1, []⟩
def kL : Kd := ⟨1, 0, []⟩
def kT9 : Kd := ⟨3, 0, [9]⟩
set_option maxHeartbeats 4000000 in
theorem rk1 : (rk (sc kM1 pst)).take 3 = [2, 1, 0] := by decide +kernel
set_option maxHeartbeats 4000000 in
theorem rk2 : (rk (sc kL pst)).take 2 = [1, 0] := by decide +kernel
set_option maxHeartbeats 4000000 in
theorem rk3 : (rk (sc kT9 pst)).take 2 = [9, 1] := by decide +kernel
set_option maxHeartbeats 4000000 in
theorem ch1 : chN kM1 3 pst = [2, 1, 2] := by decide +kernel
theorem RB.then_ {w w' : World} {B : Nat} {A : Option Addr} {l : List UInt8} (h : RB w B A l) (hB : B ≤ w.heap.size) (hb : Below w.heap.size w w') : RB w' w'.heap.size A l := RB.more (h.below (hb.mono hB)) (Nat.le_trans hB hb.size)
/-- what a law's call of Rank says, at a kind of plain numbers -/
theorem rank_at (b : Kd) (z o : Int) (hz : z = (b.k : Int)) (ho : o = (b.o : Int)) (A : Option Addr) (n c : Nat) (P : Option Addr) (p : List UInt8) (L pc : Nat) (k : Int) (w : World) (hk : KM w b A n c) (hp : PM w P p L pc) (hl : L ≤ 2000) (m : Nat) (hm : min (max k 0) 256 = (m : Int)) (r : List UInt8) (hr : (rk (sc b p)).take m = r) :
    Calls Try.prog 17 #[.agg #[.int .i64 z, .int .i64 o, .slice A n c], .slice P L pc, .int .i64 k] w fun e w' => (∃ g, e = .returned (.slice (some ⟨g, 0, none⟩) m 256) ∧ w.heap.size ≤ g ∧ RB w' w'.heap.size (some ⟨g, 0, none⟩) r) ∧ Below w.heap.size w w' := by
  subst hz ho hr
  exact rank_any b A n c P p L pc k w hk hp hl m hm
theorem chain_at (b : Kd) (z o : Int) (hz : z = (b.k : Int)) (ho : o = (b.o : Int)) (A : Option Addr) (n c : Nat) (P : Option Addr) (p : List UInt8) (L pc : Nat) (k : Int) (w : World) (hk : KM w b A n c) (hp : PM w P p L pc) (hl : L ≤ 900) (m : Nat) (hm : min (max k 0) 1000 = (m : Int)) (r : List UInt8) (hr : chN b m p = r) :
    Calls Try.prog 19 #[.agg #[.int .i64 z, .int .i64 o, .slice A n c], .slice P L pc, .int .i64 k] w fun e w' => (∃ A' c', e = .returned (.slice A' m c') ∧ m ≤ c' ∧ c' ≤ maxLen ∧ RB w' w'.heap.size A' r) ∧ Below w.heap.size w w' := by
  subst hz ho hr
  exact chain_any b A n c P p L pc k w hk hp hl m hm
theorem may_at (z o : Int) (A : Option Addr) (n c : Nat) (w : World) (hn : n ≤ maxLen) (r : Bool) (hr : mayB z o n = r) : Calls Try.prog 14 #[.agg #[.int .i64 z, .int .i64 o, .slice A n c]] w fun e w' => e = .returned (.bool r) ∧ Below w.heap.size w w' := by
  subst hr
  exact may_any z o A n c w hn
theorem km_nil (w : World) (b : Kd) (hok : b.ok) (ht : b.tb = []) : KM w b none 0 0 := ⟨hok, by rw [ht]; rfl, Nat.le_refl _, by unfold maxLen; omega, by rw [ht]; exact RB.nil _ _ _⟩
set_option maxHeartbeats 4000000 in
theorem begun18_any (w : World) : Calls Try.prog 11 #[] w fun e w' => e = .returned (.bool true) ∧ Below w.heap.size w w' := by
  obtain ⟨w2, hw2⟩ : ∃ w2, (w.alloc (.cells #[.int .u8 1, .int .u8 2, .int .u8 1, .int .u8 2, .int .u8 1] 5)).alloc (.cells #[.int .i64 2, .int .i64 1, .slice none 0 0] 29) = w2 := ⟨_, rfl⟩
  have b2 : Below w.heap.size w w2 := by rw [← hw2]; exact ((Below.refl _ _).alloc (Nat.le_refl _) _).alloc (by simp) _
  have s2 : w2.heap.size = w.heap.size + 2 := by rw [← hw2]; simp
  have hbox : w2.heap[w.heap.size + 1]? = some (.cells #[.int .i64 2, .int .i64 1, .slice none 0 0] 29 (0, 0)) := by
    rw [← hw2]
    have h0 := heap_alloc_last (w.alloc (.cells #[.int .u8 1, .int .u8 2, .int .u8 1, .int .u8 2, .int .u8 1] 5)) (.cells #[.int .i64 2, .int .i64 1, .slice none 0 0] 29)
    simpa using h0
  have hp2 : PM w2 (some ⟨w.heap.size, 0, none⟩) pst 5 5 := by
    refine ⟨rfl, Nat.le_refl _, by unfold maxLen; omega, ?_⟩
    have h := rb_cells w pst 5 (w.heap.size + 1) (by omega)
    have h1 := h.below ((Below.refl (w.heap.size + 1) (w.alloc (.cells (pst.map vb).toArray 5))).alloc (by simp) (.cells #[.int .i64 2, .int .i64 1, .slice none 0 0] 29))
    have h2 : RB w2 (w.heap.size + 1) (some ⟨w.heap.size, 0, none⟩) pst := by rw [← hw2]; exact h1
    exact RB.more h2 (by rw [s2]; omega)
  have HW := Lib.hid hw2; have B2 := Lib.hid b2; have S2 := Lib.hid s2; have HX := Lib.hid hbox; have HP2 := Lib.hid hp2
  have H1 := Lib.hid (rank_at kM1 2 1 rfl rfl none 0 0 _ pst 5 5 3 w2 (km_nil w2 kM1 (.inr (.inl ⟨rfl, by decide, rfl⟩)) rfl) hp2 (by omega) 3 (by decide) _ rk1)
  rw [← HW.out] at H1
  clear hw2 b2 s2 hbox hp2
  go_enter Try.func11, Try.ntmps11
  go_wp2_with fail
  (with_reducible refine H1.out.mono ?_)
  rintro e w3 ⟨⟨g1, rfl, hg1, hr1⟩, hb3⟩
  rw [HW.out] at hb3
  have B3 := Lib.hid (B2.out.trans (hb3.mono B2.out.size))
  have X3 : Hid (Below (w.heap.size + 2) w2 w3) := hb3.mono (by rw [S2.out]; exact Nat.le_refl _)
  have HP3 := Lib.hid (HP2.out.then_ hb3)
  have HR1 := Lib.hid hr1
  have H2 := Lib.hid (rank_at kL 1 0 rfl rfl none 0 0 _ pst 5 5 2 w3 (km_nil w3 kL (.inl ⟨rfl, rfl, rfl⟩) rfl) HP3.out (by omega) 2 (by decide) _ rk2)
  clear hg1 hr1 hb3 H1 HP2 HW
  go_wp2_with fail
  (with_reducible refine H2.out.mono ?_)
  rintro e w4 ⟨⟨g2, rfl, hg2, hr2⟩, hb4⟩
  have HR1b := Lib.hid (HR1.out.then_ (Nat.le_refl _) hb4)
  have HR2 := Lib.hid hr2
  have B4 := Lib.hid (B3.out.trans (hb4.mono B3.out.size))
  have X4 : Hid (Below (w.heap.size + 2) w2 w4) := X3.out.trans (hb4.mono (by have := X3.out.size; have := S2.out; omega))
  have HP4 := Lib.hid (HP3.out.then_ hb4)
  have s4 : w.heap.size + 2 ≤ w4.heap.size := by have := X4.out.size; have := S2.out; omega
  have S4 := Lib.hid s4
  obtain ⟨w5, hw5⟩ : ∃ w5, w4.alloc (.cells #[.int .u8 9] 5) = w5 := ⟨_, rfl⟩
  have b5 : Below w4.heap.size w4 w5 := by rw [← hw5]; exact (Below.refl _ _).alloc (Nat.le_refl _) _
  have k5 : KM w5 kT9 (some ⟨w4.heap.size, 0, none⟩) 1 1 := by
    refine ⟨.inr (.inr ⟨rfl, rfl, by decide, by decide⟩), rfl, Nat.le_refl _, by unfold maxLen; omega, ?_⟩
    rw [← hw5]
    exact rb_cells w4 [9] 5 _ (by simp)
  have H3 := Lib.hid (rank_at kT9 3 0 rfl rfl _ 1 1 _ pst 5 5 2 w5 k5 (HP4.out.then_ b5) (by omega) 2 (by decide) _ rk3)
  have HW5 := Lib.hid hw5
  have B5 := Lib.hid b5
  rw [← HW5.out] at H3
  clear hg2 hr2 hb4 H2 HP3 HR1 X3 B3 s4 hw5 b5 k5
  go_wp2_with fail
  (with_reducible refine H3.out.mono ?_)
  rintro e w6 ⟨⟨g3, rfl, hg3, hr3⟩, hb6⟩
  rw [HW5.out] at hb6
  have hb46 : Below w4.heap.size w4 w6 := B5.out.trans (hb6.mono B5.out.size)
  have R1 := Lib.hid (HR1b.out.then_ (Nat.le_refl _) hb46)
  have R2 := Lib.hid (HR2.out.then_ (Nat.le_refl _) hb46)
  have R3 := Lib.hid hr3
  have B6 := Lib.hid (B4.out.trans (hb46.mono B4.out.size))
  have X6 : Hid (Below (w.heap.size + 2) w2 w6) := X4.out.trans (hb46.mono S4.out)
  have HP6 := Lib.hid (HP4.out.then_ hb46)
  have BX : Hid (∀ wx, Below (w.heap.size + 2) w2 wx → wx.cell? ⟨w.heap.size + 1, 0, none⟩ = some (.int .i64 2) ∧ wx.cell? ⟨w.heap.size + 1, 1, none⟩ = some (.int .i64 1) ∧ wx.cell? ⟨w.heap.size + 1, 2, none⟩ = some (.slice none 0 0)) := fun wx hx =>
    ⟨(hx.cell (p := ⟨w.heap.size + 1, 0, none⟩) (by show w.heap.size + 1 < _; omega)).trans (cell_of_row _ _ _ _ _ _ HX.out),
     (hx.cell (p := ⟨w.heap.size + 1, 1, none⟩) (by show w.heap.size + 1 < _; omega)).trans (cell_of_row _ _ _ _ _ _ HX.out),
     (hx.cell (p := ⟨w.heap.size + 1, 2, none⟩) (by show w.heap.size + 1 < _; omega)).trans (cell_of_row _ _ _ _ _ _ HX.out)⟩
  have c60 := (BX.out w6 X6.out).1
  have c61 := (BX.out w6 X6.out).2.1
  have c62 := (BX.out w6 X6.out).2.2
  have H4 := Lib.hid (may_at 2 1 none 0 0 w6 (by unfold maxLen; omega) true (by decide))
  have S6 : Hid (w.heap.size + 2 ≤ w6.heap.size) := by unfold Hid; have := X6.out.size; have := S2.out; omega
  clear hg3 hr3 hb6 hb46 H3 HP4 HR1b HR2 X4 B4 B5 S4 HW5
  go_wp2_with fail
  (with_reducible refine H4.out.mono ?_)
  rintro e w7 ⟨rfl, hb7⟩
  have H5 := Lib.hid (may_at 0 0 none 0 0 w7 (by unfold maxLen; omega) false (by decide))
  have HB7 := Lib.hid hb7
  clear hb7 H4 c60 c61 c62
  go_wp2_with fail
  (with_reducible refine H5.out.mono ?_)
  rintro e w8 ⟨rfl, hb8⟩
  have hb68 : Below w6.heap.size w6 w8 := HB7.out.trans (hb8.mono HB7.out.size)
  have cv1 := conv_rb (R1.out.then_ (Nat.le_refl _) hb68) 3 256 rfl
  have cv2 := conv_rb (R2.out.then_ (Nat.le_refl _) hb68) 2 256 rfl
  have cv3 := conv_rb (R3.out.then_ (Nat.le_refl _) hb68) 2 256 rfl
  have X8 : Below (w.heap.size + 2) w2 w8 := X6.out.trans (hb68.mono S6.out)
  have c80 := (BX.out w8 X8).1
  have c81 := (BX.out w8 X8).2.1
  have c82 := (BX.out w8 X8).2.2
  have B8 := Lib.hid (B6.out.trans (hb68.mono B6.out.size))
  have H6 := Lib.hid (chain_at kM1 2 1 rfl rfl none 0 0 _ pst 5 5 3 w8 (km_nil w8 kM1 (.inr (.inl ⟨rfl, by decide, rfl⟩)) rfl) (HP6.out.then_ hb68) (by omega) 3 (by decide) _ ch1)
  have e1 : str [2, 1, 0] = ⟨#[2, 1, 0]⟩ := rfl
  have e2 : str [1, 0] = ⟨#[1, 0]⟩ := rfl
  have e3 : str [9, 1] = ⟨#[9, 1]⟩ := rfl
  rw [e1] at cv1; rw [e2] at cv2; rw [e3] at cv3
  clear hb8 hb68 X8 H5 R1 R2 R3 HP6 X6 B6 HB7 e1 e2 e3
  go_wp2_with fail
  (with_reducible refine H6.out.mono ?_)
  rintro e w9 ⟨⟨A9, c9, rfl, hc9, hm9, hr9⟩, hb9⟩
  have cv4 := conv_rb hr9 3 c9 rfl
  have e4 : str [2, 1, 2] = ⟨#[2, 1, 2]⟩ := rfl
  rw [e4] at cv4
  have B9 := Lib.hid (B8.out.trans (hb9.mono B8.out.size))
  clear hb9 hr9 H6 e4
  go_wp2_with fail
  go_ret
  exact ⟨rfl, B9.out⟩
end Go.Proofs.Ytphcbeccipjlgaa
