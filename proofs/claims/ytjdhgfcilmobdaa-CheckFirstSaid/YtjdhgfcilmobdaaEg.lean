/- THE WALK of the laws' begun. -/
import Derived.Test.YtjdhgfcilmobdaaEd
import Derived.Test.YtjdhgfcilmobdaaEf
import Derived.Test.YtjdhgfcilmobdaaOm
import Derived.Test.YtjdhgfcilmobdaaOo
namespace Go.Proofs.Ytjdhgfcilmobdaa
set_option maxRecDepth 100000
open Go.RowKit
set_option linter.unusedVariables false

def pOps : List O4 := [⟨15, 3, 0, 0⟩, ⟨9, 2, 0, 0⟩]
def qOps : List O4 := [⟨15, 3, 0, 0⟩, ⟨9, 3, 0, 0⟩]
theorem k_p : faultN (titB ⟨#[116]⟩) pOps = -1 := by decide +kernel
theorem k_q : faultN (titB ⟨#[116]⟩) qOps = 1 := by decide +kernel
theorem k_0 : faultN (titB ⟨#[]⟩) [] = -2 := by
  unfold faultN
  rw [if_neg (by
    have : fitsB (titB ⟨#[]⟩) [] = false := by unfold fitsB; simp
    rw [this]; decide)]
theorem k_mayp (A : Option Addr) (B : Nat) (w : World) (hr : RO w B A pOps) (hB : B ≤ w.heap.size) :
    Calls Try.prog 12 #[.agg #[.string ⟨#[116]⟩, .slice A 2 2]] w fun e w' => e = .returned (.bool true) ∧ Below w.heap.size w w' := by
  have h := may_any ⟨#[116]⟩ A pOps 2 B w hr hB (by decide) (by decide) (by decide)
  rw [k_p] at h
  exact h
theorem k_faultp (A : Option Addr) (B : Nat) (w : World) (hr : RO w B A pOps) (hB : B ≤ w.heap.size) :
    Calls Try.prog 11 #[.agg #[.string ⟨#[116]⟩, .slice A 2 2]] w fun e w' => e = .returned (.int .i64 (-1)) ∧ Below w.heap.size w w' := by
  have h := fault_any ⟨#[116]⟩ A pOps 2 B w hr hB (by decide) (by decide) (by decide)
  rw [k_p] at h
  exact h
theorem k_mayq (A : Option Addr) (B : Nat) (w : World) (hr : RO w B A qOps) (hB : B ≤ w.heap.size) :
    Calls Try.prog 12 #[.agg #[.string ⟨#[116]⟩, .slice A 2 2]] w fun e w' => e = .returned (.bool false) ∧ Below w.heap.size w w' := by
  have h := may_any ⟨#[116]⟩ A qOps 2 B w hr hB (by decide) (by decide) (by decide)
  rw [k_q] at h
  exact h
theorem k_faultq (A : Option Addr) (B : Nat) (w : World) (hr : RO w B A qOps) (hB : B ≤ w.heap.size) :
    Calls Try.prog 11 #[.agg #[.string ⟨#[116]⟩, .slice A 2 2]] w fun e w' => e = .returned (.int .i64 1) ∧ Below w.heap.size w w' := by
  have h := fault_any ⟨#[116]⟩ A qOps 2 B w hr hB (by decide) (by decide) (by decide)
  rw [k_q] at h
  exact h
theorem k_fault0 (w : World) :
    Calls Try.prog 11 #[.agg #[.string ⟨#[]⟩, .slice none 0 0]] w fun e w' => e = .returned (.int .i64 (-2)) ∧ Below w.heap.size w w' := by
  have h := fault_any ⟨#[]⟩ none [] 0 0 w (RO.nil _ _ _) (Nat.zero_le _) (by decide) (by decide) (by decide)
  rw [k_0] at h
  exact h
theorem row2 (w : World) (a b : O4) : OpRow (w.alloc (.cells #[.int .i64 a.k, .int .i64 a.a, .int .i64 a.b, .int .i64 a.c, .int .i64 b.k, .int .i64 b.a, .int .i64 b.b, .int .i64 b.c] 30)) w.heap.size 2 [a, b] := World.rowIs_alloc w _ _ _ (fun i hi => by
  have hi : i < 8 := hi
  obtain rfl | rfl | rfl | rfl | rfl | rfl | rfl | rfl : i = 0 ∨ i = 1 ∨ i = 2 ∨ i = 3 ∨ i = 4 ∨ i = 5 ∨ i = 6 ∨ i = 7 := by omega
  all_goals rfl)
def begunW (w : World) : World := (((w.alloc (.cells #[.int .i64 15, .int .i64 3, .int .i64 0, .int .i64 0, .int .i64 9, .int .i64 2, .int .i64 0, .int .i64 0] 30)).alloc (.cells #[.string ⟨#[116]⟩, .slice (some ⟨w.heap.size, 0, none⟩) 2 2] 24)).alloc
  (.cells #[.int .i64 15, .int .i64 3, .int .i64 0, .int .i64 0, .int .i64 9, .int .i64 3, .int .i64 0, .int .i64 0] 30)).alloc (.cells #[.string ⟨#[116]⟩, .slice (some ⟨w.heap.size + 1 + 1, 0, none⟩) 2 2] 24)
theorem begunW_facts (w W : World) (h : W = begunW w) : RO W W.heap.size (some ⟨w.heap.size, 0, none⟩) pOps ∧ RO W W.heap.size (some ⟨w.heap.size + 1 + 1, 0, none⟩) qOps ∧
    W.cell? ⟨w.heap.size + 1, 0, none⟩ = some (.string ⟨#[116]⟩) ∧ W.cell? ⟨w.heap.size + 1, 1, none⟩ = some (.slice (some ⟨w.heap.size, 0, none⟩) 2 2) ∧
    W.cell? ⟨w.heap.size + 1 + 1 + 1, 0, none⟩ = some (.string ⟨#[116]⟩) ∧ W.cell? ⟨w.heap.size + 1 + 1 + 1, 1, none⟩ = some (.slice (some ⟨w.heap.size + 1 + 1, 0, none⟩) 2 2) ∧
    Below w.heap.size w W ∧ W.heap.size = w.heap.size + 1 + 1 + 1 + 1 := by
  unfold begunW at h
  obtain ⟨o1, ho1⟩ : ∃ o : Obj, o = .cells #[.int .i64 15, .int .i64 3, .int .i64 0, .int .i64 0, .int .i64 9, .int .i64 2, .int .i64 0, .int .i64 0] 30 := ⟨_, rfl⟩
  obtain ⟨o3, ho3⟩ : ∃ o : Obj, o = .cells #[.int .i64 15, .int .i64 3, .int .i64 0, .int .i64 0, .int .i64 9, .int .i64 3, .int .i64 0, .int .i64 0] 30 := ⟨_, rfl⟩
  obtain ⟨o2, ho2⟩ : ∃ o : Obj, o = .cells #[.string ⟨#[116]⟩, .slice (some ⟨w.heap.size, 0, none⟩) 2 2] 24 := ⟨_, rfl⟩
  obtain ⟨o4, ho4⟩ : ∃ o : Obj, o = .cells #[.string ⟨#[116]⟩, .slice (some ⟨w.heap.size + 1 + 1, 0, none⟩) 2 2] 24 := ⟨_, rfl⟩
  rw [← ho1, ← ho2, ← ho3, ← ho4] at h
  obtain ⟨W1, h1⟩ : ∃ x, x = w.alloc o1 := ⟨_, rfl⟩
  rw [← h1] at h
  obtain ⟨W2, h2⟩ : ∃ x, x = W1.alloc o2 := ⟨_, rfl⟩
  rw [← h2] at h
  obtain ⟨W3, h3⟩ : ∃ x, x = W2.alloc o3 := ⟨_, rfl⟩
  rw [← h3] at h
  have s1 : W1.heap.size = w.heap.size + 1 := by rw [h1, World.size_alloc]
  have s2 : W2.heap.size = w.heap.size + 1 + 1 := by rw [h2, World.size_alloc, s1]
  have s3 : W3.heap.size = w.heap.size + 1 + 1 + 1 := by rw [h3, World.size_alloc, s2]
  have s4 : W.heap.size = w.heap.size + 1 + 1 + 1 + 1 := by rw [h, World.size_alloc, s3]
  have b1 : Below w.heap.size w W1 := by rw [h1]; exact (Below.refl _ _).alloc (Nat.le_refl _) _
  have b2 : Below W1.heap.size W1 W2 := by rw [h2]; exact (Below.refl _ _).alloc (Nat.le_refl _) _
  have b3 : Below W2.heap.size W2 W3 := by rw [h3]; exact (Below.refl _ _).alloc (Nat.le_refl _) _
  have b4 : Below W3.heap.size W3 W := by rw [h]; exact (Below.refl _ _).alloc (Nat.le_refl _) _
  have b24 : Below W2.heap.size W2 W := b3.trans (b4.mono (by omega))
  have b14 : Below W1.heap.size W1 W := b2.trans (b24.mono (by omega))
  have r1 : RO W1 W1.heap.size (some ⟨w.heap.size, 0, none⟩) pOps := by rw [h1, ho1]; exact (row2 w ⟨15, 3, 0, 0⟩ ⟨9, 2, 0, 0⟩).reads (Nat.le_refl _) _ (by simp)
  have r3 : RO W3 W3.heap.size (some ⟨w.heap.size + 1 + 1, 0, none⟩) qOps := by rw [← s2, h3, ho3]; exact (row2 W2 ⟨15, 3, 0, 0⟩ ⟨9, 3, 0, 0⟩).reads (Nat.le_refl _) _ (by simp)
  have c2 := two_cells (w := W1) (w1 := W) (u := .string ⟨#[116]⟩) (v := .slice (some ⟨w.heap.size, 0, none⟩) 2 2) (T := 24) (B := W2.heap.size) (by rw [← ho2, ← h2]; exact b24) (by omega)
  have c4 := two_cells (w := W3) (w1 := W) (u := .string ⟨#[116]⟩) (v := .slice (some ⟨w.heap.size + 1 + 1, 0, none⟩) 2 2) (T := 24) (B := W.heap.size) (by rw [← ho4, ← h]; exact Below.refl _ _) (by omega)
  rw [s1] at c2
  rw [s3] at c4
  exact ⟨(r1.below b14).more (by omega), (r3.below b4).more (by omega), c2.1, c2.2.1, c4.1, c4.2.1, b1.trans (b14.mono (by omega)), s4⟩
set_option maxHeartbeats 4000000 in
theorem begun7_any (w : World) : Calls Try.prog 8 #[] w fun e w' => e = .returned (.bool true) ∧ Below w.heap.size w w' := by
  obtain ⟨W, hW⟩ : ∃ W, W = begunW w := ⟨_, rfl⟩
  obtain ⟨rp, rq, c0, c1, d0, d1, bW, hs⟩ := begunW_facts w W hW
  unfold begunW at hW
  have RP := Lib.hid rp; have RQ := Lib.hid rq; have HW := Lib.hid hW; have C0 := Lib.hid c0; have C1 := Lib.hid c1; have D0 := Lib.hid d0; have D1 := Lib.hid d1
  clear rp rq hW c0 c1 d0 d1
  have HS := Lib.hid hs; clear hs
  go_enter Try.func8, Try.ntmps8
  go_wp2_with fail
  rw [← HW.out]
  refine (k_mayp _ W.heap.size _ RP.out (Nat.le_refl _)).mono ?_
  rintro e w1 ⟨rfl, b1⟩
  have x0 := (b1.cell (p := ⟨w.heap.size + 1, 0, none⟩) (show w.heap.size + 1 < _ by have := HS.out; omega)).trans C0.out
  have x1 := (b1.cell (p := ⟨w.heap.size + 1, 1, none⟩) (show w.heap.size + 1 < _ by have := HS.out; omega)).trans C1.out
  go_wp2_with fail
  refine (k_faultp _ W.heap.size _ (RP.out.below b1) b1.size).mono ?_
  rintro e w2 ⟨rfl, b2'⟩
  have b2 := b1.trans (b2'.mono b1.size)
  clear b2' x0 x1
  have x0 := (b2.cell (p := ⟨w.heap.size + 1 + 1 + 1, 0, none⟩) (show w.heap.size + 1 + 1 + 1 < _ by have := HS.out; omega)).trans D0.out
  have x1 := (b2.cell (p := ⟨w.heap.size + 1 + 1 + 1, 1, none⟩) (show w.heap.size + 1 + 1 + 1 < _ by have := HS.out; omega)).trans D1.out
  go_wp2_with fail
  refine (k_mayq _ W.heap.size _ (RQ.out.below b2) b2.size).mono ?_
  rintro e w3 ⟨rfl, b3'⟩
  have b3 := b2.trans (b3'.mono b2.size)
  clear b3' x0 x1
  have x0 := (b3.cell (p := ⟨w.heap.size + 1 + 1 + 1, 0, none⟩) (show w.heap.size + 1 + 1 + 1 < _ by have := HS.out; omega)).trans D0.out
  have x1 := (b3.cell (p := ⟨w.heap.size + 1 + 1 + 1, 1, none⟩) (show w.heap.size + 1 + 1 + 1 < _ by have := HS.out; omega)).trans D1.out
  go_wp2_with fail
  refine (k_faultq _ W.heap.size _ (RQ.out.below b3) b3.size).mono ?_
  rintro e w4 ⟨rfl, b4'⟩
  have b4 := b3.trans (b4'.mono b3.size)
  clear b4' x0 x1
  go_wp2_with fail
  refine (k_fault0 _).mono ?_
  rintro e w5 ⟨rfl, b5'⟩
  have b5 := b4.trans (b5'.mono b4.size)
  go_wp2_with fail
  go_ret
  exact ⟨rfl, bW.trans (b5.mono bW.size)⟩
end Go.Proofs.Ytjdhgfcilmobdaa
