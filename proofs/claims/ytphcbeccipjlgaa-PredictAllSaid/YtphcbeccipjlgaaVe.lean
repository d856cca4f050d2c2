/- THE REFERENCE: ahead. -/
import Derived.Test.YtphcbeccipjlgaaVd
namespace Go.Proofs.Ytphcbeccipjlgaa
set_option maxRecDepth 100000
open Go.RowKit Go.Maps
set_option linter.unusedVariables false
set_option linter.unusedSimpArgs false

def ldI (p : List UInt8) : Int := ((lst p).toNat : Int)
def ddI (b : Kd) (p : List UInt8) : Int := if b.k = 3 then ((drw b p).toNat : Int) else -1
theorem sc_wB (b : Kd) (p : List UInt8) (v : Nat) : sc b p v = 2 * wB b p v + (if 0 < p.length ∧ (lst p).toNat = v then 1 else 0) + (if b.k = 3 ∧ (drw b p).toNat = v then 2 else 0) := rfl
theorem lst_nil {p : List UInt8} (h : ¬ 0 < p.length) : lst p = 0 := by
  obtain rfl := List.eq_nil_of_length_eq_zero (by omega : p.length = 0); rfl
/-- what the reference asks: v and the lesser u -/
theorem ah_d1 {b : Kd} {p : List UInt8} {v u : Nat} (hu : u < v) (h : (v : Int) = ddI b p) : decide (sc b p u < sc b p v) = true := by
  unfold ddI at h
  by_cases k3 : b.k = 3
  · rw [if_pos k3] at h
    have hw : ∀ x, wB b p x = 0 := fun x => by unfold wB; rw [if_neg (by omega)]
    refine decide_eq_true ?_
    rw [sc_wB, sc_wB, hw, hw, if_neg (c := b.k = 3 ∧ (drw b p).toNat = u) (by omega), if_pos (c := b.k = 3 ∧ (drw b p).toNat = v) (by omega)]
    split <;> split <;> omega
  · rw [if_neg k3] at h; omega
theorem ah_d2 {b : Kd} {p : List UInt8} {v u : Nat} (hu : u < v) (h : (u : Int) = ddI b p) : decide (sc b p u < sc b p v) = false := by
  unfold ddI at h
  by_cases k3 : b.k = 3
  · rw [if_pos k3] at h
    have hw : ∀ x, wB b p x = 0 := fun x => by unfold wB; rw [if_neg (by omega)]
    refine decide_eq_false ?_
    rw [sc_wB, sc_wB, hw, hw, if_pos (c := b.k = 3 ∧ (drw b p).toNat = u) (by omega), if_neg (c := b.k = 3 ∧ (drw b p).toNat = v) (by omega)]
    split <;> split <;> omega
  · rw [if_neg k3] at h; omega
theorem ah_d0 {b : Kd} {p : List UInt8} {x : Nat} (h : ¬ (x : Int) = ddI b p) : sc b p x = 2 * wB b p x + (if 0 < p.length ∧ (lst p).toNat = x then 1 else 0) := by
  rw [sc_wB, if_neg (c := b.k = 3 ∧ (drw b p).toNat = x)]
  · omega
  · rintro ⟨k3, hx⟩; unfold ddI at h; rw [if_pos k3] at h; omega
theorem ah_more {b : Kd} {p : List UInt8} {v u : Nat} (h1 : ¬ (v : Int) = ddI b p) (h2 : ¬ (u : Int) = ddI b p) (h : wB b p u < wB b p v) : decide (sc b p u < sc b p v) = true := by
  refine decide_eq_true ?_
  rw [ah_d0 h1, ah_d0 h2]; split <;> split <;> omega
theorem ah_less {b : Kd} {p : List UInt8} {v u : Nat} (h1 : ¬ (v : Int) = ddI b p) (h2 : ¬ (u : Int) = ddI b p) (h : wB b p v < wB b p u) : decide (sc b p u < sc b p v) = false := by
  refine decide_eq_false ?_
  rw [ah_d0 h1, ah_d0 h2]; split <;> split <;> omega
theorem ah_last {b : Kd} {p : List UInt8} {v u : Nat} (hu : u < v) (h1 : ¬ (v : Int) = ddI b p) (h2 : ¬ (u : Int) = ddI b p) (h : wB b p v = wB b p u) (hl : (v : Int) = ldI p) : decide (sc b p u < sc b p v) = true := by
  refine decide_eq_true ?_
  unfold ldI at hl
  rw [ah_d0 h1, ah_d0 h2]
  by_cases hp : 0 < p.length
  · rw [if_neg (by omega), if_pos ⟨hp, by omega⟩]; omega
  · rw [lst_nil hp] at hl
    have e : (0 : UInt8).toNat = 0 := rfl
    omega
theorem ah_rest {b : Kd} {p : List UInt8} {v u : Nat} (h1 : ¬ (v : Int) = ddI b p) (h2 : ¬ (u : Int) = ddI b p) (h : wB b p v = wB b p u) (hl : ¬ (v : Int) = ldI p) : decide (sc b p u < sc b p v) = false := by
  refine decide_eq_false ?_
  unfold ldI at hl
  rw [ah_d0 h1, ah_d0 h2, if_neg (c := 0 < p.length ∧ (lst p).toNat = v) (fun x => hl (by omega))]
  split <;> omega
set_option maxHeartbeats 2000000 in
theorem ahead_any (b : Kd) (p : List UInt8) (v u : Nat) (w : World) (hv : v < 256) (hu : u < v) :
    Calls Try.prog 28 #[.int .i64 v, .int .i64 u, .agg (aN (wB b p)), .int .i64 (ldI p), .int .i64 (ddI b p)] w fun e w' => e = .returned (.bool (decide (sc b p u < sc b p v))) ∧ Below w.heap.size w w' := by
  obtain ⟨r, hr⟩ : ∃ r, decide (sc b p u < sc b p v) = r := ⟨_, rfl⟩
  obtain ⟨ld, hld⟩ : ∃ r, ldI p = r := ⟨_, rfl⟩
  obtain ⟨dd, hdd⟩ : ∃ r, ddI b p = r := ⟨_, rfl⟩
  have g := GN.new w (wB b p)
  obtain ⟨w1, hw1⟩ : ∃ w1, w.alloc (.cells (aN (wB b p)) 43) = w1 := ⟨_, rfl⟩
  rw [hw1] at g
  have hu2 : u < 256 := by omega
  have gv := g.cell v hv
  have gu := g.cell u hu2
  have B1 : Hid (Below w.heap.size w w1) := by rw [← hw1]; exact (Below.refl _ _).alloc (Nat.le_refl _) _
  obtain ⟨x, hx⟩ : ∃ x, wB b p v = x := ⟨_, rfl⟩
  obtain ⟨y, hy⟩ : ∃ y, wB b p u = y := ⟨_, rfl⟩
  rw [hx] at gv
  rw [hy] at gu
  have hxr := wB_rng b p v
  rw [hr, hld, hdd]
  have HW := Lib.hid hw1
  by_cases c1 : (v : Int) = dd
  · obtain rfl : r = true := by rw [← hr]; exact ah_d1 hu (c1.trans hdd.symm)
    have z1 : ((v : Int) == dd) = true := by simp [c1]
    have z2 : ((u : Int) == dd) = false := by simp; omega
    clear hr hld hdd hx hy hxr g hw1
    go_enter Try.func28, Try.ntmps28
    go_upto_region 1 with fail
    rw [HW.out]
    clear c1
    go_wp2_with fail
    go_ret
    exact ⟨by simp [z1], B1.out⟩
  have z1 : ((v : Int) == dd) = false := by simpa using c1
  by_cases c2 : (u : Int) = dd
  · obtain rfl : r = false := by rw [← hr]; exact ah_d2 hu (c2.trans hdd.symm)
    have z2 : ((u : Int) == dd) = true := by simp [c2]
    clear hr hld hdd hx hy hxr g hw1 c2 c1
    go_enter Try.func28, Try.ntmps28
    go_upto_region 1 with fail
    rw [HW.out]
    go_wp2_with fail
    go_ret
    exact ⟨by simp [z1], B1.out⟩
  have z2 : ((u : Int) == dd) = false := by simpa using c2
  have d1 : ¬ (v : Int) = ddI b p := fun h => c1 (h.trans hdd)
  have d2 : ¬ (u : Int) = ddI b p := fun h => c2 (h.trans hdd)
  by_cases c3 : x = y
  · have z3 : (x == y) = true := by simp [c3]
    by_cases c4 : (v : Int) = ld
    · obtain rfl : r = true := by rw [← hr]; exact ah_last hu d1 d2 (by rw [hx, hy, c3]) (c4.trans hld.symm)
      have z4 : ((v : Int) == ld) = true := by simp [c4]
      subst c3
      clear hr hld hdd hx hy hxr g hw1 c1 c2 d1 d2 c4
      go_enter Try.func28, Try.ntmps28
      go_upto_region 1 with fail
      rw [HW.out]
      go_wp2_with fail
      go_big_region
      all_goals go_wp2_with fail
      all_goals go_ret
      all_goals exact ⟨by simp [z4], B1.out.drew⟩
    · obtain rfl : r = false := by rw [← hr]; exact ah_rest d1 d2 (by rw [hx, hy, c3]) (fun h => c4 (h.trans hld))
      have z4 : ((v : Int) == ld) = false := by simpa using c4
      subst c3
      clear hr hld hdd hx hy hxr g hw1 c1 c2 d1 d2 c4
      go_enter Try.func28, Try.ntmps28
      go_upto_region 1 with fail
      rw [HW.out]
      go_wp2_with fail
      go_big_region
      all_goals go_wp2_with fail
      all_goals go_ret
      all_goals exact ⟨by simp [z4], B1.out.drew⟩
  · have z3 : (x == y) = false := by simpa using c3
    have z3b : (x != y) = true := by simpa using c3
    by_cases c4 : y < x
    · obtain rfl : r = true := by rw [← hr]; exact ah_more d1 d2 (by rw [hx, hy]; exact c4)
      clear hr hld hdd hx hy hxr g hw1 c1 c2 d1 d2 c3
      go_enter Try.func28, Try.ntmps28
      go_upto_region 1 with fail
      rw [HW.out]
      go_wp2_with fail
      go_big_region
      all_goals go_wp2_with fail
      all_goals go_big_region
      all_goals go_wp2_with fail
      all_goals go_ret
      all_goals exact ⟨by simp [c4], B1.out.drew.drew⟩
    · obtain rfl : r = false := by rw [← hr]; exact ah_less d1 d2 (by rw [hx, hy]; omega)
      clear hr hld hdd hx hy hxr g hw1 c1 c2 d1 d2 c3
      go_enter Try.func28, Try.ntmps28
      go_upto_region 1 with fail
      rw [HW.out]
      go_wp2_with fail
      go_big_region
      all_goals go_wp2_with fail
      all_goals go_big_region
      all_goals go_wp2_with fail
      all_goals go_ret
      all_goals exact ⟨by simp [c4], B1.out.drew.drew⟩
end Go.Proofs.Ytphcbeccipjlgaa
