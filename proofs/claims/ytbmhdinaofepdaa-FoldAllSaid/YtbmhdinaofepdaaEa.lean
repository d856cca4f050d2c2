/- PLAIN: what may run, and where the first fault is. -/
import Derived.Test.YtbmhdinaofepdaaOf
namespace Go.Proofs.Ytbmhdinaofepdaa
set_option maxRecDepth 100000
set_option linter.unusedVariables false

/-- what A, B, C of an operation of code k are: 0 nothing, 1 a number, 2 a cell, 3 an operation's number -/
def kdA (k : Nat) : Int := if k = 0 then 0 else if k = 9 then 3 else 2
def kdB (k : Nat) : Int := if k = 0 ∨ k = 9 ∨ k = 15 then 0 else if k = 1 then 1 else if k = 10 then 3 else 2
def kdC (k : Nat) : Int := if 3 ≤ k ∧ k ≤ 8 then 2 else 0
def kd (k j : Nat) : Int := match j with
  | 0 => kdA k
  | 1 => kdB k
  | _ => kdC k
def hasB (kd n m : Int) : Bool := if kd = 1 then true else if kd = 2 then decide (0 ≤ n) && decide (n < 32) else if kd = 3 then decide (0 ≤ n) && decide (n ≤ m) else decide (n = 0)
def argO (o : O4) (j : Nat) : Int := match j with
  | 0 => o.a
  | 1 => o.b
  | _ => o.c
def codeB (k : Int) : Bool := decide (0 ≤ k) && decide (k ≤ 15)
def mayB (o : O4) (m : Int) : Bool := codeB o.k && hasB (kd o.k.toNat 0) o.a m && hasB (kd o.k.toNat 1) o.b m && hasB (kd o.k.toNat 2) o.c m
theorem mayB_code (o : O4) (m : Int) (h : codeB o.k = false) : mayB o m = false := by unfold mayB; rw [h]; rfl
theorem mayB_bad (o : O4) (m : Int) (j : Nat) (hj : j < 3) (h : hasB (kd o.k.toNat j) (argO o j) m = false) : mayB o m = false := by
  obtain rfl | rfl | rfl : j = 0 ∨ j = 1 ∨ j = 2 := by omega
  all_goals
    unfold mayB
    simp only [argO] at h
    rw [h]
    simp
theorem mayB_all (o : O4) (m : Int) (hk : codeB o.k = true) (h : ∀ j, j < 3 → hasB (kd o.k.toNat j) (argO o j) m = true) : mayB o m = true := by
  unfold mayB
  rw [hk, show hasB (kd o.k.toNat 0) o.a m = true from h 0 (by omega), show hasB (kd o.k.toNat 1) o.b m = true from h 1 (by omega), show hasB (kd o.k.toNat 2) o.c m = true from h 2 (by omega)]
  rfl
/-- the first that is not so -/
def firstN (p : O4 → Bool) (os : List O4) : Int := match os.findIdx? (fun o => !p o) with
  | some i => (i : Int)
  | none => -1
theorem firstN_hit (p : O4 → Bool) (os : List O4) (k : Nat) (hk : k < os.length) (h1 : p os[k] = false) (h2 : ∀ j (h : j < os.length), j < k → p os[j] = true) : firstN p os = k := by
  have e : os.findIdx? (fun o => !p o) = some k := by
    rw [List.findIdx?_eq_some_iff_getElem]
    exact ⟨hk, by simp [h1], fun j hj => by simp [h2 j (by omega) hj]⟩
  unfold firstN; rw [e]
theorem firstN_miss (p : O4 → Bool) (os : List O4) (h : ∀ j (h : j < os.length), p os[j] = true) : firstN p os = -1 := by
  have e : os.findIdx? (fun o => !p o) = none := by
    rw [List.findIdx?_eq_none_iff]
    intro o ho
    obtain ⟨j, hj, rfl⟩ := List.getElem_of_mem ho
    simp [h j hj]
  unfold firstN; rw [e]
theorem firstN_eq (p : O4 → Bool) (os : List O4) : (∃ k : Nat, ∃ h : k < os.length, firstN p os = k ∧ p os[k] = false ∧ ∀ j (h : j < os.length), j < k → p os[j] = true) ∨ (firstN p os = -1 ∧ ∀ j (h : j < os.length), p os[j] = true) := by
  cases e : os.findIdx? (fun o => !p o) with
  | none =>
    refine .inr ⟨by unfold firstN; rw [e], fun j hj => ?_⟩
    rw [List.findIdx?_eq_none_iff] at e
    simpa using e os[j] (List.getElem_mem _)
  | some k =>
    obtain ⟨h1, h2, h3⟩ := List.findIdx?_eq_some_iff_getElem.1 e
    exact .inl ⟨k, h1, by unfold firstN; rw [e], by simpa using h2, fun j hj hjk => by simpa using h3 j hjk⟩
/-- Fault -/
def faultN (tb : Bool) (os : List O4) : Int := if fitsB tb os then firstN (fun o => mayB o os.length) os else -2
end Go.Proofs.Ytbmhdinaofepdaa
