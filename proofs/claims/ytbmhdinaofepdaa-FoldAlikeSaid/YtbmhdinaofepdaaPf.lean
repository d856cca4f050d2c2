/- PLAIN: a fold of frames. -/
import Derived.Test.YtbmhdinaofepdaaMd
namespace Go.Proofs.Ytbmhdinaofepdaa
set_option maxRecDepth 100000
set_option linter.unusedVariables false

/-- the game behind n frames of the presses ps, from g and the frame f on -/
def fdN (t : ByteArray) (os : List O4) (f : Int) (ps : List (List UInt8)) (g : List Int) : Nat → List Int
  | 0 => g
  | n + 1 => (frameN ⟨t, f + (n : Int), ps.getD n []⟩ os (fdN t os f ps g n)).1
theorem fdN_step (t : ByteArray) (os : List O4) (f : Int) (ps : List (List UInt8)) (g : List Int) (n : Nat) (l : List UInt8) (z : Int) (hl : ps[n]? = some l) (hz : f + (n : Int) = z) : fdN t os f ps g (n + 1) = (frameN ⟨t, z, l⟩ os (fdN t os f ps g n)).1 := by
  subst hz
  show (frameN _ os _).1 = _
  rw [show ps.getD n [] = l by rw [List.getD_eq_getElem?_getD, hl]; rfl]
theorem fdN_take (t : ByteArray) (os : List O4) (f : Int) (ps : List (List UInt8)) (g : List Int) (k : Nat) : ∀ n, n ≤ k → fdN t os f (ps.take k) g n = fdN t os f ps g n
  | 0, _ => rfl
  | n + 1, h => by
    show (frameN _ os _).1 = (frameN _ os _).1
    rw [fdN_take t os f ps g k n (by omega)]
    have e : (ps.take k).getD n [] = ps.getD n [] := by
      rw [List.getD_eq_getElem?_getD, List.getD_eq_getElem?_getD, List.getElem?_take, if_pos (by omega)]
    rw [e]
theorem fdN_parts (t : ByteArray) (os : List O4) (f : Int) (ps : List (List UInt8)) (g : List Int) (k : Nat) : ∀ n, fdN t os (f + (k : Int)) (ps.drop k) (fdN t os f ps g k) n = fdN t os f ps g (k + n)
  | 0 => rfl
  | n + 1 => by
    show (frameN _ os _).1 = (frameN _ os _).1
    rw [fdN_parts t os f ps g k n]
    have e : (ps.drop k).getD n [] = ps.getD (k + n) [] := by
      rw [List.getD_eq_getElem?_getD, List.getD_eq_getElem?_getD, List.getElem?_drop]
    rw [e, show f + (k : Int) + (n : Int) = f + ((k + n : Nat) : Int) by omega]
    rfl
/-- a frame's operations as they are checked -/
theorem fdN_gam {t : ByteArray} {os : List O4} {f : Int} {ps : List (List UInt8)} {g : List Int} (hg : gam g) : ∀ n, gam (fdN t os f ps g n)
  | 0 => hg
  | n + 1 => frameN_gam _ os (fdN_gam hg n)
/-- what is not asked for -/
def noIn (os : List O4) : Prop := ∀ o ∈ os, o.k ≠ 11
theorem goN_alike (t : ByteArray) (fr : Int) (l l' : List UInt8) (os : List O4) (h : noIn os) : ∀ (n p : Nat) (g : List Int), goN ⟨t, fr, l⟩ os n p g = goN ⟨t, fr, l'⟩ os n p g
  | 0, _, _ => rfl
  | n + 1, p, g => by
    unfold goN
    cases e : os[p]? with
    | none => rfl
    | some o =>
      have hk : o.k ≠ 11 := h o (List.mem_of_getElem? e)
      have hv : valN ⟨t, fr, l⟩ g o = valN ⟨t, fr, l'⟩ g o := by unfold valN; rw [if_neg hk, if_neg hk]
      have hg : gmN ⟨t, fr, l⟩ g o = gmN ⟨t, fr, l'⟩ g o := by unfold gmN; rw [hv]
      simp only [hg, goN_alike t fr l l' os h n]
theorem frameN_alike (t : ByteArray) (fr : Int) (l l' : List UInt8) (os : List O4) (h : noIn os) (g : List Int) : frameN ⟨t, fr, l⟩ os g = frameN ⟨t, fr, l'⟩ os g := by
  unfold frameN
  simp only [goN_alike t fr l l' os h]
theorem fdN_alike (t : ByteArray) (os : List O4) (f : Int) (ps qs : List (List UInt8)) (g : List Int) (h : noIn os) : ∀ n, fdN t os f ps g n = fdN t os f qs g n
  | 0 => rfl
  | n + 1 => by
    show (frameN _ os _).1 = (frameN _ os _).1
    rw [fdN_alike t os f ps qs g h n, frameN_alike t _ _ (qs.getD n []) os h]
end Go.Proofs.Ytbmhdinaofepdaa
