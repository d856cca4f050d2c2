/- WALKS of the laws of layer 18: begun. -/
import Derived.Test.YtomiligjcpmnjaaFp
namespace Go.Proofs.Ytomiligjcpmnjaa
set_option maxRecDepth 100000
open Go.RowKit Go.Maps
set_option linter.unusedVariables false
set_option linter.unusedSimpArgs false

def pst : List UInt8 := [1, 2, 1, 2, 1]
def kM1 : Kd := ⟨2, 1, []⟩
def kL : Kd := ⟨1, 0, []⟩
def kT9 : Kd := ⟨3, 0, [9]⟩
set_option maxHeartbeats 4000000 in
theorem rk1 : (rk (sc kM1 pst)).take 3 = [2, 1, 0] := by decide +kernel
set_option maxHeartbeats 4000000 in
theorem rk2 : (rk (sc kL pst)).take 2 = [1, 0] := by decide +kernel
set_option maxHeartbeats 4000000 in
theorem rk3 : (rk (sc kT9 pst)).take 2 = [9, 1] := by decide +kernel
set_option maxHeartbeats 4000000 in
theorem ch1 : chN kM1 3 pst = [2, 1, 2] := by decide +kernel
theorem RB.then_ {w w' : World} {B : Nat} {A : Option Addr} {l : List UInt8} (h : RB w B A l) (hB : B ≤ w.heap.size) (hb : Below w.heap.size w w') : RB w' w'.heap.size A l := RB.more (h.below (hb.mono hB)) (Nat.le_trans hB hb.size)
/-- what a law's call of Rank says, at a kind of plain numbers -/
theorem rank_at (b : Kd) (z o : Int) (hz : z = (b.k : Int)) (ho : o = (b.o : Int)) (A : Option Addr) (n c : Nat) (P : Option Addr) (p : List UInt8) (L pc : Nat) (k : Int) (w : World) (hk : KM w b A n c) (hp : PM w P p L pc) (hl : L ≤ 2000) (m : Nat) (hm : min (max k 0) 256 = (m : Int)) (r : List UInt8) (hr : (rk (sc b p)).take m = r) :
    Calls Try.prog 22 #[.agg #[.int .i64 z, .int .i64 o, .slice A n c], .slice P L pc, .int .i64 k] w fun e w' => (∃ g, e = .returned (.slice (some ⟨g, 0, none⟩) m 256) ∧ w.heap.size ≤ g ∧ RB w' w'.heap.size (some ⟨g, 0, none⟩) r) ∧ Below w.heap.size w w' := by
  subst hz ho hr
  exact rank_any b A n c P p L pc k w hk hp hl m hm
theorem chain_at (b : Kd) (z o : Int) (hz : z = (b.k : Int)) (ho : o = (b.o : Int)) (A : Option Addr) (n c : Nat) (P : Option Addr) (p : List UInt8) (L pc : Nat) (k : Int) (w : World) (hk : KM w b A n c) (hp : PM w P p L pc) (hl : L ≤ 1000) (m : Nat) (hm : min (max k 0) 1000 = (m : Int)) (r : List UInt8) (hr : chN b m p = r) :
    Calls Try.prog 31 #[.agg #[.int .i64 z, .int .i64 o, .slice A n c], .slice P L pc, .int .i64 k] w fun e w' => (∃ A' c', e = .returned (.slice A' m c') ∧ m ≤ c' ∧ c' ≤ maxLen ∧ RB w' w'.heap.size A' r) ∧ Below w.heap.size w w' := by
  subst hz ho hr
  exact chain_any b A n c P p L pc k w hk hp hl m hm
theorem may_at (z o : Int) (A : Option Addr) (n c : Nat) (w : World) (hn : n ≤ maxLen) (r : Bool) (hr : mayB z o n = r) : Calls Try.prog 26 #[.agg #[.int .i64 z, .int .i64 o, .slice A n c]] w fun e w' => e = .returned (.bool r) ∧ Below w.heap.size w w' := by
  subst hr
  exact may_any z o A n c w hn
theorem km_nil (w : World) (b : Kd) (hok : b.ok) (ht : b.tb = []) : KM w b none 0 0 := ⟨hok, by rw [ht]; rfl, Nat.le_refl _, by unfold maxLen; omega, by rw [ht]; exact RB.nil _ _ _⟩
end Go.Proofs.Ytomiligjcpmnjaa
