/- WALK OF THE LAW AsmText. -/
import Derived.Test.YthidkkjhpdcenaaDoorUa
import Derived.Test.YthidkkjhpdcenaaDoorTc
import Derived.Test.YthidkkjhpdcenaaDoorOk
namespace Go.Proofs.YthidkkjhpdcenaaDoor
set_option maxRecDepth 100000
open Go.RowKit
set_option linter.unusedVariables false

def tOf (l : List UInt8) : ByteArray := match parseL l with
  | .bad _ => ⟨#[]⟩
  | .ok t _ => str t
def osOf (l : List UInt8) : List O4 := match parseL l with
  | .bad _ => []
  | .ok _ os => os
def atOf (l : List UInt8) : Int := match parseL l with
  | .bad n => (n : Int)
  | .ok _ _ => 0
def erOf (l : List UInt8) : Int := match parseL l with
  | .bad _ => 1
  | .ok _ _ => 0
/-- what either Parse answers, its parts named -/
theorem Parsed.parts {l : List UInt8} {w w' : World} {e : Ending} (h : Parsed l w e w') {t : ByteArray} {os : List O4} {at_ er : Int} (h1 : tOf l = t) (h2 : osOf l = os) (h3 : atOf l = at_) (h4 : erOf l = er) :
    ∃ A cap, e = .returned (.tuple #[.agg #[.string t, .slice A os.length cap], .int .i64 at_, .int .i64 er]) ∧ Hid (RO w' w'.heap.size A os) ∧ os.length ≤ cap ∧ cap ≤ maxLen ∧ Below w.heap.size w w' := by
  subst h1 h2 h3 h4
  unfold Parsed at h
  unfold tOf osOf atOf erOf
  cases hp : parseL l with
  | bad n =>
    rw [hp] at h
    obtain ⟨rfl, hb⟩ := h
    exact ⟨none, 0, rfl, RO.nil _ _ _, Nat.le_refl _, by decide, hb⟩
  | ok t os =>
    rw [hp] at h
    obtain ⟨A, cap, rfl, hr, h1, h2, hb⟩ := h
    exact ⟨A, cap, rfl, hr, h1, h2, hb⟩
set_option maxHeartbeats 2000000 in
theorem text_law (s : ByteArray) (w : World) (hT : Tabs w) :
    Calls Tryd.prog 3 #[.string s] w fun e w' => e = .returned (.bool true) ∧ Below w.heap.size w w' := by
  have HTT := Lib.hid hT; clear hT
  have HC := Lib.hid (fun W => lawcut_n s 300 300 rfl W (by omega))
  go_enter Tryd.func3, Tryd.ntmps3
  go_wp2_with fail
  refine (begun6_any _ HTT.out).mono ?_
  rintro e w1 ⟨rfl, hb1⟩
  go_wp2_with fail
  refine (HC.out _).mono ?_
  rintro e w2 ⟨u, rfl, rfl, hu⟩
  have HP1 := Lib.hid (parse_any u w1 (HTT.out.next hb1) (by omega))
  obtain ⟨t, ht⟩ : ∃ t, tOf (lst u) = t := ⟨_, rfl⟩
  obtain ⟨os, hos⟩ : ∃ os, osOf (lst u) = os := ⟨_, rfl⟩
  obtain ⟨at_, hat⟩ : ∃ at_, atOf (lst u) = at_ := ⟨_, rfl⟩
  obtain ⟨er, her⟩ : ∃ er, erOf (lst u) = er := ⟨_, rfl⟩
  have HT1 := Lib.hid ht; have HO1 := Lib.hid hos; have HA1 := Lib.hid hat; have HE1 := Lib.hid her
  clear ht hos hat her HC
  go_wp2_with fail
  refine HP1.out.mono ?_
  intro e w2 hpa
  obtain ⟨A, cap, rfl, hr2, hc1, hc2, hb2⟩ := hpa.parts HT1.out HO1.out HA1.out HE1.out
  clear hpa
  have hbx := hb1.trans (hb2.mono hb1.size)
  have hbA : Below w2.heap.size w2 (w2.alloc (.cells #[.string t, .slice A os.length cap] 26)) := (Below.refl _ _).alloc (Nat.le_refl _) _
  have HR2 := Lib.hid (hr2.out.below hbA)
  have hby := hbx.trans (hbA.mono hbx.size)
  have HP2 := Lib.hid (refparse_any u (w2.alloc (.cells #[.string t, .slice A os.length cap] 26)) (by omega))
  clear HP1 hr2 hbA
  go_wp2_with fail
  refine HP2.out.mono ?_
  intro e w3 hpa
  obtain ⟨A2, cap2, rfl, hr3, hc3, hc4, hb3⟩ := hpa.parts HT1.out HO1.out HA1.out HE1.out
  clear hpa
  have c0 := hb3.cell (p := ⟨w2.heap.size, 0, none⟩) (by simp)
  have c1 := hb3.cell (p := ⟨w2.heap.size, 1, none⟩) (by simp)
  simp at c0 c1
  have hs3 := hb3.size
  rw [World.size_alloc] at hs3
  have hbz := hby.trans (hb3.mono hby.size)
  have hbB : Below w3.heap.size w3 (w3.alloc (.cells #[.string t, .slice A2 os.length cap2] 26)) := (Below.refl _ _).alloc (Nat.le_refl _) _
  have HR3 := Lib.hid (hr3.out.below hbB)
  have HR2' := Lib.hid ((HR2.out.below (hb3.mono (by simp))).below (hbB.mono (by omega)))
  have hbf := hbz.trans (hbB.mono hbz.size)
  have HEQ := Lib.hid (eqprog_any t t A A2 os os cap cap2 w3.heap.size (w3.alloc (.cells #[.string t, .slice A2 os.length cap2] 26)) (HR2'.out.more (by omega)) HR3.out (by simp) hc1 hc3 hc2 hc4 true (by simp))
  unfold progV at HEQ
  have n00 := World.new_ne w3 ⟨w2.heap.size, 0, none⟩ c0; have n01 := World.new_ne w3 ⟨w2.heap.size, 1, none⟩ c1
  have p0 := (hbB.cell (p := ⟨w2.heap.size, 0, none⟩) (show w2.heap.size < _ by omega)).trans c0; have p1 := (hbB.cell (p := ⟨w2.heap.size, 1, none⟩) (show w2.heap.size < _ by omega)).trans c1
  clear HP2 HR2 HR3 HR2' hr3 hbB hb3 hb2 hb1 hby hbz
  go_wp2_with (go_at_call 13; refine HEQ.out.mono ?_; rintro e w7 ⟨rfl, b7⟩)
  have hbg := hbf.trans (b7.mono hbf.size)
  go_ret
  exact ⟨rfl, hbg⟩
end Go.Proofs.YthidkkjhpdcenaaDoor
