/- MERGED of XMa XMb XMc XMd -/
import Derived.Test.YtbmhdinaofepdaaGb
import Derived.Test.YtbmhdinaofepdaaDa
import Derived.Test.YtbmhdinaofepdaaDb
import Derived.Test.YtbmhdinaofepdaaEa
import Derived.Test.YtbmhdinaofepdaaRb
import Derived.Lib.TrimU
import Derived.Test.YtbmhdinaofepdaaOo
/- XMa -/
namespace Go.Proofs.Ytbmhdinaofepdaa
set_option maxRecDepth 100000
open Go.RowKit
set_option linter.unusedVariables false

/-- block b holds the game g, and rs behind it -/
def GH (w : World) (b : Nat) (t : TypeId) (g : List Int) (rs : List Value) : Prop := w.heap[b]? = some (.cells (g.map vi ++ rs).toArray t (0, 0))
theorem GH.of {w : World} {b : Nat} {t : TypeId} {g : List Int} (h : GA w b t g) : GH w b t g [] := by
  unfold GH; rw [List.append_nil]; exact h
theorem GH.to {w : World} {b : Nat} {t : TypeId} {g : List Int} (h : GH w b t g []) : GA w b t g := by
  unfold GH at h; rw [List.append_nil] at h; exact h
theorem GH.lt {w : World} {b : Nat} {t : TypeId} {g : List Int} {rs : List Value} (h : GH w b t g rs) : b < w.heap.size := (Array.getElem?_eq_some_iff.1 h).1
theorem GH.cell {w : World} {b : Nat} {t : TypeId} {g : List Int} {rs : List Value} (h : GH w b t g rs) (k : Nat) (hk : k < g.length) : w.cell? ⟨b, k, none⟩ = some (.int .i32 g[k]) := by
  rw [cell_of_row w b k _ _ _ h]
  simp [List.getElem?_append_left, hk, vi]
theorem GH.rest {w : World} {b : Nat} {t : TypeId} {g : List Int} {rs : List Value} (h : GH w b t g rs) (k : Nat) (hk : k < rs.length) : w.cell? ⟨b, g.length + k, none⟩ = some rs[k] := by
  rw [cell_of_row w b _ _ _ _ h]
  simp [hk]
theorem GH.frozen {w : World} {b : Nat} {t : TypeId} {g : List Int} {rs : List Value} (h : GH w b t g rs) (k : Nat) : w.frozen? ⟨b, k, none⟩ = false := by
  unfold GH at h
  simp [World.frozen?, h]
theorem GH.set {w : World} {b : Nat} {t : TypeId} {g : List Int} {rs : List Value} (h : GH w b t g rs) (k : Nat) (hk : k < g.length) (x : Int) : GH (w.setCell ⟨b, k, none⟩ (.int .i32 x)) b t (g.set k x) rs := by
  unfold GH at *
  have hs : (((g.set k x).map vi ++ rs).toArray : Array Value) = (g.map vi ++ rs).toArray.setIfInBounds k (.int .i32 x) := by
    rw [List.map_set, List.setIfInBounds_toArray, List.set_append_left _ _ (by simpa using hk)]
    rfl
  rw [hs]
  simp [World.setCell, Array.getElem?_modify, h]
theorem GH.at_ {w w' : World} {b : Nat} {t : TypeId} {g : List Int} {rs : List Value} (h : GH w b t g rs) (e : w'.heap[b]? = w.heap[b]?) : GH w' b t g rs := e.trans h
theorem GH.below {w w' : World} {b B : Nat} {t : TypeId} {g : List Int} {rs : List Value} (h : GH w b t g rs) (hb : Below B w w') (hB : b < B) : GH w' b t g rs := (hb.block b hB).trans h
theorem GH.alloc {w : World} {b : Nat} {t : TypeId} {g : List Int} {rs : List Value} (h : GH w b t g rs) (o : Obj) : GH (w.alloc o) b t g rs := (Below.heap_alloc w o b h.lt).trans h
theorem GH.drew {w : World} {b : Nat} {t : TypeId} {g : List Int} {rs : List Value} (h : GH w b t g rs) : GH w.drew b t g rs := h
theorem GH.new (w : World) (t : TypeId) (g : List Int) (rs : List Value) : GH (w.alloc (.cells (g.map vi ++ rs).toArray t)) w.heap.size t g rs := heap_alloc_last w _

/-- a memory: its dynamic type, its methods, its block's type, what lies behind its game -/
structure MemK where
  T : TypeId
  gf : FuncId
  sf : FuncId
  t : TypeId
  rs : List Value
/-- the program's cells -/
def mkC : MemK := ⟨61, 83, 84, 59, []⟩
theorem cget_any (b : Nat) (g : List Int) (k : Nat) (z : Int) (hz : Hid (z = k)) (w : World) (h : GH w b 59 g []) (hg : g.length = 32) (hk : k < 32) :
    Calls Try.prog 83 #[.pointer (some ⟨b, 0, none⟩), .int .i64 z] w fun e w' => e = .returned (.int .i32 (g[k]'(by omega))) ∧ w = w' := by
  have hc := h.cell k (by omega)
  have z0 : 0 ≤ z := by have := hz.out; omega
  have z1 : z < 32 := by have := hz.out; omega
  have zk : z.toNat = k := by have := hz.out; omega
  generalize g[k]'(by omega) = x at hc ⊢
  go_enter Try.func83, Try.ntmps83
  go_wp2
  go_ret
  exact ⟨rfl, rfl⟩
theorem cset_any (b : Nat) (g : List Int) (k : Nat) (z x : Int) (hz : Hid (z = k)) (w : World) (h : GH w b 59 g []) (hg : g.length = 32) (hk : k < 32) :
    Calls Try.prog 84 #[.pointer (some ⟨b, 0, none⟩), .int .i64 z, .int .i32 x] w fun e w' => e = .returned (.tuple #[]) ∧ w.setCell ⟨b, k, none⟩ (.int .i32 x) = w' := by
  have hc := h.cell k (by omega)
  have hf := h.frozen k
  have z0 : 0 ≤ z := by have := hz.out; omega
  have z1 : z < 32 := by have := hz.out; omega
  have zk : z.toNat = k := by have := hz.out; omega
  generalize g[k]'(by omega) = y at hc
  go_enter Try.func84, Try.ntmps84
  go_wp2
  go_end0
  exact ⟨rfl, rfl⟩
theorem cells_get (a : Addr) (w : World) : (method 68 61 (.pointer (some a)) "Get").run Try.prog w = .ok (83, .pointer (some a)) w := by kernel_rfl
end Go.Proofs.Ytbmhdinaofepdaa

/- XMb -/
namespace Go.Proofs.Ytbmhdinaofepdaa
set_option maxRecDepth 100000
set_option linter.unusedVariables false

/-- a cell -/
def cel (g : List Int) (i : Int) : Int := (g[i.toNat]?).getD 0
theorem cel_at (g : List Int) (k : Nat) (h : k < g.length) : cel g (k : Int) = g[k] := by
  unfold cel; rw [Int.toNat_natCast, List.getElem?_eq_getElem h]; rfl
theorem cel_of (g : List Int) (i : Int) (k : Nat) (hi : i = k) (h : k < g.length) : g[k] = cel g i := by
  subst hi; exact (cel_at g k h).symm
/-- a game: 32 numbers of 32 bits -/
def in32 (z : Int) : Prop := -2147483648 ≤ z ∧ z ≤ 2147483647
def gam (g : List Int) : Prop := g.length = 32 ∧ ∀ z ∈ g, in32 z
theorem gam.cel {g : List Int} (h : gam g) (i : Int) : in32 (cel g i) := by
  unfold Go.Proofs.Ytbmhdinaofepdaa.cel
  cases e : g[i.toNat]? with
  | none => unfold in32; simp
  | some x => exact h.2 x (List.mem_of_getElem? e)
theorem gam.set {g : List Int} (h : gam g) (k : Nat) {x : Int} (hx : in32 x) : gam (g.set k x) := by
  refine ⟨by rw [List.length_set]; exact h.1, fun z hz => ?_⟩
  rcases List.mem_or_eq_of_mem_set hz with h1 | h1
  · exact h.2 z h1
  · rw [h1]; exact hx
theorem gam_len {g : List Int} (h : gam g) : g.length = (zG 32).length := by rw [h.1, zG_length]
theorem gam.zero : gam (zG 32) := ⟨zG_length 32, fun z hz => by
  unfold zG at hz
  rw [List.mem_replicate] at hz
  rw [hz.2]; unfold in32; omega⟩
theorem gam.ofL {l : List Int} (h : ∀ z ∈ l, -2147483648 ≤ z ∧ z ≤ 2147483647) : gam (ofL l) := ⟨ofL_length l, fun z hz => by
  unfold Go.Proofs.Ytbmhdinaofepdaa.ofL at hz
  rw [List.mem_append] at hz
  rcases hz with hz | hz
  · exact h z (List.mem_of_mem_take hz)
  · rw [List.mem_replicate] at hz
    rw [hz.2]; unfold in32; omega⟩

/-- add to same -/
def reckN (k b c : Int) : Int := if k = 3 then rd (b + c) else if k = 4 then rd (b - c) else if k = 5 then rd (b * c) else if k = 6 then dv b c else if k = 7 then (if b < c then 1 else 0) else if b = c then 1 else 0
theorem in32_rd (x : Int) : in32 (rd x) := ⟨rd_lo x, rd_hi x⟩
theorem in32_dv (a b : Int) : in32 (dv a b) := by
  unfold dv; split
  · unfold in32; omega
  · exact in32_rd _
theorem in32_reckN (k b c : Int) : in32 (reckN k b c) := by
  unfold reckN
  repeat' split
  all_goals first | exact in32_rd _ | exact in32_dv _ _ | (unfold in32; omega)
/-- what a player pressed -/
def pressN (l : List UInt8) (z : Int) : Int := if 0 ≤ z then ((l[z.toNat]?).map fun x => (x.toNat : Int)).getD 0 else 0
theorem in32_pressN (l : List UInt8) (z : Int) : in32 (pressN l z) := by
  unfold pressN
  split
  · cases l[z.toNat]? with
    | none => unfold in32; simp
    | some x => have := x.toNat_lt; unfold in32; simp; omega
  · unfold in32; omega
theorem rnsAt_le (s : ByteArray) : ∀ (n p : Nat), s.size - p ≤ n → ∀ x ∈ rnsAt s p, x.1 ≤ 1114111 := by
  intro n
  induction n with
  | zero => intro p h x hx; rw [rnsAt_end (by omega)] at hx; cases hx
  | succ n ih =>
    intro p h x hx
    by_cases hp : p < s.size
    · rw [rnsAt_step hp] at hx
      have := dec_pos s p
      rcases List.mem_cons.1 hx with rfl | hx
      · exact Lib.rune_le s p
      · exact ih _ (by omega) x hx
    · rw [rnsAt_end hp] at hx; cases hx
theorem in32_atR (s : ByteArray) (n : Int) : in32 (atR s n) := by
  unfold atR
  split
  · cases e : (rns s)[n.toNat]? with
    | none => unfold in32; simp
    | some x => have := rnsAt_le s s.size 0 (by omega) x (List.mem_of_getElem? e); unfold in32; simp; omega
  · unfold in32; omega
/-- what an operation asks for beside the game -/
structure Env where
  t : ByteArray
  fr : Int
  l : List UInt8
/-- what is written into cell A -/
def valN (E : Env) (g : List Int) (o : O4) : Int :=
  if o.k = 1 then o.b else if o.k = 2 then cel g o.b else if o.k = 11 then pressN E.l (cel g o.b) else if o.k = 12 then cel g (md (cel g o.b) 32)
  else if o.k = 14 then atR E.t (cel g o.b) else if o.k = 15 then rd E.fr else reckN o.k (cel g o.b) (cel g o.c)
/-- the next operation; n: none -/
def nxtN (n : Nat) (g : List Int) (p : Nat) (o : O4) : Nat := if o.k = 0 then n else if o.k = 9 then o.a.toNat else if o.k = 10 ∧ cel g o.a = 0 then o.b.toNat else p + 1
/-- the game behind an operation -/
def gmN (E : Env) (g : List Int) (o : O4) : List Int :=
  if o.k = 0 ∨ o.k = 9 ∨ o.k = 10 then g else if o.k = 13 then g.set (md (cel g o.a) 32).toNat (cel g o.b) else g.set o.a.toNat (valN E g o)
/-- at most f operations from p on: the game, how many were done -/
def goN (E : Env) (os : List O4) : Nat → Nat → List Int → List Int × Nat
  | 0, _, g => (g, 0)
  | f + 1, p, g => match os[p]? with
    | none => (g, 0)
    | some o => ((goN E os f (nxtN os.length g p o) (gmN E g o)).1, (goN E os f (nxtN os.length g p o) (gmN E g o)).2 + 1)
theorem goN_end (E : Env) (os : List O4) (f p : Nat) (g : List Int) (h : f = 0 ∨ os.length ≤ p) : goN E os f p g = (g, 0) := by
  cases f with
  | zero => rfl
  | succ f =>
    unfold goN
    rw [List.getElem?_eq_none (by omega)]
theorem goN_step (E : Env) (os : List O4) (f p : Nat) (g : List Int) (h : p < os.length) :
    goN E os (f + 1) p g = ((goN E os f (nxtN os.length g p os[p]) (gmN E g os[p])).1, (goN E os f (nxtN os.length g p os[p]) (gmN E g os[p])).2 + 1) := by
  conv => lhs; unfold goN
  rw [List.getElem?_eq_getElem h]
/-- a frame -/
def frameN (E : Env) (os : List O4) (g : List Int) : List Int × Nat := if faultN (titB E.t) os = -1 then goN E os 200 0 g else (g, 0)

/-- what an operation that may be has -/
structure MayO (o : O4) (n : Nat) : Prop where
  k0 : 0 ≤ o.k
  k1 : o.k ≤ 15
  a : o.k ≠ 0 → o.k ≠ 9 → 0 ≤ o.a ∧ o.a < 32
  j : o.k = 9 → 0 ≤ o.a ∧ o.a ≤ n
  b : o.k ≠ 0 → o.k ≠ 1 → o.k ≠ 9 → o.k ≠ 10 → o.k ≠ 15 → 0 ≤ o.b ∧ o.b < 32
  z : o.k = 10 → 0 ≤ o.b ∧ o.b ≤ n
  c : 3 ≤ o.k → o.k ≤ 8 → 0 ≤ o.c ∧ o.c < 32
theorem may_of {o : O4} {n : Nat} (h : mayB o n = true) : MayO o n := by
  unfold mayB at h
  simp only [Bool.and_eq_true] at h
  obtain ⟨⟨⟨h0, ha⟩, hb⟩, hc⟩ := h
  unfold codeB at h0
  simp only [Bool.and_eq_true, decide_eq_true_eq] at h0
  obtain ⟨h0, h1⟩ := h0
  obtain ⟨k, hk⟩ := Int.eq_ofNat_of_zero_le h0
  rw [hk, Int.toNat_natCast] at ha hb hc
  unfold kd at ha hb hc
  simp only at ha hb hc
  unfold kdA hasB at ha
  unfold kdB hasB at hb
  unfold kdC hasB at hc
  constructor
  · exact h0
  · exact h1
  · intro e1 e2
    rw [if_neg (show ¬ k = 0 by omega), if_neg (show ¬ k = 9 by omega)] at ha
    simpa using ha
  · intro e1
    rw [if_neg (show ¬ k = 0 by omega), if_pos (show k = 9 by omega)] at ha
    simpa using ha
  · intro e1 e2 e3 e4 e5
    rw [if_neg (show ¬ (k = 0 ∨ k = 9 ∨ k = 15) by omega), if_neg (show ¬ k = 1 by omega), if_neg (show ¬ k = 10 by omega)] at hb
    simpa using hb
  · intro e1
    rw [if_neg (show ¬ (k = 0 ∨ k = 9 ∨ k = 15) by omega), if_neg (show ¬ k = 1 by omega), if_pos (show k = 10 by omega)] at hb
    simpa using hb
  · intro e1 e2
    rw [if_pos (show 3 ≤ k ∧ k ≤ 8 by omega)] at hc
    simpa using hc
/-- of a program that may run -/
theorem may_all {tb : Bool} {os : List O4} (h : faultN tb os = -1) : fitsB tb os = true ∧ ∀ j (hj : j < os.length), MayO os[j] os.length := by
  unfold faultN at h
  split at h
  · rename_i hf
    refine ⟨hf, ?_⟩
    rcases firstN_eq (fun o => mayB o os.length) os with ⟨k, hk, e, _⟩ | ⟨_, ha⟩
    · rw [e] at h; omega
    · exact fun j hj => may_of (ha j hj)
  · omega
theorem MayO.nxt {o : O4} {n : Nat} (h : MayO o n) (g : List Int) (p : Nat) (hp : p < n) : nxtN n g p o ≤ n := by
  unfold nxtN
  split
  · omega
  · split
    · have := h.j (by assumption); omega
    · split
      · rename_i hz; have := h.z hz.1; omega
      · omega
theorem MayO.val {o : O4} {n : Nat} (h : MayO o n) (hs : sml o.b) (E : Env) {g : List Int} (hg : gam g) : in32 (valN E g o) := by
  unfold valN
  repeat' split
  · exact hs
  · exact hg.cel _
  · exact in32_pressN _ _
  · exact hg.cel _
  · exact in32_atR _ _
  · exact in32_rd _
  · exact in32_reckN _ _ _
theorem MayO.gm {o : O4} {n : Nat} (h : MayO o n) (hs : sml o.b) (E : Env) {g : List Int} (hg : gam g) : gam (gmN E g o) := by
  unfold gmN
  repeat' split
  · exact hg
  · exact hg.set _ (hg.cel _)
  · exact hg.set _ (h.val hs E hg)
theorem md32 (z : Int) : 0 ≤ md z 32 ∧ md z 32 < 32 := by
  rw [md_some z 32 (by omega)]; omega
theorem goN_gam (E : Env) (os : List O4) (hm : ∀ j (hj : j < os.length), MayO os[j] os.length ∧ sml os[j].b) : ∀ (f p : Nat) (g : List Int), gam g → gam (goN E os f p g).1 := by
  intro f
  induction f with
  | zero => intro p g hg; exact hg
  | succ f ih =>
    intro p g hg
    by_cases hp : p < os.length
    · rw [goN_step E os f p g hp]
      exact ih _ _ ((hm p hp).1.gm (hm p hp).2 E hg)
    · rw [goN_end E os (f + 1) p g (.inr (by omega))]; exact hg
theorem frameN_gam (E : Env) (os : List O4) {g : List Int} (hg : gam g) : gam (frameN E os g).1 := by
  unfold frameN
  split
  · rename_i h
    obtain ⟨hf, hm⟩ := may_all h
    have hs := ((fitsB_iff _ _).1 hf).2.2.2
    exact goN_gam E os (fun j hj => ⟨hm j hj, (hs _ (List.getElem_mem hj)).2.2.1⟩) _ _ _ hg
  · exact hg
end Go.Proofs.Ytbmhdinaofepdaa

/- XMc -/
namespace Go.Proofs.Ytbmhdinaofepdaa
set_option maxRecDepth 100000
open Go.RowKit
set_option linter.unusedVariables false

/-- a memory does as a game does -/
structure MemOK (K : MemK) : Prop where
  get : ∀ (b : Nat) (g : List Int) (z : Int) (w : World), GH w b K.t g K.rs → g.length = 32 → 0 ≤ z → z < 32 →
    Calls Try.prog K.gf #[.pointer (some ⟨b, 0, none⟩), .int .i64 z] w fun e w' => e = .returned (.int .i32 (cel g z)) ∧ w = w'
  set : ∀ (b : Nat) (g : List Int) (z x : Int) (w : World), GH w b K.t g K.rs → g.length = 32 → 0 ≤ z → z < 32 →
    Calls Try.prog K.sf #[.pointer (some ⟨b, 0, none⟩), .int .i64 z, .int .i32 x] w fun e w' => e = .returned (.tuple #[]) ∧ w.setCell ⟨b, z.toNat, none⟩ (.int .i32 x) = w'
  mget : ∀ (n : Nat) (a : Addr) (w : World), (method (n + 1) K.T (.pointer (some a)) "Get").run Try.prog w = .ok (K.gf, .pointer (some a)) w
  mset : ∀ (n : Nat) (a : Addr) (w : World), (method (n + 1) K.T (.pointer (some a)) "Set").run Try.prog w = .ok (K.sf, .pointer (some a)) w
  cget : ∀ (args : Array Value) (w : World), (callFunc K.gf args).run Try.prog w = .ok (.enter K.gf args) w
  cset : ∀ (args : Array Value) (w : World), (callFunc K.sf args).run Try.prog w = .ok (.enter K.sf args) w
theorem okC : MemOK mkC where
  get b g z w h hg z0 z1 := by
    refine (cget_any b g z.toNat z (by unfold Hid; omega) w h hg (by omega)).mono ?_
    rintro e w' ⟨rfl, rfl⟩
    exact ⟨by rw [cel_of g z z.toNat (by omega) (by omega)], rfl⟩
  set b g z x w h hg z0 z1 := cset_any b g z.toNat z x (by unfold Hid; omega) w h hg (by omega)
  mget n a w := by kernel_rfl
  mset n a w := by kernel_rfl
  cget args w := by kernel_rfl
  cset args w := by kernel_rfl
/-- block xb holds the machine -/
def XM (w : World) (xb : Nat) (t : ByteArray) (A : Option Addr) (n c : Nat) (mv : Value) (fr : Int) (PA : Option Addr) (pn pc : Nat) : Prop :=
  w.heap[xb]? = some (.cells #[.string t, .slice A n c, mv, .int .i64 fr, .slice PA pn pc] 71 (0, 0))
theorem XM.c0 {w : World} {xb : Nat} {t : ByteArray} {A : Option Addr} {n c : Nat} {mv : Value} {fr : Int} {PA : Option Addr} {pn pc : Nat} (h : XM w xb t A n c mv fr PA pn pc) : w.cell? ⟨xb, 0, none⟩ = some (.string t) := by
  rw [cell_of_row w xb _ _ _ _ h]; rfl
theorem XM.c1 {w : World} {xb : Nat} {t : ByteArray} {A : Option Addr} {n c : Nat} {mv : Value} {fr : Int} {PA : Option Addr} {pn pc : Nat} (h : XM w xb t A n c mv fr PA pn pc) : w.cell? ⟨xb, 1, none⟩ = some (.slice A n c) := by
  rw [cell_of_row w xb _ _ _ _ h]; rfl
theorem XM.c2 {w : World} {xb : Nat} {t : ByteArray} {A : Option Addr} {n c : Nat} {mv : Value} {fr : Int} {PA : Option Addr} {pn pc : Nat} (h : XM w xb t A n c mv fr PA pn pc) : w.cell? ⟨xb, 2, none⟩ = some mv := by
  rw [cell_of_row w xb _ _ _ _ h]; rfl
theorem XM.c3 {w : World} {xb : Nat} {t : ByteArray} {A : Option Addr} {n c : Nat} {mv : Value} {fr : Int} {PA : Option Addr} {pn pc : Nat} (h : XM w xb t A n c mv fr PA pn pc) : w.cell? ⟨xb, 3, none⟩ = some (.int .i64 fr) := by
  rw [cell_of_row w xb _ _ _ _ h]; rfl
theorem XM.c4 {w : World} {xb : Nat} {t : ByteArray} {A : Option Addr} {n c : Nat} {mv : Value} {fr : Int} {PA : Option Addr} {pn pc : Nat} (h : XM w xb t A n c mv fr PA pn pc) : w.cell? ⟨xb, 4, none⟩ = some (.slice PA pn pc) := by
  rw [cell_of_row w xb _ _ _ _ h]; rfl

theorem truth_any (b : Bool) (w : World) :
    Calls Try.prog 58 #[.bool b] w fun e w' => e = .returned (.int .i32 (if b then 1 else 0)) ∧ w = w' := by
  cases b with
  | true =>
    go_enter Try.func58, Try.ntmps58
    go_wp2
    go_ret
    exact ⟨rfl, rfl⟩
  | false =>
    go_enter Try.func58, Try.ntmps58
    go_wp2
    go_ret
    exact ⟨rfl, rfl⟩

theorem told_any (K : MemK) (hK : MemOK K) (xb b : Nat) (g : List Int) (z : Int) (w : World) (hx : w.cell? ⟨xb, 2, none⟩ = some (.iface K.T (.pointer (some ⟨b, 0, none⟩)))) (h : GH w b K.t g K.rs) (hg : gam g) (z0 : 0 ≤ z) (z1 : z < 32) :
    Calls Try.prog 38 #[.pointer (some ⟨xb, 0, none⟩), .int .i64 z] w fun e w' => e = .returned (.int .i64 (md (cel g z) 32)) ∧ w = w' := by
  have HG := Lib.hid (hK.get b g z w h hg.1 z0 z1)
  have HM := Lib.hid (mod_any (cel g z) 32 w (hg.cel z).1 (hg.cel z).2 (by omega) (by omega))
  have hm := hK.mget
  have hc := hK.cget
  clear h hg hK
  go_enter Try.func38, Try.ntmps38
  go_wp2_with (first | (go_at_call 44; refine HM.out.mono ?_; rintro e w1 ⟨rfl, rfl⟩) | (with_reducible refine HG.out.mono ?_; rintro e w1 ⟨rfl, rfl⟩))
  go_ret
  exact ⟨rfl, rfl⟩
end Go.Proofs.Ytbmhdinaofepdaa

/- XMd -/
namespace Go.Proofs.Ytbmhdinaofepdaa
set_option maxRecDepth 100000
open Go.RowKit
set_option linter.unusedVariables false

theorem XM.alloc {w : World} {xb : Nat} {t : ByteArray} {A : Option Addr} {n c : Nat} {mv : Value} {fr : Int} {PA : Option Addr} {pn pc : Nat} (h : XM w xb t A n c mv fr PA pn pc) (o : Obj) : XM (w.alloc o) xb t A n c mv fr PA pn pc :=
  (Below.heap_alloc w o xb (Array.getElem?_eq_some_iff.1 h).1).trans h
theorem XM.at_ {w w' : World} {xb : Nat} {t : ByteArray} {A : Option Addr} {n c : Nat} {mv : Value} {fr : Int} {PA : Option Addr} {pn pc : Nat} (h : XM w xb t A n c mv fr PA pn pc) (e : w'.heap[xb]? = w.heap[xb]?) : XM w' xb t A n c mv fr PA pn pc := e.trans h
theorem XM.lt {w : World} {xb : Nat} {t : ByteArray} {A : Option Addr} {n c : Nat} {mv : Value} {fr : Int} {PA : Option Addr} {pn pc : Nat} (h : XM w xb t A n c mv fr PA pn pc) : xb < w.heap.size := (Array.getElem?_eq_some_iff.1 h).1
/-- an operation's block -/
theorem op_box (w : World) (k a b c : Int) (T : TypeId) : (w.alloc (.cells #[.int .i64 k, .int .i64 a, .int .i64 b, .int .i64 c] T)).cell? ⟨w.heap.size, 0, none⟩ = some (.int .i64 k) ∧
    (w.alloc (.cells #[.int .i64 k, .int .i64 a, .int .i64 b, .int .i64 c] T)).cell? ⟨w.heap.size, 1, none⟩ = some (.int .i64 a) ∧
    (w.alloc (.cells #[.int .i64 k, .int .i64 a, .int .i64 b, .int .i64 c] T)).cell? ⟨w.heap.size, 2, none⟩ = some (.int .i64 b) ∧
    (w.alloc (.cells #[.int .i64 k, .int .i64 a, .int .i64 b, .int .i64 c] T)).cell? ⟨w.heap.size, 3, none⟩ = some (.int .i64 c) := by
  refine ⟨?_, ?_, ?_, ?_⟩ <;> (rw [cell_of_row _ _ _ _ _ _ (heap_alloc_new w _)]; rfl)

theorem pressed_some (l : List UInt8) (k : Nat) (h : k < l.length) : pressN l (k : Int) = ((l[k]'h).toNat : Int) := by
  unfold pressN
  rw [if_pos (by omega), Int.toNat_natCast, List.getElem?_eq_getElem h]; rfl
theorem pressed_none (l : List UInt8) (z : Int) (h : z < 0 ∨ (l.length : Int) ≤ z) : pressN l z = 0 := by
  unfold pressN
  split
  · rw [List.getElem?_eq_none (by omega)]; rfl
  · rfl
theorem vpressed_any (xb : Nat) (PA : Option Addr) (l : List UInt8) (pc B : Nat) (z : Int) (w : World) (hx : w.cell? ⟨xb, 4, none⟩ = some (.slice PA l.length pc)) (hr : RB w B PA l) (hc : l.length ≤ pc) (hm : pc ≤ maxLen) (hz : in32 z) :
    Calls Try.prog 45 #[.pointer (some ⟨xb, 0, none⟩), .int .i64 z] w fun e w' => e = .returned (.int .i32 (pressN l z)) ∧ w = w' := by
  obtain ⟨z0, z1⟩ := hz
  unfold maxLen at hm
  by_cases h0 : z < 0
  · have HQ := Lib.hid (pressed_none l z (.inl h0))
    clear hr
    go_enter Try.func45, Try.ntmps45
    go_wp2
    go_ret
    exact ⟨ret_i32 HQ.out.symm, rfl⟩
  · by_cases h1 : (l.length : Int) ≤ z
    · have HQ := Lib.hid (pressed_none l z (.inr h1))
      have h2 : z ≥ (l.length : Int) := h1
      clear hr
      go_enter Try.func45, Try.ntmps45
      go_wp2
      go_ret
      exact ⟨ret_i32 HQ.out.symm, rfl⟩
    · obtain ⟨k, hk⟩ := Int.eq_ofNat_of_zero_le (show 0 ≤ z by omega)
      have hkl : k < l.length := by omega
      have HQ := Lib.hid (pressed_some l k hkl)
      have h2 : ¬ z ≥ (l.length : Int) := by omega
      have h3 : z < (l.length : Int) := by omega
      have h4 : z.toNat = k := by omega
      obtain ⟨b, off, rfl, hbB, hcell⟩ := hr (by omega)
      have hv := hcell k hkl
      unfold vb at hv
      have hu := (l[k]'hkl).toNat_lt
      generalize l[k]'hkl = y at *
      have HK := Lib.hid hk
      clear hk hcell hr
      generalize hyy : (y.toNat : Int) = u at *
      have u0 : 0 ≤ u := by omega
      have u1 : u ≤ 255 := by omega
      clear hyy hu
      go_enter Try.func45, Try.ntmps45
      go_wp2
      go_ret
      exact ⟨by rw [HK.out]; exact ret_i32 HQ.out.symm, rfl⟩

theorem reckN_3 (b c : Int) : reckN 3 b c = rd (b + c) := rfl
theorem reckN_4 (b c : Int) : reckN 4 b c = rd (b - c) := rfl
theorem reckN_5 (b c : Int) : reckN 5 b c = rd (b * c) := rfl
theorem reckN_6 (b c : Int) : reckN 6 b c = dv b c := rfl
theorem reckN_7 (b c : Int) : reckN 7 b c = if decide (b < c) then 1 else 0 := by unfold reckN; simp
theorem reckN_8 (b c : Int) : reckN 8 b c = if (b == c) then 1 else 0 := by unfold reckN; simp
theorem vreckon_any (k b c : Int) (w : World) (k0 : 3 ≤ k) (k1 : k ≤ 8) (hb : in32 b) (hc : in32 c) :
    Calls Try.prog 47 #[.int .i64 k, .int .i32 b, .int .i32 c] w fun e w' => e = .returned (.int .i32 (reckN k b c)) ∧ w = w' := by
  obtain ⟨b0, b1⟩ := hb
  obtain ⟨c0, c1⟩ := hc
  obtain rfl | rfl | rfl | rfl | rfl | rfl : k = 3 ∨ k = 4 ∨ k = 5 ∨ k = 6 ∨ k = 7 ∨ k = 8 := by omega
  · go_enter Try.func47, Try.ntmps47
    go_wp2_with (go_at_call 54; refine (add_any b c _).mono ?_; rintro e w1 ⟨rfl, rfl⟩)
    go_ret
    exact ⟨rfl, rfl⟩
  · go_enter Try.func47, Try.ntmps47
    go_wp2_with (go_at_call 55; refine (sub_any b c _).mono ?_; rintro e w1 ⟨rfl, rfl⟩)
    go_ret
    exact ⟨rfl, rfl⟩
  · go_enter Try.func47, Try.ntmps47
    go_wp2_with (go_at_call 56; refine (mul_any b c _).mono ?_; rintro e w1 ⟨rfl, rfl⟩)
    go_ret
    exact ⟨rfl, rfl⟩
  · go_enter Try.func47, Try.ntmps47
    go_wp2_with (go_at_call 57; refine (div_any b c _ c0 c1).mono ?_; rintro e w1 ⟨rfl, rfl⟩)
    go_ret
    exact ⟨rfl, rfl⟩
  · have HQ := Lib.hid (reckN_7 b c)
    by_cases h : b < c
    · have HT : Hid (decide (b < c) = true) := by unfold Hid; simp [h]
      go_enter Try.func47, Try.ntmps47
      go_wp2_with (go_at_call 58; refine (truth_any true _).mono ?_; rintro e w1 ⟨rfl, rfl⟩)
      go_ret
      exact ⟨ret_i32 (by rw [HQ.out, HT.out]; rfl), rfl⟩
    · have HT : Hid (decide (b < c) = false) := by unfold Hid; simp [h]
      go_enter Try.func47, Try.ntmps47
      go_wp2_with (go_at_call 58; refine (truth_any false _).mono ?_; rintro e w1 ⟨rfl, rfl⟩)
      go_ret
      exact ⟨ret_i32 (by rw [HQ.out, HT.out]; rfl), rfl⟩
  · have HQ := Lib.hid (reckN_8 b c)
    cases h : (b == c) with
    | true =>
      rw [h] at HQ
      go_enter Try.func47, Try.ntmps47
      go_wp2_with (go_at_call 58; refine (truth_any true _).mono ?_; rintro e w1 ⟨rfl, rfl⟩)
      go_ret
      exact ⟨ret_i32 HQ.out.symm, rfl⟩
    | false =>
      rw [h] at HQ
      go_enter Try.func47, Try.ntmps47
      go_wp2_with (go_at_call 58; refine (truth_any false _).mono ?_; rintro e w1 ⟨rfl, rfl⟩)
      go_ret
      exact ⟨ret_i32 HQ.out.symm, rfl⟩
end Go.Proofs.Ytbmhdinaofepdaa
