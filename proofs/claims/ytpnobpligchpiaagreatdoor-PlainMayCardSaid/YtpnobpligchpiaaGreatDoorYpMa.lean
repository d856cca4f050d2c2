/- texts of YpMa -/
import Derived.BigQuiet
import Derived.Deep.RegionHeld3
import Derived.Lib.TrimU
import Derived.Test.YtpnobpligchpiaaGreatDoorYpD
import Derived.Test.YtpnobpligchpiaaGreatDoorYpEa
import Derived.Test.YtpnobpligchpiaaGreatDoorYpGa
import Derived.Test.YtpnobpligchpiaaGreatDoorYpK
import Derived.Test.YtpnobpligchpiaaGreatDoorYpOa
import Derived.Test.YtpnobpligchpiaaGreatDoorYpRa
namespace Go.Proofs.YtpnobpligchpiaaGreatDoor
set_option maxRecDepth 100000
open Go.RowKit
set_option linter.unusedVariables false
def GH (w : World) (b : Nat) (t : TypeId) (g : List Int) (rs : List Value) : Prop := w.heap[b]? = some (.cells (g.map vi ++ rs).toArray t (0, 0))
theorem GH.of {w : World} {b : Nat} {t : TypeId} {g : List Int} (h : GA w b t g) : GH w b t g [] := by
 unfold GH; rw [List.append_nil]; exact h
theorem GH.to {w : World} {b : Nat} {t : TypeId} {g : List Int} (h : GH w b t g []) : GA w b t g := by
 unfold GH at h; rw [List.append_nil] at h; exact h
theorem GH.lt {w : World} {b : Nat} {t : TypeId} {g : List Int} {rs : List Value} (h : GH w b t g rs) : b < w.heap.size := (Array.getElem?_eq_some_iff.1 h).1
theorem GH.cell {w : World} {b : Nat} {t : TypeId} {g : List Int} {rs : List Value} (h : GH w b t g rs) (k : Nat) (hk : k < g.length) : w.cell? ⟨b, k, none⟩ = some (.int .i32 g[k]) := by
 rw [cell_of_row w b k _ _ _ h]
 simp [List.getElem?_append_left, hk, vi]
theorem GH.rest {w : World} {b : Nat} {t : TypeId} {g : List Int} {rs : List Value} (h : GH w b t g rs) (k : Nat) (hk : k < rs.length) : w.cell? ⟨b, g.length + k, none⟩ = some rs[k] := by
 rw [cell_of_row w b _ _ _ _ h]
 simp [hk]
theorem GH.frozen {w : World} {b : Nat} {t : TypeId} {g : List Int} {rs : List Value} (h : GH w b t g rs) (k : Nat) : w.frozen? ⟨b, k, none⟩ = false := by
 unfold GH at h
 simp [World.frozen?, h]
theorem GH.set {w : World} {b : Nat} {t : TypeId} {g : List Int} {rs : List Value} (h : GH w b t g rs) (k : Nat) (hk : k < g.length) (x : Int) : GH (w.setCell ⟨b, k, none⟩ (.int .i32 x)) b t (g.set k x) rs := by
 unfold GH at *
 have hs : (((g.set k x).map vi ++ rs).toArray : Array Value) = (g.map vi ++ rs).toArray.setIfInBounds k (.int .i32 x) := by
  rw [List.map_set, List.setIfInBounds_toArray, List.set_append_left _ _ (by simpa using hk)]
  rfl
 rw [hs]
 simp [World.setCell, Array.getElem?_modify, h]
theorem GH.at_ {w w' : World} {b : Nat} {t : TypeId} {g : List Int} {rs : List Value} (h : GH w b t g rs) (e : w'.heap[b]? = w.heap[b]?) : GH w' b t g rs := e.trans h
theorem GH.below {w w' : World} {b B : Nat} {t : TypeId} {g : List Int} {rs : List Value} (h : GH w b t g rs) (hb : Below B w w') (hB : b < B) : GH w' b t g rs := (hb.block b hB).trans h
theorem GH.alloc {w : World} {b : Nat} {t : TypeId} {g : List Int} {rs : List Value} (h : GH w b t g rs) (o : Obj) : GH (w.alloc o) b t g rs := (Below.heap_alloc w o b h.lt).trans h
theorem GH.drew {w : World} {b : Nat} {t : TypeId} {g : List Int} {rs : List Value} (h : GH w b t g rs) : GH w.drew b t g rs := h
theorem GH.new (w : World) (t : TypeId) (g : List Int) (rs : List Value) : GH (w.alloc (.cells (g.map vi ++ rs).toArray t)) w.heap.size t g rs := heap_alloc_last w _
structure MemK where
 T : TypeId
 gf : FuncId
 sf : FuncId
 t : TypeId
 rs : List Value
def mkC : MemK := ⟨249, 243, 244, 247, []⟩
theorem cget_any (b : Nat) (g : List Int) (k : Nat) (z : Int) (hz : Hid (z = k)) (w : World) (h : GH w b 247 g []) (hg : g.length = 32) (hk : k < 32) :
 Calls Tryz.prog 243 #[.pointer (some ⟨b, 0, none⟩), .int .i64 z] w fun e w' => e = .returned (.int .i32 (g[k]'(by omega))) ∧ w = w' := by
 have hc := h.cell k (by omega)
 have z0 : 0 ≤ z := by have := hz.out; omega
 have z1 : z < 32 := by have := hz.out; omega
 have zk : z.toNat = k := by have := hz.out; omega
 generalize g[k]'(by omega) = x at hc ⊢
 go_enter Tryz.func243, Tryz.ntmps243
 go_wp2
 go_ret
 exact ⟨rfl, rfl⟩
theorem cset_any (b : Nat) (g : List Int) (k : Nat) (z x : Int) (hz : Hid (z = k)) (w : World) (h : GH w b 247 g []) (hg : g.length = 32) (hk : k < 32) :
 Calls Tryz.prog 244 #[.pointer (some ⟨b, 0, none⟩), .int .i64 z, .int .i32 x] w fun e w' => e = .returned (.tuple #[]) ∧ w.setCell ⟨b, k, none⟩ (.int .i32 x) = w' := by
 have hc := h.cell k (by omega)
 have hf := h.frozen k
 have z0 : 0 ≤ z := by have := hz.out; omega
 have z1 : z < 32 := by have := hz.out; omega
 have zk : z.toNat = k := by have := hz.out; omega
 generalize g[k]'(by omega) = y at hc
 go_enter Tryz.func244, Tryz.ntmps244
 go_wp2
 go_end0
 exact ⟨rfl, rfl⟩
def cel (g : List Int) (i : Int) : Int := (g[i.toNat]?).getD 0
theorem cel_at (g : List Int) (k : Nat) (h : k < g.length) : cel g (k : Int) = g[k] := by
 unfold cel; rw [Int.toNat_natCast, List.getElem?_eq_getElem h]; rfl
theorem cel_of (g : List Int) (i : Int) (k : Nat) (hi : i = k) (h : k < g.length) : g[k] = cel g i := by
 subst hi; exact (cel_at g k h).symm
def in32 (z : Int) : Prop := -2147483648 ≤ z ∧ z ≤ 2147483647
def gam (g : List Int) : Prop := g.length = 32 ∧ ∀ z ∈ g, in32 z
theorem gam.cel {g : List Int} (h : gam g) (i : Int) : in32 (cel g i) := by
 unfold Go.Proofs.YtpnobpligchpiaaGreatDoor.cel
 cases e : g[i.toNat]? with
 | none => unfold in32; simp
 | some x => exact h.2 x (List.mem_of_getElem? e)
theorem gam.set {g : List Int} (h : gam g) (k : Nat) {x : Int} (hx : in32 x) : gam (g.set k x) := by
 refine ⟨by rw [List.length_set]; exact h.1, fun z hz => ?_⟩
 rcases List.mem_or_eq_of_mem_set hz with h1 | h1
 · exact h.2 z h1
 · rw [h1]; exact hx
theorem gam_len {g : List Int} (h : gam g) : g.length = (zG 32).length := by rw [h.1, zG_length]
theorem gam.zero : gam (zG 32) := ⟨zG_length 32, fun z hz => by
 unfold zG at hz
 rw [List.mem_replicate] at hz
 rw [hz.2]; unfold in32; omega⟩
def reckN (k b c : Int) : Int := if k = 3 then rd (b + c) else if k = 4 then rd (b - c) else if k = 5 then rd (b * c) else if k = 6 then dv b c else if k = 7 then (if b < c then 1 else 0) else if b = c then 1 else 0
theorem in32_rd (x : Int) : in32 (rd x) := ⟨rd_lo x, rd_hi x⟩
theorem in32_dv (a b : Int) : in32 (dv a b) := by
 unfold dv; split
 · unfold in32; omega
 · exact in32_rd _
theorem in32_reckN (k b c : Int) : in32 (reckN k b c) := by
 unfold reckN
 repeat' split
 all_goals first | exact in32_rd _ | exact in32_dv _ _ | (unfold in32; omega)
def pressN (l : List UInt8) (z : Int) : Int := if 0 ≤ z then ((l[z.toNat]?).map fun x => (x.toNat : Int)).getD 0 else 0
theorem in32_pressN (l : List UInt8) (z : Int) : in32 (pressN l z) := by
 unfold pressN
 split
 · cases l[z.toNat]? with
   | none => unfold in32; simp
   | some x => have := x.toNat_lt; unfold in32; simp; omega
 · unfold in32; omega
theorem rnsAt_le (s : ByteArray) : ∀ (n p : Nat), s.size - p ≤ n → ∀ x ∈ rnsAt s p, x.1 ≤ 1114111 := by
 intro n
 induction n with
 | zero => intro p h x hx; rw [rnsAt_end (by omega)] at hx; cases hx
 | succ n ih =>
   intro p h x hx
   by_cases hp : p < s.size
   · rw [rnsAt_step hp] at hx
     have := dec_pos s p
     rcases List.mem_cons.1 hx with rfl | hx
     · exact Lib.rune_le s p
     · exact ih _ (by omega) x hx
   · rw [rnsAt_end hp] at hx; cases hx
theorem in32_atR (s : ByteArray) (n : Int) : in32 (atR s n) := by
 unfold atR
 split
 · cases e : (rns s)[n.toNat]? with
   | none => unfold in32; simp
   | some x => have := rnsAt_le s s.size 0 (by omega) x (List.mem_of_getElem? e); unfold in32; simp; omega
 · unfold in32; omega
structure Env where
 t : ByteArray
 fr : Int
 l : List UInt8
def valN (E : Env) (g : List Int) (o : O4) : Int :=
 if o.k = 1 then o.b else if o.k = 2 then cel g o.b else if o.k = 11 then pressN E.l (cel g o.b) else if o.k = 12 then cel g (md (cel g o.b) 32)
 else if o.k = 14 then atR E.t (cel g o.b) else if o.k = 15 then rd E.fr else reckN o.k (cel g o.b) (cel g o.c)
def nxtN (n : Nat) (g : List Int) (p : Nat) (o : O4) : Nat := if o.k = 0 then n else if o.k = 9 then o.a.toNat else if o.k = 10 ∧ cel g o.a = 0 then o.b.toNat else p + 1
def gmN (E : Env) (g : List Int) (o : O4) : List Int :=
 if o.k = 0 ∨ o.k = 9 ∨ o.k = 10 then g else if o.k = 13 then g.set (md (cel g o.a) 32).toNat (cel g o.b) else g.set o.a.toNat (valN E g o)
def goN (E : Env) (os : List O4) : Nat → Nat → List Int → List Int × Nat
 | 0, _, g => (g, 0)
 | f + 1, p, g => match os[p]? with
   | none => (g, 0)
   | some o => ((goN E os f (nxtN os.length g p o) (gmN E g o)).1, (goN E os f (nxtN os.length g p o) (gmN E g o)).2 + 1)
theorem goN_end (E : Env) (os : List O4) (f p : Nat) (g : List Int) (h : f = 0 ∨ os.length ≤ p) : goN E os f p g = (g, 0) := by
 cases f with
 | zero => rfl
 | succ f =>
   unfold goN
   rw [List.getElem?_eq_none (by omega)]
theorem goN_step (E : Env) (os : List O4) (f p : Nat) (g : List Int) (h : p < os.length) :
 goN E os (f + 1) p g = ((goN E os f (nxtN os.length g p os[p]) (gmN E g os[p])).1, (goN E os f (nxtN os.length g p os[p]) (gmN E g os[p])).2 + 1) := by
 conv => lhs; unfold goN
 rw [List.getElem?_eq_getElem h]
def frameN (E : Env) (os : List O4) (g : List Int) : List Int × Nat := if faultN (titB E.t) os = -1 then goN E os 200 0 g else (g, 0)
structure MayO (o : O4) (n : Nat) : Prop where
 k0 : 0 ≤ o.k
 k1 : o.k ≤ 15
 a : o.k ≠ 0 → o.k ≠ 9 → 0 ≤ o.a ∧ o.a < 32
 j : o.k = 9 → 0 ≤ o.a ∧ o.a ≤ n
 b : o.k ≠ 0 → o.k ≠ 1 → o.k ≠ 9 → o.k ≠ 10 → o.k ≠ 15 → 0 ≤ o.b ∧ o.b < 32
 z : o.k = 10 → 0 ≤ o.b ∧ o.b ≤ n
 c : 3 ≤ o.k → o.k ≤ 8 → 0 ≤ o.c ∧ o.c < 32
theorem may_of {o : O4} {n : Nat} (h : eMayB o n = true) : MayO o n := by
 unfold eMayB at h
 simp only [Bool.and_eq_true] at h
 obtain ⟨⟨⟨h0, ha⟩, hb⟩, hc⟩ := h
 unfold codeB at h0
 simp only [Bool.and_eq_true, decide_eq_true_eq] at h0
 obtain ⟨h0, h1⟩ := h0
 obtain ⟨k, hk⟩ := Int.eq_ofNat_of_zero_le h0
 rw [hk, Int.toNat_natCast] at ha hb hc
 unfold kd at ha hb hc
 simp only at ha hb hc
 unfold kdA hasB at ha
 unfold kdB hasB at hb
 unfold kdC hasB at hc
 constructor
 · exact h0
 · exact h1
 · intro e1 e2
   rw [if_neg (show ¬ k = 0 by omega), if_neg (show ¬ k = 9 by omega)] at ha
   simpa using ha
 · intro e1
   rw [if_neg (show ¬ k = 0 by omega), if_pos (show k = 9 by omega)] at ha
   simpa using ha
 · intro e1 e2 e3 e4 e5
   rw [if_neg (show ¬ (k = 0 ∨ k = 9 ∨ k = 15) by omega), if_neg (show ¬ k = 1 by omega), if_neg (show ¬ k = 10 by omega)] at hb
   simpa using hb
 · intro e1
   rw [if_neg (show ¬ (k = 0 ∨ k = 9 ∨ k = 15) by omega), if_neg (show ¬ k = 1 by omega), if_pos (show k = 10 by omega)] at hb
   simpa using hb
 · intro e1 e2
   rw [if_pos (show 3 ≤ k ∧ k ≤ 8 by omega)] at hc
   simpa using hc
theorem may_all {tb : Bool} {os : List O4} (h : faultN tb os = -1) : fitsB tb os = true ∧ ∀ j (hj : j < os.length), MayO os[j] os.length := by
 unfold faultN at h
 split at h
 · rename_i hf
   refine ⟨hf, ?_⟩
   rcases firstN_eq (fun o => eMayB o os.length) os with ⟨k, hk, e, _⟩ | ⟨_, ha⟩
   · rw [e] at h; omega
   · exact fun j hj => may_of (ha j hj)
 · omega
theorem MayO.nxt {o : O4} {n : Nat} (h : MayO o n) (g : List Int) (p : Nat) (hp : p < n) : nxtN n g p o ≤ n := by
 unfold nxtN
 split
 · omega
 · split
   · have := h.j (by assumption); omega
   · split
     · rename_i hz; have := h.z hz.1; omega
     · omega
theorem MayO.val {o : O4} {n : Nat} (h : MayO o n) (hs : sml o.b) (E : Env) {g : List Int} (hg : gam g) : in32 (valN E g o) := by
 unfold valN
 repeat' split
 · exact hs
 · exact hg.cel _
 · exact in32_pressN _ _
 · exact hg.cel _
 · exact in32_atR _ _
 · exact in32_rd _
 · exact in32_reckN _ _ _
theorem MayO.gm {o : O4} {n : Nat} (h : MayO o n) (hs : sml o.b) (E : Env) {g : List Int} (hg : gam g) : gam (gmN E g o) := by
 unfold gmN
 repeat' split
 · exact hg
 · exact hg.set _ (hg.cel _)
 · exact hg.set _ (h.val hs E hg)
theorem md32 (z : Int) : 0 ≤ md z 32 ∧ md z 32 < 32 := by
 rw [md_some z 32 (by omega)]; omega
theorem goN_gam (E : Env) (os : List O4) (hm : ∀ j (hj : j < os.length), MayO os[j] os.length ∧ sml os[j].b) : ∀ (f p : Nat) (g : List Int), gam g → gam (goN E os f p g).1 := by
 intro f
 induction f with
 | zero => intro p g hg; exact hg
 | succ f ih =>
   intro p g hg
   by_cases hp : p < os.length
   · rw [goN_step E os f p g hp]
     exact ih _ _ ((hm p hp).1.gm (hm p hp).2 E hg)
   · rw [goN_end E os (f + 1) p g (.inr (by omega))]; exact hg
theorem frameN_gam (E : Env) (os : List O4) {g : List Int} (hg : gam g) : gam (frameN E os g).1 := by
 unfold frameN
 split
 · rename_i h
   obtain ⟨hf, hm⟩ := may_all h
   have hs := ((fitsB_iff _ _).1 hf).2.2.2
   exact goN_gam E os (fun j hj => ⟨hm j hj, (hs _ (List.getElem_mem hj)).2.2.1⟩) _ _ _ hg
 · exact hg
structure MemOK (K : MemK) : Prop where
 get : ∀ (b : Nat) (g : List Int) (z : Int) (w : World), GH w b K.t g K.rs → g.length = 32 → 0 ≤ z → z < 32 →
  Calls Tryz.prog K.gf #[.pointer (some ⟨b, 0, none⟩), .int .i64 z] w fun e w' => e = .returned (.int .i32 (cel g z)) ∧ w = w'
 set : ∀ (b : Nat) (g : List Int) (z x : Int) (w : World), GH w b K.t g K.rs → g.length = 32 → 0 ≤ z → z < 32 →
  Calls Tryz.prog K.sf #[.pointer (some ⟨b, 0, none⟩), .int .i64 z, .int .i32 x] w fun e w' => e = .returned (.tuple #[]) ∧ w.setCell ⟨b, z.toNat, none⟩ (.int .i32 x) = w'
 mget : ∀ (n : Nat) (a : Addr) (w : World), (method (n + 1) K.T (.pointer (some a)) "Get").run Tryz.prog w = .ok (K.gf, .pointer (some a)) w
 mset : ∀ (n : Nat) (a : Addr) (w : World), (method (n + 1) K.T (.pointer (some a)) "Set").run Tryz.prog w = .ok (K.sf, .pointer (some a)) w
 cget : ∀ (args : Array Value) (w : World), (callFunc K.gf args).run Tryz.prog w = .ok (.enter K.gf args) w
 cset : ∀ (args : Array Value) (w : World), (callFunc K.sf args).run Tryz.prog w = .ok (.enter K.sf args) w
theorem okC : MemOK mkC where
 get b g z w h hg z0 z1 := by
  refine (cget_any b g z.toNat z (by unfold Hid; omega) w h hg (by omega)).mono ?_
  rintro e w' ⟨rfl, rfl⟩
  exact ⟨by rw [cel_of g z z.toNat (by omega) (by omega)], rfl⟩
 set b g z x w h hg z0 z1 := cset_any b g z.toNat z x (by unfold Hid; omega) w h hg (by omega)
 mget n a w := by kernel_rfl
 mset n a w := by kernel_rfl
 cget args w := by kernel_rfl
 cset args w := by kernel_rfl
def XM (w : World) (xb : Nat) (t : ByteArray) (A : Option Addr) (n c : Nat) (mv : Value) (fr : Int) (PA : Option Addr) (pn pc : Nat) : Prop :=
 w.heap[xb]? = some (.cells #[.string t, .slice A n c, mv, .int .i64 fr, .slice PA pn pc] 266 (0, 0))
theorem XM.c0 {w : World} {xb : Nat} {t : ByteArray} {A : Option Addr} {n c : Nat} {mv : Value} {fr : Int} {PA : Option Addr} {pn pc : Nat} (h : XM w xb t A n c mv fr PA pn pc) : w.cell? ⟨xb, 0, none⟩ = some (.string t) := by
 rw [cell_of_row w xb _ _ _ _ h]; rfl
theorem XM.c1 {w : World} {xb : Nat} {t : ByteArray} {A : Option Addr} {n c : Nat} {mv : Value} {fr : Int} {PA : Option Addr} {pn pc : Nat} (h : XM w xb t A n c mv fr PA pn pc) : w.cell? ⟨xb, 1, none⟩ = some (.slice A n c) := by
 rw [cell_of_row w xb _ _ _ _ h]; rfl
theorem XM.c2 {w : World} {xb : Nat} {t : ByteArray} {A : Option Addr} {n c : Nat} {mv : Value} {fr : Int} {PA : Option Addr} {pn pc : Nat} (h : XM w xb t A n c mv fr PA pn pc) : w.cell? ⟨xb, 2, none⟩ = some mv := by
 rw [cell_of_row w xb _ _ _ _ h]; rfl
theorem XM.c3 {w : World} {xb : Nat} {t : ByteArray} {A : Option Addr} {n c : Nat} {mv : Value} {fr : Int} {PA : Option Addr} {pn pc : Nat} (h : XM w xb t A n c mv fr PA pn pc) : w.cell? ⟨xb, 3, none⟩ = some (.int .i64 fr) := by
 rw [cell_of_row w xb _ _ _ _ h]; rfl
theorem XM.c4 {w : World} {xb : Nat} {t : ByteArray} {A : Option Addr} {n c : Nat} {mv : Value} {fr : Int} {PA : Option Addr} {pn pc : Nat} (h : XM w xb t A n c mv fr PA pn pc) : w.cell? ⟨xb, 4, none⟩ = some (.slice PA pn pc) := by
 rw [cell_of_row w xb _ _ _ _ h]; rfl
theorem truth_any (b : Bool) (w : World) :
 Calls Tryz.prog 218 #[.bool b] w fun e w' => e = .returned (.int .i32 (if b then 1 else 0)) ∧ w = w' := by
 cases b with
 | true =>
   go_enter Tryz.func218, Tryz.ntmps218
   go_wp2
   go_ret
   exact ⟨rfl, rfl⟩
 | false =>
   go_enter Tryz.func218, Tryz.ntmps218
   go_wp2
   go_ret
   exact ⟨rfl, rfl⟩
theorem told_any (K : MemK) (hK : MemOK K) (xb b : Nat) (g : List Int) (z : Int) (w : World) (hx : w.cell? ⟨xb, 2, none⟩ = some (.iface K.T (.pointer (some ⟨b, 0, none⟩)))) (h : GH w b K.t g K.rs) (hg : gam g) (z0 : 0 ≤ z) (z1 : z < 32) :
 Calls Tryz.prog 203 #[.pointer (some ⟨xb, 0, none⟩), .int .i64 z] w fun e w' => e = .returned (.int .i64 (md (cel g z) 32)) ∧ w = w' := by
 have HG := qh (hK.get b g z w h hg.1 z0 z1)
 have HM := qh (mod_any (cel g z) 32 w (hg.cel z).1 (hg.cel z).2 (by omega) (by omega))
 have hm := hK.mget
 have hc := hK.cget
 clear h hg hK
 go_enter Tryz.func203, Tryz.ntmps203
 go_wp2_with (first | (go_at_call 208; refine HM.out.mono ?_; rintro e w1 ⟨rfl, rfl⟩) | (with_reducible refine HG.out.mono ?_; rintro e w1 ⟨rfl, rfl⟩))
 go_ret
 exact ⟨rfl, rfl⟩
theorem XM.alloc {w : World} {xb : Nat} {t : ByteArray} {A : Option Addr} {n c : Nat} {mv : Value} {fr : Int} {PA : Option Addr} {pn pc : Nat} (h : XM w xb t A n c mv fr PA pn pc) (o : Obj) : XM (w.alloc o) xb t A n c mv fr PA pn pc :=
 (Below.heap_alloc w o xb (Array.getElem?_eq_some_iff.1 h).1).trans h
theorem XM.at_ {w w' : World} {xb : Nat} {t : ByteArray} {A : Option Addr} {n c : Nat} {mv : Value} {fr : Int} {PA : Option Addr} {pn pc : Nat} (h : XM w xb t A n c mv fr PA pn pc) (e : w'.heap[xb]? = w.heap[xb]?) : XM w' xb t A n c mv fr PA pn pc := e.trans h
theorem XM.lt {w : World} {xb : Nat} {t : ByteArray} {A : Option Addr} {n c : Nat} {mv : Value} {fr : Int} {PA : Option Addr} {pn pc : Nat} (h : XM w xb t A n c mv fr PA pn pc) : xb < w.heap.size := (Array.getElem?_eq_some_iff.1 h).1
theorem op_box (w : World) (k a b c : Int) (T : TypeId) : (w.alloc (.cells #[.int .i64 k, .int .i64 a, .int .i64 b, .int .i64 c] T)).cell? ⟨w.heap.size, 0, none⟩ = some (.int .i64 k) ∧
 (w.alloc (.cells #[.int .i64 k, .int .i64 a, .int .i64 b, .int .i64 c] T)).cell? ⟨w.heap.size, 1, none⟩ = some (.int .i64 a) ∧
 (w.alloc (.cells #[.int .i64 k, .int .i64 a, .int .i64 b, .int .i64 c] T)).cell? ⟨w.heap.size, 2, none⟩ = some (.int .i64 b) ∧
 (w.alloc (.cells #[.int .i64 k, .int .i64 a, .int .i64 b, .int .i64 c] T)).cell? ⟨w.heap.size, 3, none⟩ = some (.int .i64 c) := by
 refine ⟨?_, ?_, ?_, ?_⟩ <;> (rw [cell_of_row _ _ _ _ _ _ (heap_alloc_new w _)]; rfl)
theorem pressed_some (l : List UInt8) (k : Nat) (h : k < l.length) : pressN l (k : Int) = ((l[k]'h).toNat : Int) := by
 unfold pressN
 rw [if_pos (by omega), Int.toNat_natCast, List.getElem?_eq_getElem h]; rfl
theorem pressed_none (l : List UInt8) (z : Int) (h : z < 0 ∨ (l.length : Int) ≤ z) : pressN l z = 0 := by
 unfold pressN
 split
 · rw [List.getElem?_eq_none (by omega)]; rfl
 · rfl
theorem vpressed_any (xb : Nat) (PA : Option Addr) (l : List UInt8) (pc B : Nat) (z : Int) (w : World) (hx : w.cell? ⟨xb, 4, none⟩ = some (.slice PA l.length pc)) (hr : RB w B PA l) (hc : l.length ≤ pc) (hm : pc ≤ maxLen) (hz : in32 z) :
 Calls Tryz.prog 209 #[.pointer (some ⟨xb, 0, none⟩), .int .i64 z] w fun e w' => e = .returned (.int .i32 (pressN l z)) ∧ w = w' := by
 obtain ⟨z0, z1⟩ := hz
 unfold maxLen at hm
 by_cases h0 : z < 0
 · have HQ := qh (pressed_none l z (.inl h0))
   clear hr
   go_enter Tryz.func209, Tryz.ntmps209
   go_wp2
   go_ret
   exact ⟨ret_i32 HQ.out.symm, rfl⟩
 · by_cases h1 : (l.length : Int) ≤ z
   · have HQ := qh (pressed_none l z (.inr h1))
     have h2 : z ≥ (l.length : Int) := h1
     clear hr
     go_enter Tryz.func209, Tryz.ntmps209
     go_wp2
     go_ret
     exact ⟨ret_i32 HQ.out.symm, rfl⟩
   · obtain ⟨k, hk⟩ := Int.eq_ofNat_of_zero_le (show 0 ≤ z by omega)
     have hkl : k < l.length := by omega
     have HQ := qh (pressed_some l k hkl)
     have h2 : ¬ z ≥ (l.length : Int) := by omega
     have h3 : z < (l.length : Int) := by omega
     have h4 : z.toNat = k := by omega
     obtain ⟨b, off, rfl, hbB, hcell⟩ := hr (by omega)
     have hv := hcell k hkl
     unfold vb at hv
     have hu := (l[k]'hkl).toNat_lt
     generalize l[k]'hkl = y at *
     have HK := qh hk
     clear hk hcell hr
     generalize hyy : (y.toNat : Int) = u at *
     have u0 : 0 ≤ u := by omega
     have u1 : u ≤ 255 := by omega
     clear hyy hu
     go_enter Tryz.func209, Tryz.ntmps209
     go_wp2
     go_ret
     exact ⟨by rw [HK.out]; exact ret_i32 HQ.out.symm, rfl⟩
theorem reckN_7 (b c : Int) : reckN 7 b c = if decide (b < c) then 1 else 0 := by unfold reckN; simp
theorem reckN_8 (b c : Int) : reckN 8 b c = if (b == c) then 1 else 0 := by unfold reckN; simp
theorem vreckon_any (k b c : Int) (w : World) (k0 : 3 ≤ k) (k1 : k ≤ 8) (hb : in32 b) (hc : in32 c) :
 Calls Tryz.prog 211 #[.int .i64 k, .int .i32 b, .int .i32 c] w fun e w' => e = .returned (.int .i32 (reckN k b c)) ∧ w = w' := by
 obtain ⟨b0, b1⟩ := hb
 obtain ⟨c0, c1⟩ := hc
 obtain rfl | rfl | rfl | rfl | rfl | rfl : k = 3 ∨ k = 4 ∨ k = 5 ∨ k = 6 ∨ k = 7 ∨ k = 8 := by omega
 · go_enter Tryz.func211, Tryz.ntmps211
   go_wp2_with (go_at_call 214; refine (add_any b c _).mono ?_; rintro e w1 ⟨rfl, rfl⟩)
   go_ret
   exact ⟨rfl, rfl⟩
 · go_enter Tryz.func211, Tryz.ntmps211
   go_wp2_with (go_at_call 215; refine (sub_any b c _).mono ?_; rintro e w1 ⟨rfl, rfl⟩)
   go_ret
   exact ⟨rfl, rfl⟩
 · go_enter Tryz.func211, Tryz.ntmps211
   go_wp2_with (go_at_call 216; refine (mul_any b c _).mono ?_; rintro e w1 ⟨rfl, rfl⟩)
   go_ret
   exact ⟨rfl, rfl⟩
 · go_enter Tryz.func211, Tryz.ntmps211
   go_wp2_with (go_at_call 217; refine (div_any b c _ c0 c1).mono ?_; rintro e w1 ⟨rfl, rfl⟩)
   go_ret
   exact ⟨rfl, rfl⟩
 · have HQ := qh (reckN_7 b c)
   by_cases h : b < c
   · have HT : Hid (decide (b < c) = true) := by unfold Hid; simp [h]
     go_enter Tryz.func211, Tryz.ntmps211
     go_wp2_with (go_at_call 218; refine (truth_any true _).mono ?_; rintro e w1 ⟨rfl, rfl⟩)
     go_ret
     exact ⟨ret_i32 (by rw [HQ.out, HT.out]; rfl), rfl⟩
   · have HT : Hid (decide (b < c) = false) := by unfold Hid; simp [h]
     go_enter Tryz.func211, Tryz.ntmps211
     go_wp2_with (go_at_call 218; refine (truth_any false _).mono ?_; rintro e w1 ⟨rfl, rfl⟩)
     go_ret
     exact ⟨ret_i32 (by rw [HQ.out, HT.out]; rfl), rfl⟩
 · have HQ := qh (reckN_8 b c)
   cases h : (b == c) with
   | true =>
     rw [h] at HQ
     go_enter Tryz.func211, Tryz.ntmps211
     go_wp2_with (go_at_call 218; refine (truth_any true _).mono ?_; rintro e w1 ⟨rfl, rfl⟩)
     go_ret
     exact ⟨ret_i32 HQ.out.symm, rfl⟩
   | false =>
     rw [h] at HQ
     go_enter Tryz.func211, Tryz.ntmps211
     go_wp2_with (go_at_call 218; refine (truth_any false _).mono ?_; rintro e w1 ⟨rfl, rfl⟩)
     go_ret
     exact ⟨ret_i32 HQ.out.symm, rfl⟩
structure Mach (K : MemK) (w : World) (xb b : Nat) (g : List Int) (E : Env) (A : Option Addr) (n c : Nat) (PA : Option Addr) (pc : Nat) : Prop where
 ok : MemOK K
 x : XM w xb E.t A n c (.iface K.T (.pointer (some ⟨b, 0, none⟩))) E.fr PA E.l.length pc
 h : GH w b K.t g K.rs
 g : gam g
 l : RB w w.heap.size PA E.l
 pl : E.l.length ≤ pc
 pm : pc ≤ maxLen
 ts : E.t.size ≤ maxLen
 ne : xb ≠ b
theorem Mach.alloc {K : MemK} {w : World} {xb b : Nat} {g : List Int} {E : Env} {A : Option Addr} {n c : Nat} {PA : Option Addr} {pc : Nat} (M : Mach K w xb b g E A n c PA pc) (o : Obj) : Mach K (w.alloc o) xb b g E A n c PA pc :=
 ⟨M.ok, M.x.alloc o, M.h.alloc o, M.g, (M.l.below ((bR w.heap.size w).alloc (nl _) o)).more (by simp), M.pl, M.pm, M.ts, M.ne⟩
theorem Mach.drewN {K : MemK} {w : World} {xb b : Nat} {g : List Int} {E : Env} {A : Option Addr} {n c : Nat} {PA : Option Addr} {pc : Nat} (M : Mach K w xb b g E A n c PA pc) (m : Nat) : Mach K (w.drewN m) xb b g E A n c PA pc := ⟨M.ok, M.x, M.h, M.g, M.l, M.pl, M.pm, M.ts, M.ne⟩
theorem Mach.drew {K : MemK} {w : World} {xb b : Nat} {g : List Int} {E : Env} {A : Option Addr} {n c : Nat} {PA : Option Addr} {pc : Nat} (M : Mach K w xb b g E A n c PA pc) : Mach K w.drew xb b g E A n c PA pc := ⟨M.ok, M.x, M.h, M.g, M.l, M.pl, M.pm, M.ts, M.ne⟩
theorem value_mov (K : MemK) (w : World) (xb b : Nat) (g : List Int) (E : Env) (A : Option Addr) (n c : Nat) (PA : Option Addr) (pc : Nat) (M : Mach K w xb b g E A n c PA pc) (oa ob oc : Int) (b0 : 0 ≤ ob) (b1 : ob < 32) :
 Calls Tryz.prog 204 #[.pointer (some ⟨xb, 0, none⟩), .agg #[.int .i64 2, .int .i64 oa, .int .i64 ob, .int .i64 oc]] w fun e w' => e = .returned (.int .i32 (cel g ob)) ∧ Below w.heap.size w w' := by
 have b0w : Below w.heap.size w (w.alloc (.cells #[.int .i64 2, .int .i64 oa, .int .i64 ob, .int .i64 oc] 151)) := (bR _ _).alloc (nl _) _
 have M1 := M.alloc (.cells #[.int .i64 2, .int .i64 oa, .int .i64 ob, .int .i64 oc] 151)
 have HG := qh (fun m => M.ok.get b g ob _ (M1.drewN m).h M.g.1 b0 b1)
 have hm := M.ok.mget
 have hc := M.ok.cget
 have x2 := M1.x.c2
 clear M M1
 go_enter Tryz.func204, Tryz.ntmps204
 go_wp2_with fail
 go_quiet (with_reducible exact same_left (HG.out _))
 go_wp2
 go_ret
 exact ⟨rfl, below_drewN b0w _⟩
theorem value_set (K : MemK) (w : World) (xb b : Nat) (g : List Int) (E : Env) (A : Option Addr) (n c : Nat) (PA : Option Addr) (pc : Nat) (M : Mach K w xb b g E A n c PA pc) (oa ob oc : Int) (b0 : -2147483648 ≤ ob) (b1 : ob ≤ 2147483647) :
 Calls Tryz.prog 204 #[.pointer (some ⟨xb, 0, none⟩), .agg #[.int .i64 1, .int .i64 oa, .int .i64 ob, .int .i64 oc]] w fun e w' => e = .returned (.int .i32 (ob)) ∧ Below w.heap.size w w' := by
 have b0w : Below w.heap.size w (w.alloc (.cells #[.int .i64 1, .int .i64 oa, .int .i64 ob, .int .i64 oc] 151)) := (bR _ _).alloc (nl _) _
 have M1 := M.alloc (.cells #[.int .i64 1, .int .i64 oa, .int .i64 ob, .int .i64 oc] 151)
 clear M M1
 go_enter Tryz.func204, Tryz.ntmps204
 go_wp2
 go_ret
 exact ⟨rfl, b0w⟩
theorem value_in (K : MemK) (w : World) (xb b : Nat) (g : List Int) (E : Env) (A : Option Addr) (n c : Nat) (PA : Option Addr) (pc : Nat) (M : Mach K w xb b g E A n c PA pc) (oa ob oc : Int) (b0 : 0 ≤ ob) (b1 : ob < 32) :
 Calls Tryz.prog 204 #[.pointer (some ⟨xb, 0, none⟩), .agg #[.int .i64 11, .int .i64 oa, .int .i64 ob, .int .i64 oc]] w fun e w' => e = .returned (.int .i32 (pressN E.l (cel g ob))) ∧ Below w.heap.size w w' := by
 have b0w : Below w.heap.size w (w.alloc (.cells #[.int .i64 11, .int .i64 oa, .int .i64 ob, .int .i64 oc] 151)) := (bR _ _).alloc (nl _) _
 have M1 := M.alloc (.cells #[.int .i64 11, .int .i64 oa, .int .i64 ob, .int .i64 oc] 151)
 have HG := qh (fun m => M.ok.get b g ob _ (M1.drewN m).h M.g.1 b0 b1)
 have hm := M.ok.mget
 have hc := M.ok.cget
 have x2 := M1.x.c2
 obtain ⟨c0, c1⟩ := M.g.cel ob
 have HP := qh (fun m => vpressed_any xb PA E.l pc _ (cel g ob) _ (M1.drewN m).x.c4 (M1.drewN m).l M.pl M.pm (M.g.cel ob))
 clear M M1
 go_enter Tryz.func204, Tryz.ntmps204
 go_wp2_with fail
 go_quiet (first | (go_at_call 209; with_reducible exact same_left (HP.out _)) | (with_reducible exact same_left (HG.out _)))
 go_wp2
 go_ret
 exact ⟨rfl, below_drewN b0w _⟩
theorem value_load (K : MemK) (w : World) (xb b : Nat) (g : List Int) (E : Env) (A : Option Addr) (n c : Nat) (PA : Option Addr) (pc : Nat) (M : Mach K w xb b g E A n c PA pc) (oa ob oc : Int) (b0 : 0 ≤ ob) (b1 : ob < 32) :
 Calls Tryz.prog 204 #[.pointer (some ⟨xb, 0, none⟩), .agg #[.int .i64 12, .int .i64 oa, .int .i64 ob, .int .i64 oc]] w fun e w' => e = .returned (.int .i32 (cel g (md (cel g ob) 32))) ∧ Below w.heap.size w w' := by
 have b0w : Below w.heap.size w (w.alloc (.cells #[.int .i64 12, .int .i64 oa, .int .i64 ob, .int .i64 oc] 151)) := (bR _ _).alloc (nl _) _
 have M1 := M.alloc (.cells #[.int .i64 12, .int .i64 oa, .int .i64 ob, .int .i64 oc] 151)
 have HG := qh (fun m => M.ok.get b g (md (cel g ob) 32) _ (M1.drewN m).h M.g.1 (md32 _).1 (md32 _).2)
 have HT := qh (fun m => told_any K M.ok xb b g ob _ (M1.drewN m).x.c2 (M1.drewN m).h M.g b0 b1)
 have hm := M.ok.mget
 have hc := M.ok.cget
 have x2 := M1.x.c2
 clear M M1
 go_enter Tryz.func204, Tryz.ntmps204
 go_wp2_with fail
 go_quiet (first | (go_at_call 203; with_reducible exact same_left (HT.out _)) | (with_reducible exact same_left (HG.out _)))
 go_wp2
 go_ret
 exact ⟨rfl, below_drewN b0w _⟩
theorem value_time (K : MemK) (w : World) (xb b : Nat) (g : List Int) (E : Env) (A : Option Addr) (n c : Nat) (PA : Option Addr) (pc : Nat) (M : Mach K w xb b g E A n c PA pc) (oa ob oc : Int) :
 Calls Tryz.prog 204 #[.pointer (some ⟨xb, 0, none⟩), .agg #[.int .i64 15, .int .i64 oa, .int .i64 ob, .int .i64 oc]] w fun e w' => e = .returned (.int .i32 (rd E.fr)) ∧ Below w.heap.size w w' := by
 have b0w : Below w.heap.size w (w.alloc (.cells #[.int .i64 15, .int .i64 oa, .int .i64 ob, .int .i64 oc] 151)) := (bR _ _).alloc (nl _) _
 have M1 := M.alloc (.cells #[.int .i64 15, .int .i64 oa, .int .i64 ob, .int .i64 oc] 151)
 have x3 := M1.x.c3
 clear M M1
 go_enter Tryz.func204, Tryz.ntmps204
 go_wp2
 go_ret
 exact ⟨ret_i32 (rd_wrap _), b0w⟩
theorem value_reck (K : MemK) (w : World) (xb b : Nat) (g : List Int) (E : Env) (A : Option Addr) (n c : Nat) (PA : Option Addr) (pc : Nat) (M : Mach K w xb b g E A n c PA pc) (oa ob oc : Int) (k : Int) (k0 : 3 ≤ k) (k1 : k ≤ 8) (b0 : 0 ≤ ob) (b1 : ob < 32) (d0 : 0 ≤ oc) (d1 : oc < 32) :
 Calls Tryz.prog 204 #[.pointer (some ⟨xb, 0, none⟩), .agg #[.int .i64 k, .int .i64 oa, .int .i64 ob, .int .i64 oc]] w fun e w' => e = .returned (.int .i32 (reckN k (cel g ob) (cel g oc))) ∧ Below w.heap.size w w' := by
 have b0w : Below w.heap.size w (w.alloc (.cells #[.int .i64 k, .int .i64 oa, .int .i64 ob, .int .i64 oc] 151)) := (bR _ _).alloc (nl _) _
 have M1 := M.alloc (.cells #[.int .i64 k, .int .i64 oa, .int .i64 ob, .int .i64 oc] 151)
 have HG := qh (fun m => M.ok.get b g ob _ (M1.drewN m).h M.g.1 b0 b1)
 have hm := M.ok.mget
 have hc := M.ok.cget
 have x2 := M1.x.c2
 have HG2 := qh (fun m => M.ok.get b g oc _ (M1.drewN m).h M.g.1 d0 d1)
 have HR := qh (fun m => vreckon_any k (cel g ob) (cel g oc) ((w.alloc (.cells #[.int .i64 k, .int .i64 oa, .int .i64 ob, .int .i64 oc] 151)).drewN m) k0 k1 (M.g.cel ob) (M.g.cel oc))
 have e1 : (k == 1) = false := by rw [beq_eq_false_iff_ne]; omega
 have e2 : (k == 2) = false := by rw [beq_eq_false_iff_ne]; omega
 have e3 : (k == 11) = false := by rw [beq_eq_false_iff_ne]; omega
 have e4 : (k == 12) = false := by rw [beq_eq_false_iff_ne]; omega
 have e5 : (k == 14) = false := by rw [beq_eq_false_iff_ne]; omega
 have e6 : (k == 15) = false := by rw [beq_eq_false_iff_ne]; omega
 clear M M1
 go_enter Tryz.func204, Tryz.ntmps204
 go_wp2_with fail
 go_quiet (first | (go_at_call 211; with_reducible exact same_left (HR.out _)) | (with_reducible exact same_left (HG.out _)) | (with_reducible exact same_left (HG2.out _)))
 go_wp2
 go_ret
 exact ⟨rfl, below_drewN b0w _⟩
set_option maxHeartbeats 400000 in
theorem value_rune (K : MemK) (w : World) (xb b : Nat) (g : List Int) (E : Env) (A : Option Addr) (n c : Nat) (PA : Option Addr) (pc : Nat) (M : Mach K w xb b g E A n c PA pc) (oa ob oc : Int) (b0 : 0 ≤ ob) (b1 : ob < 32) :
 Calls Tryz.prog 204 #[.pointer (some ⟨xb, 0, none⟩), .agg #[.int .i64 14, .int .i64 oa, .int .i64 ob, .int .i64 oc]] w fun e w' => e = .returned (.int .i32 (atR E.t (cel g ob))) ∧ Below w.heap.size w w' := by
 have b0w : Below w.heap.size w (w.alloc (.cells #[.int .i64 14, .int .i64 oa, .int .i64 ob, .int .i64 oc] 151)).drew := ((bR _ _).alloc (nl _) _).drew
 have M1 := (M.alloc (.cells #[.int .i64 14, .int .i64 oa, .int .i64 ob, .int .i64 oc] 151)).drew
 have HG := qh (M.ok.get b g ob _ M1.h M.g.1 b0 b1)
 have hm := M.ok.mget
 have hc := M.ok.cget
 have x0 := M1.x.c0
 have x2 := M1.x.c2
 have o2 : (w.alloc (.cells #[.int .i64 14, .int .i64 oa, .int .i64 ob, .int .i64 oc] 151)).drew.cell? ⟨w.heap.size, 2, none⟩ = some (.int .i64 ob) := (op_box w 14 oa ob oc 151).2.2.1
 have HO := qh (fun W (hb : Below (w.alloc (.cells #[.int .i64 14, .int .i64 oa, .int .i64 ob, .int .i64 oc] 151)).drew.heap.size (w.alloc (.cells #[.int .i64 14, .int .i64 oa, .int .i64 ob, .int .i64 oc] 151)).drew W) => And.intro ((hb.cell (p := ⟨xb, 0, none⟩) (cell_lt x0)).trans x0) (And.intro ((hb.cell (p := ⟨xb, 2, none⟩) (cell_lt x2)).trans x2) ((hb.cell (p := ⟨w.heap.size, 2, none⟩) (cell_lt o2)).trans o2)))
 obtain ⟨c0, c1⟩ := M.g.cel ob
 have HA := qh (at_any E.t (cel g ob) (w.alloc (.cells #[.int .i64 14, .int .i64 oa, .int .i64 ob, .int .i64 oc] 151)).drew M.ts)
 have hsz : w.heap.size ≤ (w.alloc (.cells #[.int .i64 14, .int .i64 oa, .int .i64 ob, .int .i64 oc] 151)).drew.heap.size := by simp
 have hwr : IntKind.i64.wrap (cel g ob) = cel g ob := by rw [IntKind.wrap_i64]; omega
 clear M M1
 go_enter Tryz.func204, Tryz.ntmps204
 go_wp2_with fail
 go_region_held3 (fun w' => w'.cell? ⟨xb, 0, none⟩ = some (.string E.t) ∧ w'.cell? ⟨xb, 2, none⟩ = some (.iface K.T (.pointer (some ⟨b, 0, none⟩))) ∧ w'.cell? ⟨w.heap.size, 2, none⟩ = some (.int .i64 ob)) (first | exact ⟨by assumption, by assumption, by assumption⟩ | go_keep)
  (first
    | (go_at_call 210; with_reducible refine HA.out.mono ?_; rintro e w4 ⟨rfl, hba⟩; obtain ⟨p0, p1, p2⟩ := HO.out _ hba)
    | (with_reducible refine HG.out.mono ?_; rintro e w4 ⟨rfl, rfl⟩))
 go_wp2
 go_ret
 exact ⟨rfl, b0w.trans (hba.mono hsz)⟩
theorem value_any (K : MemK) (w : World) (xb b : Nat) (g : List Int) (E : Env) (A : Option Addr) (n c : Nat) (PA : Option Addr) (pc : Nat) (M : Mach K w xb b g E A n c PA pc) (o : O4) (N : Nat) (hm : MayO o N) (hs : sml o.b)
 (h0 : o.k ≠ 0) (h9 : o.k ≠ 9) (h10 : o.k ≠ 10) (h13 : o.k ≠ 13) :
 Calls Tryz.prog 204 #[.pointer (some ⟨xb, 0, none⟩), opV o] w fun e w' => e = .returned (.int .i32 (valN E g o)) ∧ Below w.heap.size w w' := by
 have ⟨m0, m1, ma, mj, mb, mz, mc⟩ := hm
 obtain ⟨k, oa, ob, oc⟩ := o
 simp only at *
 unfold opV
 by_cases e : 3 ≤ k ∧ k ≤ 8
 · have := mb h0 (by omega) h9 h10 (by omega)
   have h2 := mc e.1 e.2
   have hv : valN E g ⟨k, oa, ob, oc⟩ = reckN k (cel g ob) (cel g oc) := by
    unfold valN
    simp only
    rw [if_neg (by omega), if_neg (by omega), if_neg (by omega), if_neg (by omega), if_neg (by omega), if_neg (by omega)]
   rw [hv]
   exact value_reck K w xb b g E A n c PA pc M oa ob oc k e.1 e.2 this.1 this.2 h2.1 h2.2
 · obtain rfl | rfl | rfl | rfl | rfl | rfl : k = 1 ∨ k = 2 ∨ k = 11 ∨ k = 12 ∨ k = 14 ∨ k = 15 := by omega
   · exact value_set K w xb b g E A n c PA pc M oa ob oc hs.1 hs.2
   · have := mb h0 (by omega) h9 h10 (by omega)
     exact value_mov K w xb b g E A n c PA pc M oa ob oc this.1 this.2
   · have := mb h0 (by omega) h9 h10 (by omega)
     exact value_in K w xb b g E A n c PA pc M oa ob oc this.1 this.2
   · have := mb h0 (by omega) h9 h10 (by omega)
     exact value_load K w xb b g E A n c PA pc M oa ob oc this.1 this.2
   · have := mb h0 (by omega) h9 h10 (by omega)
     exact value_rune K w xb b g E A n c PA pc M oa ob oc this.1 this.2
   · exact value_time K w xb b g E A n c PA pc M oa ob oc
theorem grown_trans {a b c : World} {r : Option Nat} (h : a.grownBy b r) (k : b.grownBy c r) : a.grownBy c r :=
 ⟨k.os.trans h.os, k.tape.trans h.tape, k.output.trans h.output, Nat.le_trans h.size k.size, fun i hi hr => (k.block i (Nat.lt_of_lt_of_le hi h.size) hr).trans (h.block i hi hr)⟩
theorem grown_below {a b : World} {r : Option Nat} (h : Below a.heap.size a b) : a.grownBy b r := ⟨h.os, h.tape, h.output, h.size, fun i hi _ => h.block i hi⟩
theorem grown_set (w : World) (a : Addr) (v : Value) : w.grownBy (w.setCell a v) (some a.block) := ⟨rfl, rfl, rfl, by simp [World.setCell], fun k hk hne => Below.heap_setCell _ _ _ _ (fun e => hne (by rw [e]))⟩
theorem grown_drew (w : World) (r : Option Nat) : w.grownBy w.drew r := ⟨rfl, rfl, rfl, nl _, fun _ _ _ => rfl⟩
theorem grown_drewN (w : World) (n : Nat) (r : Option Nat) : w.grownBy (w.drewN n) r := ⟨rfl, rfl, rfl, nl _, fun _ _ _ => rfl⟩
def DoneP (K : MemK) (w : World) (b : Nat) (E : Env) (g : List Int) (n p : Nat) (o : O4) (e : Ending) (w' : World) : Prop :=
 e = .returned (.int .i64 (nxtN n g p o : Nat)) ∧ GH w' b K.t (gmN E g o) K.rs ∧ w.grownBy w' (some b)
theorem do_halt (K : MemK) (w : World) (xb b : Nat) (g : List Int) (E : Env) (A : Option Addr) (c : Nat) (PA : Option Addr) (pc : Nat) (os : List O4) (M : Mach K w xb b g E A os.length c PA pc) (hr : RO w w.heap.size A os) (hl : os.length ≤ 64) (p : Nat) (hp : p < os.length) (hk : (os[p]'hp).k = 0) :
 Calls Tryz.prog 195 #[.pointer (some ⟨xb, 0, none⟩), .int .i64 (p : Int)] w (DoneP K w b E g os.length p os[p]) := by
 obtain ⟨ob, off, rfl, hbB, hcell⟩ := hr (by omega)
 obtain ⟨q1, q2, q3, q4⟩ := hcell p hp
 clear hcell
 have hn : Hid (nxtN os.length g p os[p] = os.length) := by unfold Hid nxtN; rw [if_pos hk]
 have hg : Hid (gmN E g os[p] = g) := by unfold Hid gmN; rw [if_pos (.inl hk)]
 rw [hk] at q1
 clear hk
 generalize os[p]'hp = o at *
 obtain ⟨k, oa, obb, oc⟩ := o
 simp only at q1 q2 q3 q4
 have b0w : w.grownBy (w.alloc (.cells #[.int .i64 0, .int .i64 oa, .int .i64 obb, .int .i64 oc] 151)) (some b) := World.grownBy_alloc w _ _
 have M1 := M.alloc (.cells #[.int .i64 0, .int .i64 oa, .int .i64 obb, .int .i64 oc] 151)
 have x1 := M.x.c1
 have y1 := M1.x.c1
 have HH := qh M1.h
 clear M M1 hr
 have hpc : (p : Int) < (os.length : Int) := by omega
 go_enter Tryz.func195, Tryz.ntmps195
 go_wp2
 go_ret
 exact ⟨ret_i64 (by rw [hn.out]), by rw [hg.out]; exact HH.out, b0w⟩
theorem do_jump (K : MemK) (w : World) (xb b : Nat) (g : List Int) (E : Env) (A : Option Addr) (c : Nat) (PA : Option Addr) (pc : Nat) (os : List O4) (M : Mach K w xb b g E A os.length c PA pc) (hr : RO w w.heap.size A os) (hl : os.length ≤ 64) (p : Nat) (hp : p < os.length) (hmo : MayO os[p] os.length) (hk : (os[p]'hp).k = 9) :
 Calls Tryz.prog 195 #[.pointer (some ⟨xb, 0, none⟩), .int .i64 (p : Int)] w (DoneP K w b E g os.length p os[p]) := by
 obtain ⟨bb, off, rfl, hbB, hcell⟩ := hr (by omega)
 obtain ⟨q1, q2, q3, q4⟩ := hcell p hp
 clear hcell
 have hn : Hid (nxtN os.length g p os[p] = os[p].a.toNat) := by unfold Hid nxtN; rw [if_neg (by omega), if_pos hk]
 have hg : Hid (gmN E g os[p] = g) := by unfold Hid gmN; rw [if_pos (.inr (.inl hk))]
 have ⟨m0, m1, ma, mj, mb, mz, mc⟩ := hmo
 rw [hk] at q1
 generalize os[p]'hp = o at *
 obtain ⟨k, oa, ob, oc⟩ := o
 simp only at *
 have b0w : w.grownBy (w.alloc (.cells #[.int .i64 9, .int .i64 oa, .int .i64 ob, .int .i64 oc] 151)) (some b) := World.grownBy_alloc w _ _
 have M1 := M.alloc (.cells #[.int .i64 9, .int .i64 oa, .int .i64 ob, .int .i64 oc] 151)
 have x1 := M.x.c1
 obtain ⟨j0, j1⟩ := mj hk
 have HJ : Hid (oa = (oa.toNat : Int)) := by unfold Hid; omega
 have HH := qh M1.h
 clear M M1 hr hk hmo ma mj mb mz mc m0 m1
 have hpc : (p : Int) < (os.length : Int) := by omega
 go_enter Tryz.func195, Tryz.ntmps195
 go_wp2
 go_ret
 exact ⟨ret_i64 (by rw [hn.out]; exact HJ.out), by rw [hg.out]; exact HH.out, b0w⟩
theorem do_zero (K : MemK) (w : World) (xb b : Nat) (g : List Int) (E : Env) (A : Option Addr) (c : Nat) (PA : Option Addr) (pc : Nat) (os : List O4) (M : Mach K w xb b g E A os.length c PA pc) (hr : RO w w.heap.size A os) (hl : os.length ≤ 64) (p : Nat) (hp : p < os.length) (hmo : MayO os[p] os.length) (hk : (os[p]'hp).k = 10) (hz : cel g (os[p]'hp).a = 0) :
 Calls Tryz.prog 195 #[.pointer (some ⟨xb, 0, none⟩), .int .i64 (p : Int)] w (DoneP K w b E g os.length p os[p]) := by
 obtain ⟨bb, off, rfl, hbB, hcell⟩ := hr (by omega)
 obtain ⟨q1, q2, q3, q4⟩ := hcell p hp
 clear hcell
 have hn : Hid (nxtN os.length g p os[p] = os[p].b.toNat) := by unfold Hid nxtN; rw [if_neg (by omega), if_neg (by omega), if_pos ⟨hk, hz⟩]
 have hg : Hid (gmN E g os[p] = g) := by unfold Hid gmN; rw [if_pos (.inr (.inr hk))]
 have ⟨m0, m1, ma, mj, mb, mz, mc⟩ := hmo
 rw [hk] at q1
 generalize os[p]'hp = o at *
 obtain ⟨k, oa, ob, oc⟩ := o
 simp only at *
 have b0w : w.grownBy (w.alloc (.cells #[.int .i64 10, .int .i64 oa, .int .i64 ob, .int .i64 oc] 151)) (some b) := World.grownBy_alloc w _ _
 have M1 := M.alloc (.cells #[.int .i64 10, .int .i64 oa, .int .i64 ob, .int .i64 oc] 151)
 have x1 := M.x.c1
 obtain ⟨a0, a1⟩ := ma (by omega) (by omega)
 obtain ⟨j0, j1⟩ := mz hk
 have HJ : Hid (ob = (ob.toNat : Int)) := by unfold Hid; omega
 have HH := qh M1.h
 have HG := qh (fun m => M.ok.get b g oa _ (M1.drewN m).h M.g.1 a0 a1)
 have hm := M.ok.mget
 have hc := M.ok.cget
 have x2 := M1.x.c2
 have hzb : (cel g oa == 0) = true := by rw [beq_iff_eq]; exact hz
 clear M M1 hr hk hmo ma mj mb mz mc m0 m1 hz
 have hpc : (p : Int) < (os.length : Int) := by omega
 go_enter Tryz.func195, Tryz.ntmps195
 go_wp2_with fail
 go_quiet (with_reducible exact same_left (HG.out _))
 go_wp2
 go_ret
 exact ⟨ret_i64 (by rw [hn.out]; exact HJ.out), by rw [hg.out]; exact HH.out, grown_trans b0w (grown_drewN _ _ _)⟩
theorem do_past (K : MemK) (w : World) (xb b : Nat) (g : List Int) (E : Env) (A : Option Addr) (c : Nat) (PA : Option Addr) (pc : Nat) (os : List O4) (M : Mach K w xb b g E A os.length c PA pc) (hr : RO w w.heap.size A os) (hl : os.length ≤ 64) (p : Nat) (hp : p < os.length) (hmo : MayO os[p] os.length) (hk : (os[p]'hp).k = 10) (hz : ¬ cel g (os[p]'hp).a = 0) :
 Calls Tryz.prog 195 #[.pointer (some ⟨xb, 0, none⟩), .int .i64 (p : Int)] w (DoneP K w b E g os.length p os[p]) := by
 obtain ⟨bb, off, rfl, hbB, hcell⟩ := hr (by omega)
 obtain ⟨q1, q2, q3, q4⟩ := hcell p hp
 clear hcell
 have hn : Hid (nxtN os.length g p os[p] = p + 1) := by unfold Hid nxtN; rw [if_neg (by omega), if_neg (by omega), if_neg (fun h => hz h.2)]
 have hg : Hid (gmN E g os[p] = g) := by unfold Hid gmN; rw [if_pos (.inr (.inr hk))]
 have ⟨m0, m1, ma, mj, mb, mz, mc⟩ := hmo
 rw [hk] at q1
 generalize os[p]'hp = o at *
 obtain ⟨k, oa, ob, oc⟩ := o
 simp only at *
 have b0w : w.grownBy (w.alloc (.cells #[.int .i64 10, .int .i64 oa, .int .i64 ob, .int .i64 oc] 151)) (some b) := World.grownBy_alloc w _ _
 have M1 := M.alloc (.cells #[.int .i64 10, .int .i64 oa, .int .i64 ob, .int .i64 oc] 151)
 have x1 := M.x.c1
 obtain ⟨a0, a1⟩ := ma (by omega) (by omega)
 obtain ⟨j0, j1⟩ := mz hk
 have HJ : Hid (ob = (ob.toNat : Int)) := by unfold Hid; omega
 have HH := qh M1.h
 have HG := qh (fun m => M.ok.get b g oa _ (M1.drewN m).h M.g.1 a0 a1)
 have hm := M.ok.mget
 have hc := M.ok.cget
 have x2 := M1.x.c2
 have hzb : (cel g oa == 0) = false := by rw [beq_eq_false_iff_ne]; exact hz
 clear M M1 hr hk hmo ma mj mb mz mc m0 m1 hz
 have hpc : (p : Int) < (os.length : Int) := by omega
 go_enter Tryz.func195, Tryz.ntmps195
 go_wp2_with fail
 go_quiet (with_reducible exact same_left (HG.out _))
 go_wp2
 go_ret
 exact ⟨ret_i64 (by rw [hn.out]; go_num), by rw [hg.out]; exact HH.out, grown_trans b0w (grown_drewN _ _ _)⟩
theorem grown_cell {w w' : World} {r : Option Nat} (h : w.grownBy w' r) {p : Addr} {v : Value} (hc : w.cell? p = some v) (hr : some p.block ≠ r) : w'.cell? p = some v :=
 (World.cell?_of_block (w := w) (h.block p.block (cell_lt (b := p.block) (off := p.off) (v := v) (by obtain ⟨x, y, z⟩ := p; cases World.cell?_spot hc; exact hc)) hr)).trans hc
set_option maxHeartbeats 1000000 in
theorem do_keep (K : MemK) (w : World) (xb b : Nat) (g : List Int) (E : Env) (A : Option Addr) (c : Nat) (PA : Option Addr) (pc : Nat) (os : List O4) (M : Mach K w xb b g E A os.length c PA pc) (hr : RO w w.heap.size A os) (hl : os.length ≤ 64) (p : Nat) (hp : p < os.length) (hmo : MayO os[p] os.length) (hk : (os[p]'hp).k = 13) :
 Calls Tryz.prog 195 #[.pointer (some ⟨xb, 0, none⟩), .int .i64 (p : Int)] w (DoneP K w b E g os.length p os[p]) := by
 obtain ⟨bb, off, rfl, hbB, hcell⟩ := hr (by omega)
 obtain ⟨q1, q2, q3, q4⟩ := hcell p hp
 clear hcell
 have hn : Hid (nxtN os.length g p os[p] = p + 1) := by unfold Hid nxtN; rw [if_neg (by omega), if_neg (by omega), if_neg (by omega)]
 have hg : Hid (gmN E g os[p] = g.set (md (cel g os[p].a) 32).toNat (cel g os[p].b)) := by unfold Hid gmN; rw [if_neg (by omega), if_pos hk]
 have ⟨m0, m1, ma, mj, mb, mz, mc⟩ := hmo
 rw [hk] at q1
 generalize os[p]'hp = o at *
 obtain ⟨k, oa, ob, oc⟩ := o
 simp only at *
 have b0w : w.grownBy (w.alloc (.cells #[.int .i64 13, .int .i64 oa, .int .i64 ob, .int .i64 oc] 151)) (some b) := World.grownBy_alloc w _ _
 have M1 := M.alloc (.cells #[.int .i64 13, .int .i64 oa, .int .i64 ob, .int .i64 oc] 151)
 have x1 := M.x.c1
 obtain ⟨a0, a1⟩ := ma (by omega) (by omega)
 obtain ⟨b0, b1⟩ := mb (by omega) (by omega) (by omega) (by omega) (by omega)
 obtain ⟨d0, d1⟩ := md32 (cel g oa)
 have M2 := M1.drew
 have HT := qh (told_any K M.ok xb b g oa _ M2.x.c2 M2.h M.g a0 a1)
 have HG := qh (M.ok.get b g ob _ M2.h M.g.1 b0 b1)
 have HS := qh (M.ok.set b g (md (cel g oa) 32) (cel g ob) _ M2.h M.g.1 d0 d1)
 have HN := qh (M2.h.set (md (cel g oa) 32).toNat (by have := M.g.1; omega) (cel g ob))
 have HR := qh (grown_set (w.alloc (.cells #[.int .i64 13, .int .i64 oa, .int .i64 ob, .int .i64 oc] 151)).drew ⟨b, (md (cel g oa) 32).toNat, none⟩ (.int .i32 (cel g ob)))
 have hm := M.ok.mget
 have hc := M.ok.cget
 have hm2 := M.ok.mset
 have hc2 := M.ok.cset
 have x2 := M2.x.c2
 have o1 : (w.alloc (.cells #[.int .i64 13, .int .i64 oa, .int .i64 ob, .int .i64 oc] 151)).drew.cell? ⟨w.heap.size, 1, none⟩ = some (.int .i64 oa) := (op_box w 13 oa ob oc 151).2.1
 have o2 : (w.alloc (.cells #[.int .i64 13, .int .i64 oa, .int .i64 ob, .int .i64 oc] 151)).drew.cell? ⟨w.heap.size, 2, none⟩ = some (.int .i64 ob) := (op_box w 13 oa ob oc 151).2.2.1
 have hbl := M.h.lt
 have hne := M.ne
 have HO := qh (fun W (hb : (w.alloc (.cells #[.int .i64 13, .int .i64 oa, .int .i64 ob, .int .i64 oc] 151)).drew.grownBy W (some b)) => And.intro (grown_cell hb x2 (by simp; exact hne)) (And.intro (grown_cell hb o1 (by simp; omega)) (grown_cell hb o2 (by simp; omega))))
 generalize md (cel g oa) 32 = mm at *
 clear M M1 M2 hr hk hmo ma mj mb mz mc m0 m1
 have hpc : (p : Int) < (os.length : Int) := by omega
 go_enter Tryz.func195, Tryz.ntmps195
 go_wp2_with fail
 go_region_held3 (fun w' => w'.cell? ⟨xb, 2, none⟩ = some (.iface K.T (.pointer (some ⟨b, 0, none⟩))) ∧ w'.cell? ⟨w.heap.size, 1, none⟩ = some (.int .i64 oa) ∧ w'.cell? ⟨w.heap.size, 2, none⟩ = some (.int .i64 ob)) (first | exact ⟨by assumption, by assumption, by assumption⟩ | go_keep)
  (first
    | (go_at_call 203; with_reducible refine HT.out.mono ?_; rintro e w4 ⟨rfl, rfl⟩)
    | (with_reducible refine HG.out.mono ?_; rintro e w4 ⟨rfl, rfl⟩)
    | (with_reducible refine HS.out.mono ?_; rintro e w4 ⟨rfl, hw4⟩; rw [hw4] at HR HN; obtain ⟨p0, p1, p2⟩ := HO.out _ HR.out))
 go_wp2
 go_ret
 exact ⟨ret_i64 (by rw [hn.out]; go_num), by rw [hg.out]; exact HN.out, grown_trans (grown_trans b0w (grown_drew _ _)) HR.out⟩
theorem Mach.below {K : MemK} {w w' : World} {xb b : Nat} {g : List Int} {E : Env} {A : Option Addr} {n c : Nat} {PA : Option Addr} {pc : Nat} (M : Mach K w xb b g E A n c PA pc) (hb : Below w.heap.size w w') : Mach K w' xb b g E A n c PA pc :=
 ⟨M.ok, M.x.at_ (hb.block _ M.x.lt), M.h.below hb M.h.lt, M.g, (M.l.below hb).more hb.size, M.pl, M.pm, M.ts, M.ne⟩
set_option maxHeartbeats 1000000 in
theorem do_val (K : MemK) (w : World) (xb b : Nat) (g : List Int) (E : Env) (A : Option Addr) (c : Nat) (PA : Option Addr) (pc : Nat) (os : List O4) (M : Mach K w xb b g E A os.length c PA pc) (hr : RO w w.heap.size A os) (hl : os.length ≤ 64) (p : Nat) (hp : p < os.length) (hmo : MayO os[p] os.length) (hs : sml (os[p]'hp).b) (h0 : (os[p]'hp).k ≠ 0) (h9 : (os[p]'hp).k ≠ 9) (h10 : (os[p]'hp).k ≠ 10) (h13 : (os[p]'hp).k ≠ 13) :
 Calls Tryz.prog 195 #[.pointer (some ⟨xb, 0, none⟩), .int .i64 (p : Int)] w (DoneP K w b E g os.length p os[p]) := by
 obtain ⟨bb, off, rfl, hbB, hcell⟩ := hr (by omega)
 obtain ⟨q1, q2, q3, q4⟩ := hcell p hp
 clear hcell
 have hn : Hid (nxtN os.length g p os[p] = p + 1) := by unfold Hid nxtN; rw [if_neg h0, if_neg h9, if_neg (fun h => h10 h.1)]
 have hg : Hid (gmN E g os[p] = g.set os[p].a.toNat (valN E g os[p])) := by unfold Hid gmN; rw [if_neg (by omega), if_neg h13]
 generalize os[p]'hp = o at *
 have HV := qh (fun W (MW : Mach K W xb b g E (some ⟨bb, off, none⟩) os.length c PA pc) => value_any K W xb b g E (some ⟨bb, off, none⟩) os.length c PA pc MW o os.length hmo hs h0 h9 h10 h13)
 have ⟨m0, m1, ma, mj, mb, mz, mc⟩ := hmo
 obtain ⟨a0, a1⟩ := ma h0 h9
 generalize valN E g o = v at *
 obtain ⟨k, oa, ob, oc⟩ := o
 unfold opV at HV
 simp only at *
 have b0w : w.grownBy (w.alloc (.cells #[.int .i64 k, .int .i64 oa, .int .i64 ob, .int .i64 oc] 151)) (some b) := World.grownBy_alloc w _ _
 have M1 := M.alloc (.cells #[.int .i64 k, .int .i64 oa, .int .i64 ob, .int .i64 oc] 151)
 have x1 := M.x.c1
 have M2 := M1.drew
 have HV2 := qh (HV.out _ M2)
 have HS := qh (fun W (hb : Below (w.alloc (.cells #[.int .i64 k, .int .i64 oa, .int .i64 ob, .int .i64 oc] 151)).drew.heap.size (w.alloc (.cells #[.int .i64 k, .int .i64 oa, .int .i64 ob, .int .i64 oc] 151)).drew W) => M.ok.set b g oa v W (M2.below hb).h M.g.1 a0 a1)
 have HN := qh (fun W (hb : Below (w.alloc (.cells #[.int .i64 k, .int .i64 oa, .int .i64 ob, .int .i64 oc] 151)).drew.heap.size (w.alloc (.cells #[.int .i64 k, .int .i64 oa, .int .i64 ob, .int .i64 oc] 151)).drew W) => (M2.below hb).h.set oa.toNat (by have := M.g.1; omega) v)
 have hm2 := M.ok.mset
 have hc2 := M.ok.cset
 have x2 := M2.x.c2
 have o0 : (w.alloc (.cells #[.int .i64 k, .int .i64 oa, .int .i64 ob, .int .i64 oc] 151)).drew.cell? ⟨w.heap.size, 0, none⟩ = some (.int .i64 k) := (op_box w k oa ob oc 151).1
 have o1 : (w.alloc (.cells #[.int .i64 k, .int .i64 oa, .int .i64 ob, .int .i64 oc] 151)).drew.cell? ⟨w.heap.size, 1, none⟩ = some (.int .i64 oa) := (op_box w k oa ob oc 151).2.1
 have o2 : (w.alloc (.cells #[.int .i64 k, .int .i64 oa, .int .i64 ob, .int .i64 oc] 151)).drew.cell? ⟨w.heap.size, 2, none⟩ = some (.int .i64 ob) := (op_box w k oa ob oc 151).2.2.1
 have o3 : (w.alloc (.cells #[.int .i64 k, .int .i64 oa, .int .i64 ob, .int .i64 oc] 151)).drew.cell? ⟨w.heap.size, 3, none⟩ = some (.int .i64 oc) := (op_box w k oa ob oc 151).2.2.2
 have hbl := M.h.lt
 have hne := M.ne
 have HO := qh (fun W (hb : (w.alloc (.cells #[.int .i64 k, .int .i64 oa, .int .i64 ob, .int .i64 oc] 151)).drew.grownBy W (some b)) => And.intro (grown_cell hb x2 (by simp; exact hne)) (And.intro (grown_cell hb o0 (by simp; omega)) (And.intro (grown_cell hb o1 (by simp; omega)) (And.intro (grown_cell hb o2 (by simp; omega)) (grown_cell hb o3 (by simp; omega))))))
 have e0 : (k == 0) = false := by rw [beq_eq_false_iff_ne]; exact h0
 have e9 : (k == 9) = false := by rw [beq_eq_false_iff_ne]; exact h9
 have e10 : (k == 10) = false := by rw [beq_eq_false_iff_ne]; exact h10
 have e13 : (k == 13) = false := by rw [beq_eq_false_iff_ne]; exact h13
 clear M M1 M2 hr HV hmo ma mj mb mz mc m0 m1 h0 h9 h10 h13
 have hpc : (p : Int) < (os.length : Int) := by omega
 go_enter Tryz.func195, Tryz.ntmps195
 go_wp2_with fail
 go_region_held3 (fun w' => w'.cell? ⟨xb, 2, none⟩ = some (.iface K.T (.pointer (some ⟨b, 0, none⟩))) ∧ w'.cell? ⟨w.heap.size, 0, none⟩ = some (.int .i64 k) ∧ w'.cell? ⟨w.heap.size, 1, none⟩ = some (.int .i64 oa) ∧ w'.cell? ⟨w.heap.size, 2, none⟩ = some (.int .i64 ob) ∧ w'.cell? ⟨w.heap.size, 3, none⟩ = some (.int .i64 oc)) (first | exact ⟨by assumption, by assumption, by assumption, by assumption, by assumption⟩ | go_keep)
  (first
    | (go_at_call 204; with_reducible refine HV2.out.mono ?_; rintro e w4 ⟨rfl, hb4⟩; obtain ⟨p0, p1, p2, p3, p4⟩ := HO.out _ (grown_below hb4))
    | (with_reducible refine (HS.out _ hb4).mono ?_; rintro e w5 ⟨rfl, hw5⟩; have HR := qh (grown_set w4 ⟨b, oa.toNat, none⟩ (.int .i32 v)); have HN5 := qh (HN.out _ hb4); rw [hw5] at HR HN5; obtain ⟨r0, r1, r2, r3, r4⟩ := HO.out _ (grown_trans (grown_below hb4) HR.out)))
 go_wp2
 go_ret
 exact ⟨ret_i64 (by rw [hn.out]; go_num), by rw [hg.out]; exact HN5.out, grown_trans (grown_trans b0w (grown_drew _ _)) (grown_trans (grown_below hb4) HR.out)⟩
theorem do_any (K : MemK) (w : World) (xb b : Nat) (g : List Int) (E : Env) (A : Option Addr) (c : Nat) (PA : Option Addr) (pc : Nat) (os : List O4) (M : Mach K w xb b g E A os.length c PA pc) (hr : RO w w.heap.size A os) (hl : os.length ≤ 64) (p : Nat) (hp : p < os.length) (hmo : MayO os[p] os.length) (hs : sml (os[p]'hp).b) :
 Calls Tryz.prog 195 #[.pointer (some ⟨xb, 0, none⟩), .int .i64 (p : Int)] w (DoneP K w b E g os.length p os[p]) := by
 by_cases h0 : (os[p]'hp).k = 0
 · exact do_halt K w xb b g E A c PA pc os M hr hl p hp h0
 by_cases h9 : (os[p]'hp).k = 9
 · exact do_jump K w xb b g E A c PA pc os M hr hl p hp hmo h9
 by_cases h10 : (os[p]'hp).k = 10
 · by_cases hz : cel g (os[p]'hp).a = 0
   · exact do_zero K w xb b g E A c PA pc os M hr hl p hp hmo h10 hz
   · exact do_past K w xb b g E A c PA pc os M hr hl p hp hmo h10 hz
 by_cases h13 : (os[p]'hp).k = 13
 · exact do_keep K w xb b g E A c PA pc os M hr hl p hp hmo h13
 exact do_val K w xb b g E A c PA pc os M hr hl p hp hmo hs h0 h9 h10 h13
end Go.Proofs.YtpnobpligchpiaaGreatDoor
