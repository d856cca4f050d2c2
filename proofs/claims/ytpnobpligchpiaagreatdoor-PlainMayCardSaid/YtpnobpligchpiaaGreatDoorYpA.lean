/- texts of YpA -/
import Derived.BigQuiet
import Derived.Deep.DeepCutAuto
import Derived.Laws.MakeOwn
import Derived.Maps.AppendAt
import Derived.Test.YtpnobpligchpiaaGreatDoorYpH
import Derived.Test.YtpnobpligchpiaaGreatDoorYpK
import Derived.Test.YtpnobpligchpiaaGreatDoorYpV
import Derived.Test.YtpnobpligchpiaaGreatDoorYpX
namespace Go.Proofs.YtpnobpligchpiaaGreatDoor
set_option maxRecDepth 100000
open Go.RowKit
set_option linter.unusedVariables false
set_option linter.unusedSimpArgs false
structure Cf where
 n : Nat
 me : Nat
 id : Int
 dl : Nat
 wi : Nat
 g : Int
 o : Int
 br : Int
 wk : Int
 ro : Int
structure Pr where
 he : Nat
 ha : Nat
 fr : Nat
 su : Int
 ap : Bool
inductive Ev where
 | q (p : Nat)
 | l (p : Nat)
 | a (p f : Nat)
structure Pl where
 L : List (List UInt8)
 ck : Nat
 ps : List Pr
 ms : List Int
 es : List Ev
 cl : Bool
def Pl.head (C : Cf) (s : Pl) : Nat := ((s.L[C.me]?).getD []).length
def Bad (s : Pl) (p : Pr) : Prop := p.ap = false ∧ 1 ≤ p.fr ∧ p.fr ≤ s.ms.length ∧ s.ms[p.fr - 1]? ≠ some p.su
instance (s : Pl) (p : Pr) : Decidable (Bad s p) := by unfold Bad; exact inferInstance
def heldAt (s : Pl) (i : Nat) : Pl := match s.ps[i]? with
 | some p => if Bad s p then { s with ps := s.ps.set i { p with ap := true }, es := s.es ++ [.a i p.fr] } else s
 | none => s
def heldN (s : Pl) (k : Nat) : Pl := (List.range k).foldl heldAt s
theorem heldN_succ (s : Pl) (k : Nat) : heldN s (k + 1) = heldAt (heldN s k) k := by unfold heldN; rw [List.range_succ, List.foldl_append]; rfl
def held (C : Cf) (s : Pl) : Pl := heldN s C.n
def pressP (C : Cf) (s : Pl) (b : UInt8) : Int × Pl :=
 if s.cl then (6, s) else if 1000 ≤ s.head C then (4, s) else if C.wi ≤ s.head C - frontP s.L then (5, s)
 else (0, { s with L := s.L.set C.me (((s.L[C.me]?).getD []) ++ [b]) })
def learnPr (H : Nat) (x : Pr) (p : Pk) : Pr :=
 { x with ha := if p.ac ≤ (H : Int) then max x.ha p.ac.toNat else x.ha, fr := if 0 < p.fr ∧ (x.fr : Int) ≤ p.fr then p.fr.toNat else x.fr, su := if 0 < p.fr ∧ (x.fr : Int) ≤ p.fr then p.su else x.su }
def learnP (C : Cf) (s : Pl) (p : Pk) : Pl :=
 { s with L := s.L.set p.f.toNat (putP ((s.L[p.f.toNat]?).getD []) p.fi p.l).2.2, ps := s.ps.modify p.f.toNat (fun x => learnPr (s.head C) x p) }
def hearP (s : Pl) (j : Nat) : Pl := { s with ps := s.ps.modify j (fun x => { x with he := s.ck }) }
def tellP (C : Cf) (s : Pl) (p : Pk) : Pl := if p.k = 1 then learnP C s p else { s with es := s.es ++ [.q p.f.toNat], cl := true }
def forMe (C : Cf) (p : Pk) : Prop := p.t = C.me ∧ p.f < C.n ∧ p.id = C.id
instance (C : Cf) (p : Pk) : Decidable (forMe C p) := by unfold forMe; exact inferInstance
def recvP (C : Cf) (s : Pl) (o : Option Pk) : Int × Pl :=
 if s.cl then (6, s) else match o with
 | none => (1, s)
 | some p => if forMe C p then (0, held C (tellP C (hearP s p.f.toNat) p)) else (1, s)
def markP (C : Cf) (s : Pl) (u : Int) : Pl := if s.ms.length < 1000 then held C { s with ms := s.ms ++ [u] } else s
def isLate (C : Cf) (s : Pl) (i : Nat) : Bool := decide (i ≠ C.me) && match s.ps[i]? with | some p => decide (p.he + 40 ≤ s.ck) | none => false
def lateP (C : Cf) (s : Pl) : Option Nat := (List.range C.n).find? (isLate C s)
def lastM (s : Pl) : Int := if 0 < s.ms.length then (s.ms[s.ms.length - 1]?).getD 0 else 0
def othersP (C : Cf) : List Nat := (List.range C.n).filter fun i => decide (i ≠ C.me)
def saidP (C : Cf) (s : Pl) (i : Nat) : List UInt8 :=
 encC 1 C.me i C.id (((s.ps[i]?).map Pr.ha).getD 0 : Nat) ((((s.L[i]?).getD []).length : Nat) : Int) (s.ms.length : Nat) (lastM s) ((((s.L[C.me]?).getD []).drop (((s.ps[i]?).map Pr.ha).getD 0)).take 32)
def tickP (C : Cf) (s : Pl) : List (Nat × List UInt8) × Pl :=
 if s.cl then ([], s) else
 match lateP C { s with ck := s.ck + 1 } with
 | some i => ([], { s with ck := s.ck + 1, es := s.es ++ [.l i], cl := true })
 | none => ((othersP C).map (fun i => (i, saidP C s i)), { s with ck := s.ck + 1 })
def quitP (C : Cf) (s : Pl) : List (Nat × List UInt8) × Pl :=
 if s.cl then ([], s) else ((othersP C).map (fun (i : Nat) => (i, encC 2 C.me i C.id 0 0 0 0 [])), { s with cl := true })
def toldP (s : Pl) : Pl := { s with es := [] }
def newP (C : Cf) : Pl := ⟨List.replicate C.n (zB C.dl), 0, List.replicate C.n ⟨0, C.dl, 0, 0, false⟩, [], [], false⟩
def MayC (n me id dl wi g o br wk ro : Int) : Prop :=
 (2 ≤ n ∧ n ≤ 8) ∧ (0 ≤ me ∧ me ≤ n - 1) ∧ (0 ≤ id ∧ id ≤ 1099511627776) ∧ (0 ≤ dl ∧ dl ≤ 8) ∧ (1 ≤ wi ∧ wi ≤ 16) ∧ (1 ≤ g ∧ g ≤ 3) ∧ (0 ≤ o ∧ o ≤ (if g = 2 then 3 else 0)) ∧ (0 ≤ br ∧ br ≤ 8) ∧ (0 ≤ wk ∧ wk ≤ 4) ∧ (3 ≤ ro ∧ ro ≤ 50)
def Cf.may (C : Cf) : Prop := MayC C.n C.me C.id C.dl C.wi C.g C.o C.br C.wk C.ro
structure Ok (C : Cf) (n : Nat) (s : Pl) : Prop where
 L : s.L.length = C.n
 ll : ∀ l ∈ s.L, l.length ≤ 1000
 p : s.ps.length = C.n
 pr : ∀ x ∈ s.ps, x.he ≤ n ∧ x.ha ≤ 1000 ∧ x.fr ≤ 1000 ∧ 0 ≤ x.su ∧ x.su ≤ 4294967295
 ck : s.ck ≤ n
 ms : s.ms.length ≤ 1000
 mu : ∀ m ∈ s.ms, 0 ≤ m ∧ m ≤ 4294967295
 es : s.es.length ≤ 10 * n
section
variable {C : Cf} {n : Nat} {s : Pl}
theorem Ok.line (h : Ok C n s) (i : Nat) (hi : i < C.n) : ∃ l, s.L[i]? = some l ∧ l.length ≤ 1000 := by
 have := h.L
 exact ⟨_, List.getElem?_eq_getElem (by omega), h.ll _ (List.getElem_mem _)⟩
theorem Ok.at (h : Ok C n s) (i : Nat) (hi : i < C.n) : ∃ x, s.ps[i]? = some x := by
 have := h.p
 exact ⟨_, List.getElem?_eq_getElem (by omega)⟩
theorem Ok.head_eq {l : List UInt8} (hl : s.L[C.me]? = some l) : s.head C = l.length := by unfold Pl.head; rw [hl]; rfl
theorem Ok.more (h : Ok C n s) {m : Nat} (hm : n ≤ m) : Ok C m s :=
 ⟨h.L, h.ll, h.p, fun x hx => ⟨Nat.le_trans (h.pr x hx).1 hm, (h.pr x hx).2⟩, Nat.le_trans h.ck hm, h.ms, h.mu, by have := h.es; omega⟩
theorem mem_set_of {α : Type} {xs : List α} {i : Nat} {a y : α} (h : y ∈ xs.set i a) : y = a ∨ y ∈ xs := by
 rcases List.mem_or_eq_of_mem_set h with h | h
 · exact .inr h
 · exact .inl h
theorem heldAt_ms (s : Pl) (i : Nat) : (heldAt s i).ms = s.ms ∧ (heldAt s i).L = s.L ∧ (heldAt s i).ck = s.ck ∧ (heldAt s i).cl = s.cl ∧ (heldAt s i).ps.length = s.ps.length ∧ (heldAt s i).es.length ≤ s.es.length + 1 ∧ ∀ x ∈ (heldAt s i).ps, ∃ y ∈ s.ps, x.he = y.he ∧ x.ha = y.ha ∧ x.fr = y.fr ∧ x.su = y.su := by
 unfold heldAt
 split
 · rename_i p hp
   split
   · refine ⟨rfl, rfl, rfl, rfl, by simp, by simp, fun x hx => ?_⟩
     rcases mem_set_of hx with rfl | hx
     · exact ⟨p, List.mem_of_getElem? hp, rfl, rfl, rfl, rfl⟩
     · exact ⟨x, hx, rfl, rfl, rfl, rfl⟩
   · exact ⟨rfl, rfl, rfl, rfl, rfl, by omega, fun x hx => ⟨x, hx, rfl, rfl, rfl, rfl⟩⟩
 · exact ⟨rfl, rfl, rfl, rfl, rfl, by omega, fun x hx => ⟨x, hx, rfl, rfl, rfl, rfl⟩⟩
theorem heldN_ms (s : Pl) : ∀ k, (heldN s k).ms = s.ms ∧ (heldN s k).L = s.L ∧ (heldN s k).ck = s.ck ∧ (heldN s k).cl = s.cl ∧ (heldN s k).ps.length = s.ps.length ∧ (heldN s k).es.length ≤ s.es.length + k ∧ ∀ x ∈ (heldN s k).ps, ∃ y ∈ s.ps, x.he = y.he ∧ x.ha = y.ha ∧ x.fr = y.fr ∧ x.su = y.su
 | 0 => ⟨rfl, rfl, rfl, rfl, rfl, nl _, fun x hx => ⟨x, hx, rfl, rfl, rfl, rfl⟩⟩
 | k + 1 => by
   obtain ⟨h1, h2, h3, h4, h5, h6, h7⟩ := heldN_ms s k
   obtain ⟨g1, g2, g3, g4, g5, g6, g7⟩ := heldAt_ms (heldN s k) k
   rw [heldN_succ]
   refine ⟨g1.trans h1, g2.trans h2, g3.trans h3, g4.trans h4, g5.trans h5, by omega, fun x hx => ?_⟩
   obtain ⟨y, hy, a1, a2, a3, a4⟩ := g7 x hx
   obtain ⟨z, hz, b1, b2, b3, b4⟩ := h7 y hy
   exact ⟨z, hz, a1.trans b1, a2.trans b2, a3.trans b3, a4.trans b4⟩
structure Ok1 (C : Cf) (n e : Nat) (s : Pl) : Prop where
 L : s.L.length = C.n
 ll : ∀ l ∈ s.L, l.length ≤ 1000
 p : s.ps.length = C.n
 pr : ∀ x ∈ s.ps, x.he ≤ n ∧ x.ha ≤ 1000 ∧ x.fr ≤ 1000 ∧ 0 ≤ x.su ∧ x.su ≤ 4294967295
 ck : s.ck ≤ n
 ms : s.ms.length ≤ 1000
 mu : ∀ m ∈ s.ms, 0 ≤ m ∧ m ≤ 4294967295
 es : s.es.length ≤ e
theorem Ok.one (h : Ok C n s) : Ok1 C n (10 * n) s := ⟨h.L, h.ll, h.p, h.pr, h.ck, h.ms, h.mu, h.es⟩
theorem Ok1.ok {e : Nat} (h : Ok1 C n e s) (he : e ≤ 10 * n) : Ok C n s := ⟨h.L, h.ll, h.p, h.pr, h.ck, h.ms, h.mu, Nat.le_trans h.es he⟩
theorem Ok1.more {e m d : Nat} (h : Ok1 C n e s) (hm : n ≤ m) (hd : e ≤ d) : Ok1 C m d s :=
 ⟨h.L, h.ll, h.p, fun x hx => ⟨Nat.le_trans (h.pr x hx).1 hm, (h.pr x hx).2⟩, Nat.le_trans h.ck hm, h.ms, h.mu, Nat.le_trans h.es hd⟩
theorem Ok1.held {e : Nat} (h : Ok1 C n e s) (k : Nat) : Ok1 C n (e + k) (heldN s k) := by
 obtain ⟨h1, h2, h3, h4, h5, h6, h7⟩ := heldN_ms s k
 refine ⟨by rw [h2]; exact h.L, by rw [h2]; exact h.ll, by rw [h5]; exact h.p, fun x hx => ?_, by rw [h3]; exact h.ck, by rw [h1]; exact h.ms, by rw [h1]; exact h.mu, by have := h.es; omega⟩
 obtain ⟨y, hy, a1, a2, a3, a4⟩ := h7 x hx
 rw [a1, a2, a3, a4]; exact h.pr y hy
theorem mem_modify {α : Type} {f : α → α} {y : α} : ∀ {xs : List α} {i : Nat}, y ∈ xs.modify i f → y ∈ xs ∨ ∃ x ∈ xs, y = f x
 | [], i, h => by simp at h
 | x :: r, 0, h => by
   simp at h
   rcases h with h | h
   · exact .inr ⟨x, by simp, h⟩
   · exact .inl (by simp [h])
 | x :: r, i + 1, h => by
   simp at h
   rcases h with h | h
   · exact .inl (by simp [h])
   · rcases mem_modify h with h | ⟨z, hz, e⟩
     · exact .inl (by simp [h])
     · exact .inr ⟨z, by simp [hz], e⟩
theorem Ok1.hear {e : Nat} (h : Ok1 C n e s) (j : Nat) : Ok1 C n e (hearP s j) := by
 refine ⟨h.L, h.ll, by unfold hearP; simp; exact h.p, fun x hx => ?_, h.ck, h.ms, h.mu, h.es⟩
 rcases mem_modify hx with hx | ⟨y, hy, rfl⟩
 · exact h.pr x hx
 · exact ⟨h.ck, (h.pr y hy).2⟩
theorem Ok1.set_line {e : Nat} (h : Ok1 C n e s) (j : Nat) (l : List UInt8) (hl : l.length ≤ 1000) : Ok1 C n e { s with L := s.L.set j l } :=
 ⟨by simp; exact h.L, fun x hx => (mem_set_of hx).elim (fun e => e ▸ hl) (h.ll x), h.p, h.pr, h.ck, h.ms, h.mu, h.es⟩
theorem putP_1000 {l x : List UInt8} {z : Int} (hl : l.length ≤ 1000) : (putP l z x).2.2.length ≤ 1000 := by
 unfold putP
 split
 · exact hl
 · split
   · exact hl
   · show (l ++ _).length ≤ 1000
     rw [List.length_append, List.length_take]
     omega
theorem getD_line (h : ∀ l ∈ s.L, l.length ≤ 1000) (j : Nat) : ((s.L[j]?).getD []).length ≤ 1000 := by
 cases e : s.L[j]? with
 | none => simp
 | some l => exact h l (List.mem_of_getElem? e)
theorem Ok1.learn {e : Nat} (h : Ok1 C n e s) (p : Pk) (hf : p.fr ≤ 1000) (ha : p.ac ≤ 1000) (hs : 0 ≤ p.su ∧ p.su ≤ 4294967295) : Ok1 C n e (learnP C s p) := by
 refine ⟨by unfold learnP; simp; exact h.L, fun x hx => (mem_set_of hx).elim (fun e => e ▸ putP_1000 (getD_line h.ll _)) (h.ll x), by unfold learnP; simp; exact h.p, fun x hx => ?_, h.ck, h.ms, h.mu, h.es⟩
 rcases mem_modify hx with hx | ⟨y, hy, rfl⟩
 · exact h.pr x hx
 · obtain ⟨a1, a2, a3, a4, a5⟩ := h.pr y hy
   unfold learnPr
   refine ⟨a1, ?_, ?_, ?_, ?_⟩ <;> dsimp only <;> split <;> omega
theorem Ok1.tell {e : Nat} (h : Ok1 C n e s) (p : Pk) (hf : p.fr ≤ 1000) (ha : p.ac ≤ 1000) (hs : 0 ≤ p.su ∧ p.su ≤ 4294967295) : Ok1 C n (e + 1) (tellP C s p) := by
 unfold tellP
 split
 · exact (h.learn p hf ha hs).more (nl _) (Nat.le_succ _)
 · exact ⟨h.L, h.ll, h.p, h.pr, h.ck, h.ms, h.mu, by simp; exact h.es⟩
theorem Ok.recv (h : Ok C n s) (h8 : C.n ≤ 8) (o : Option Pk) (ho : ∀ p, o = some p → p.fr ≤ 1000 ∧ p.ac ≤ 1000 ∧ 0 ≤ p.su ∧ p.su ≤ 4294967295) : Ok C (n + 1) (recvP C s o).2 := by
 unfold recvP
 split
 · exact h.more (Nat.le_succ _)
 · split
   · exact h.more (Nat.le_succ _)
   · rename_i p
     obtain ⟨a1, a2, a3⟩ := ho p rfl
     split
     · exact (((h.one.hear _).tell p a1 a2 a3).held C.n |>.more (Nat.le_succ n) (nl _)).ok (by omega)
     · exact h.more (Nat.le_succ _)
theorem Ok.press (h : Ok C n s) (b : UInt8) : Ok C n (pressP C s b).2 := by
 unfold pressP
 split
 · exact h
 · split
   · exact h
   · split
     · exact h
     · exact (h.one.set_line _ _ (by have := getD_line h.ll C.me; rename_i h1 h2; unfold Pl.head at h1; simp; omega)).ok (nl _)
theorem Ok.mark (h : Ok C n s) (h8 : C.n ≤ 8) (u : Int) (hu : 0 ≤ u ∧ u ≤ 4294967295) : Ok C (n + 1) (markP C s u) := by
 unfold markP
 split
 · refine ((Ok1.held (C := C) (n := n) (e := 10 * n) (s := { s with ms := s.ms ++ [u] }) ⟨h.L, h.ll, h.p, h.pr, h.ck, ?_, ?_, h.es⟩ C.n).more (Nat.le_succ n) (nl _)).ok (by omega)
   · show (s.ms ++ [u]).length ≤ 1000; simp; omega
   · intro m hm
     rcases List.mem_append.1 hm with hm | hm
     · exact h.mu m hm
     · obtain rfl := List.mem_singleton.1 hm; exact hu
 · exact h.more (Nat.le_succ _)
theorem Ok.quit (h : Ok C n s) : Ok C n (quitP C s).2 := by
 unfold quitP
 split
 · exact h
 · exact ⟨h.L, h.ll, h.p, h.pr, h.ck, h.ms, h.mu, h.es⟩
theorem Ok.told (h : Ok C n s) : Ok C n (toldP s) := ⟨h.L, h.ll, h.p, h.pr, h.ck, h.ms, h.mu, by simp [toldP]⟩
theorem Ok.new (C : Cf) (hd : C.dl ≤ 8) : Ok C 0 (newP C) := by
 refine ⟨by simp [newP], fun l hl => ?_, by simp [newP], fun x hx => ?_, nl _, by simp [newP], fun m hm => (by simp [newP] at hm), by simp [newP]⟩
 · obtain ⟨_, rfl⟩ := List.mem_replicate.1 hl
   rw [zB_len]; omega
 · obtain ⟨_, rfl⟩ := List.mem_replicate.1 hx
   exact ⟨nl _, by show C.dl ≤ 1000; omega, by show 0 ≤ 1000; omega, by show (0 : Int) ≤ 0; omega, by show (0 : Int) ≤ _; omega⟩
end
structure Lv (w w' : World) (B : Nat → Prop) : Prop where
 os : w'.os = w.os
 tape : w'.tape = w.tape
 output : w'.output = w.output
 size : w.heap.size ≤ w'.heap.size
 block : ∀ k, k < w.heap.size → ¬ B k → w'.heap[k]? = w.heap[k]?
section
variable {w w' w2 : World} {B B' : Nat → Prop}
theorem Lv.of_below (h : Below w.heap.size w w') : Lv w w' B := ⟨h.os, h.tape, h.output, h.size, fun k hk _ => h.block k hk⟩
theorem Lv.of_grown {r : Option Nat} (h : w.grownBy w' r) (hr : ∀ k, r = some k → B k) : Lv w w' B := ⟨h.os, h.tape, h.output, h.size, fun k hk hb => h.block k hk (fun e => hb (hr k e.symm))⟩
theorem Lv.trans (h : Lv w w' B) (g : Lv w' w2 B') (hb : ∀ k, B' k → B k ∨ w.heap.size ≤ k) : Lv w w2 B :=
 ⟨g.os.trans h.os, g.tape.trans h.tape, g.output.trans h.output, Nat.le_trans h.size g.size, fun k hk hn => (g.block k (Nat.lt_of_lt_of_le hk h.size) (fun e => (hb k e).elim hn (fun h2 => by omega))).trans (h.block k hk hn)⟩
theorem Lv.to_below (h : Lv w w' B) {n : Nat} (hn : n ≤ w.heap.size) (hb : ∀ k, B k → n ≤ k) : Below n w w' :=
 ⟨h.os, h.tape, h.output, h.size, fun k hk => h.block k (Nat.lt_of_lt_of_le hk hn) (fun e => by have := hb k e; omega)⟩
end
abbrev cfL (C : Cf) : List Value := [.int .i64 C.n, .int .i64 C.me, .int .i64 C.id, .int .i64 C.dl, .int .i64 C.wi, .int .i64 C.g, .int .i64 C.o, .int .i64 C.br, .int .i64 C.wk, .int .i64 C.ro]
abbrev coreO (C : Cf) (q : Nat) (ck : Nat) (p : Nat) (mv ev : Value) (cl : Bool) : Obj :=
 .cells #[.int .i64 C.n, .int .i64 C.me, .int .i64 C.id, .int .i64 C.dl, .int .i64 C.wi, .int .i64 C.g, .int .i64 C.o, .int .i64 C.br, .int .i64 C.wk, .int .i64 C.ro, pB q, .int .i64 ck, .slice (some ⟨p, 0, none⟩) C.n C.n, mv, ev, .bool cl] 104 (0, 0)
def prL (x : Pr) : List Value := [.int .i64 x.he, .int .i64 x.ha, .int .i64 x.fr, .int .u32 x.su, .bool x.ap]
def prsL : List Pr → List Value
 | [] => []
 | x :: r => prL x ++ prsL r
theorem prsL_get : ∀ (ps : List Pr) (i j : Nat), j < 5 → (prsL ps)[i * 5 + j]? = (ps[i]?).bind fun x => (prL x)[j]?
 | [], i, j, _ => by simp [prsL]
 | x :: r, 0, j, h => by
   rw [Nat.zero_mul, Nat.zero_add]
   show (prL x ++ prsL r)[j]? = _
   rw [List.getElem?_append_left (by show j < 5; exact h)]; rfl
 | x :: r, i + 1, j, h => by
   show (prL x ++ prsL r)[(i + 1) * 5 + j]? = _
   rw [List.getElem?_append_right (by show 5 ≤ _; omega), show (i + 1) * 5 + j - (prL x).length = i * 5 + j by show (i + 1) * 5 + j - 5 = _; omega, prsL_get r i j h]; rfl
theorem prsL_set (ps : List Pr) (i j : Nat) (hj : j < 5) (x y : Pr) (hx : ps[i]? = some x) (v : Value) (hv : (prL x).set j v = prL y) : (prsL ps).set (i * 5 + j) v = prsL (ps.set i y) := by
 refine List.ext_getElem? fun k => ?_
 obtain ⟨a, b, hb, rfl⟩ : ∃ a b, b < 5 ∧ k = a * 5 + b := ⟨k / 5, k % 5, by omega, by omega⟩
 have hi : i < ps.length := (List.getElem?_eq_some_iff.1 hx).1
 have hjl : i * 5 + j < (prsL ps).length := by
  have h4 := prsL_get ps i j hj
  rw [hx] at h4
  have h5 : ((some x : Option Pr).bind fun x => (prL x)[j]?).isSome = true := by
   show ((prL x)[j]?).isSome = true
   rw [List.getElem?_eq_getElem (show j < (prL x).length from hj)]; rfl
  rw [← h4] at h5
  simpa using h5
 rw [prsL_get _ a b hb, List.getElem?_set, List.getElem?_set]
 by_cases ea : i = a
 · subst ea
   rw [if_pos rfl, if_pos hi]
   show _ = (prL y)[b]?
   rw [← hv, List.getElem?_set, show (prL x).length = 5 from rfl, if_pos hj]
   by_cases eb : j = b
   · subst eb; rw [if_pos rfl, if_pos rfl, if_pos hjl]
   · rw [if_neg (by omega), if_neg eb, prsL_get _ _ _ hb, hx]; rfl
 · rw [if_neg (by omega), if_neg ea, prsL_get _ _ _ hb]
abbrev peersO (ps : List Pr) : Obj := .cells (prsL ps).toArray 100 (0, 0)
theorem peers_set (ps : List Pr) (i j : Nat) (hj : j < 5) (x y : Pr) (hx : ps[i]? = some x) (v : Value) (hv : (prL x).set j v = prL y) : (Obj.cells ((prsL ps).toArray.setIfInBounds (i * 5 + j) v) 100 (0, 0)) = peersO (ps.set i y) := by
 rw [List.setIfInBounds_toArray, prsL_set ps i j hj x y hx v hv]
def evC : Ev → Value
 | .q p => .iface 211 (.agg #[.int .i64 p])
 | .l p => .iface 212 (.agg #[.int .i64 p])
 | .a p f => .iface 214 (.agg #[.int .i64 p, .int .i64 f])
abbrev msL (ms : List Int) : List Value := ms.map fun m => .int .u32 m
abbrev esL (es : List Ev) : List Value := es.map evC
structure Cm where
 C : Cf
 c : Nat
 q : Nat
 r : Nat
 p : Nat
 xs : List Ln
 mv : Value
 mo : Obj
 ev : Value
 eo : Obj
 s : Pl
def Cm.E (K : Cm) : List Ent := [(some K.c, coreO K.C K.q K.s.ck K.p K.mv K.ev K.s.cl), (some K.p, peersO K.s.ps), (K.mv.ownBlock, K.mo), (K.ev.ownBlock, K.eo)]
def CB (K : Cm) (k : Nat) : Prop := QB K.q K.r K.xs k ∨ k = K.c ∨ k = K.p ∨ K.mv.ownBlock = some k ∨ K.ev.ownBlock = some k
def CO (K : Cm) (k : Nat) : Prop := k = K.c ∨ k = K.p ∨ K.mv.ownBlock = some k ∨ K.ev.ownBlock = some k
structure CM (w0 w : World) (K : Cm) : Prop where
 bu : BU w0 w K.E
 km : RowE 34 1 K.mv K.s.ms.length (msL K.s.ms) K.mo
 ke : RowE 143 1 K.ev K.s.es.length (esL K.s.es) K.eo
 qf : QF w0 w K.q K.r K.xs (CO K)
 ln : K.xs.map Ln.l = K.s.L
section
variable {w0 w w' : World} {K : Cm}
theorem CO.ent {k : Nat} (h : CO K k) : ∃ (i : Nat) (o : Obj), K.E[i]? = some (some k, o) := by
 rcases h with rfl | rfl | h | h
 · exact ⟨0, _, rfl⟩
 · exact ⟨1, _, rfl⟩
 · exact ⟨2, K.mo, by rw [← h]; rfl⟩
 · exact ⟨3, K.eo, by rw [← h]; rfl⟩
theorem ent_CO {k i : Nat} {o : Obj} (h : K.E[i]? = some (some k, o)) : CO K k := by
 match i, h with
 | 0, h => exact .inl (by injection h with h; injection h with h; injection h with h; exact h.symm)
 | 1, h => exact .inr (.inl (by injection h with h; injection h with h; injection h with h; exact h.symm))
 | 2, h => exact .inr (.inr (.inl (by injection h with h; injection h with h)))
 | 3, h => exact .inr (.inr (.inr (by injection h with h; injection h with h)))
 | n + 4, h => simp [Cm.E] at h
theorem CB_CO {k : Nat} (h : CB K k) : QB K.q K.r K.xs k ∨ CO K k := h
theorem CM.be (h : CM w0 w K) : Below w0.heap.size w0 w := h.bu.be
theorem CM.get (h : CM w0 w K) {k : Nat} (hk : CO K k) : w0.heap.size ≤ k ∧ k < w.heap.size := h.qf.ob k hk
theorem CM.lt (h : CM w0 w K) {k : Nat} (hk : CB K k) : w0.heap.size ≤ k ∧ k < w.heap.size := by
 rcases CB_CO hk with hk | hk
 · exact ⟨(h.qf.qb k hk).1, h.qf.qm.lt hk⟩
 · exact h.get hk
theorem CM.keep {B : Nat → Prop} (h : CM w0 w K) (g : Lv w w' B) (hb : ∀ k, B k → w0.heap.size ≤ k) (hn : ∀ k, CB K k → ¬ B k) : CM w0 w' K := by
 have hs : ∀ k, CB K k → w'.heap[k]? = w.heap[k]? := fun k hk => g.block k (h.lt hk).2 (hn k hk)
 have hbe : Below w0.heap.size w0 w' := h.be.trans (g.to_below h.be.size hb)
 refine ⟨⟨hbe, fun i k o hi => ⟨(h.bu.get i k o hi).1, (hs k (.inr (ent_CO hi))).trans (h.bu.get i k o hi).2⟩, h.bu.inj⟩, h.km, h.ke, ⟨h.qf.qm.same fun k hk => hs k (.inl hk), hbe, h.qf.qb, fun k hk => ⟨(h.qf.ob k hk).1, Nat.lt_of_lt_of_le (h.qf.ob k hk).2 g.size⟩⟩, h.ln⟩
theorem CM.belows (h : CM w0 w K) (hb : Below w.heap.size w w') : CM w0 w' K :=
 h.keep (B := noB) (Lv.of_below hb) (fun k hk => hk.elim) (fun k _ hk => hk)
theorem CM.drew (h : CM w0 w K) : CM w0 w.drew K := h.belows (bR _ _).drew
theorem CM.cell (h : CM w0 w K) (j : Nat) (v : Value) (hv : (#[.int .i64 K.C.n, .int .i64 K.C.me, .int .i64 K.C.id, .int .i64 K.C.dl, .int .i64 K.C.wi, .int .i64 K.C.g, .int .i64 K.C.o, .int .i64 K.C.br, .int .i64 K.C.wk, .int .i64 K.C.ro, pB K.q, .int .i64 K.s.ck, .slice (some ⟨K.p, 0, none⟩) K.C.n K.C.n, K.mv, K.ev, .bool K.s.cl] : Array Value)[j]? = some v) : w.cell? ⟨K.c, j, none⟩ = some v := h.bu.cell (i := 0) rfl hv
theorem CM.fz (h : CM w0 w K) (j : Nat) : w.frozen? ⟨K.c, j, none⟩ = false := h.bu.frozen (i := 0) rfl j
theorem CM.clt (h : CM w0 w K) : K.c < w.heap.size := (h.get (.inl rfl)).2
theorem CM.plt (h : CM w0 w K) : K.p < w.heap.size := (h.get (.inr (.inl rfl))).2
theorem CM.peer (h : CM w0 w K) (i : Nat) (x : Pr) (hx : K.s.ps[i]? = some x) : w.cell? ⟨K.p, i * 5, none⟩ = some (.int .i64 x.he) ∧ w.cell? ⟨K.p, i * 5 + 1, none⟩ = some (.int .i64 x.ha) ∧ w.cell? ⟨K.p, i * 5 + 2, none⟩ = some (.int .i64 x.fr) ∧ w.cell? ⟨K.p, i * 5 + 3, none⟩ = some (.int .u32 x.su) ∧ w.cell? ⟨K.p, i * 5 + 4, none⟩ = some (.bool x.ap) := by
 have h1 : ∀ j v, j < 5 → (prL x)[j]? = some v → w.cell? ⟨K.p, i * 5 + j, none⟩ = some v := fun j v hj hv => h.bu.cell (i := 1) rfl (by rw [List.getElem?_toArray, prsL_get _ _ _ hj, hx]; exact hv)
 exact ⟨h1 0 _ (by omega) rfl, h1 1 _ (by omega) rfl, h1 2 _ (by omega) rfl, h1 3 _ (by omega) rfl, h1 4 _ (by omega) rfl⟩
theorem CM.pfz (h : CM w0 w K) (j : Nat) : w.frozen? ⟨K.p, j, none⟩ = false := h.bu.frozen (i := 1) rfl j
theorem CM.marks (h : CM w0 w K) : ∃ A cap, K.mv = .slice A K.s.ms.length cap ∧ K.s.ms.length ≤ cap ∧ cap ≤ maxLen := h.km.val
theorem CM.mark (h : CM w0 w K) {A : Option Addr} {c : Nat} (hv : K.mv = .slice A K.s.ms.length c) (j : Nat) (u : Int) (hj : K.s.ms[j]? = some u) : ∃ b, A = some ⟨b, 0, none⟩ ∧ b < w.heap.size ∧ w.cell? ⟨b, j, none⟩ = some (.int .u32 u) := by
 obtain ⟨b, e, hb, hc, _⟩ := h.bu.rowcell h.km (i := 2) rfl hv j (.int .u32 u) (by unfold msL; rw [List.getElem?_map, hj]; rfl)
 exact ⟨b, e, cell_lt hc, hc⟩
theorem CM.events (h : CM w0 w K) : ∃ A cap, K.ev = .slice A K.s.es.length cap ∧ K.s.es.length ≤ cap ∧ cap ≤ maxLen := h.ke.val
theorem CM.line (h : CM w0 w K) (j : Nat) (l : List UInt8) (hl : K.s.L[j]? = some l) : ∃ b, K.xs[j]? = some ⟨b, l⟩ := by
 rw [← h.ln, List.getElem?_map] at hl
 cases e : K.xs[j]? with
 | none => rw [e] at hl; cases hl
 | some x =>
   rw [e] at hl
   obtain ⟨b, l'⟩ := x
   obtain rfl : l' = l := Option.some.inj hl
   exact ⟨b, rfl⟩
theorem CM.xlen (h : CM w0 w K) : K.xs.length = K.s.L.length := by rw [← h.ln, List.length_map]
def Goes (w0 w : World) (K : Cm) (w' : World) (s' : Pl) : Prop :=
 ∃ K', K'.s = s' ∧ K'.C = K.C ∧ K'.c = K.c ∧ (K'.q = K.q ∧ K'.p = K.p) ∧ CM w0 w' K' ∧ Lv w w' (CB K) ∧ ∀ k, CB K' k → CB K k ∨ w.heap.size ≤ k
theorem CM.goes (h : CM w0 w K) (hb : Below w.heap.size w w') : Goes w0 w K w' K.s := ⟨K, rfl, rfl, rfl, ⟨rfl, rfl⟩, h.belows hb, Lv.of_below hb, fun k hk => .inl hk⟩
theorem goes_then {w1 : World} {K1 : Cm} {s' : Pl} (h1 : Lv w w1 (CB K)) (h2 : ∀ k, CB K1 k → CB K k ∨ w.heap.size ≤ k) (hC : K1.C = K.C) (hc : K1.c = K.c) (hq : K1.q = K.q ∧ K1.p = K.p) (g : Goes w0 w1 K1 w' s') : Goes w0 w K w' s' := by
 obtain ⟨K', e1, e2, e3, e4, g1, g2, g3⟩ := g
 exact ⟨K', e1, e2.trans hC, e3.trans hc, ⟨e4.1.trans hq.1, e4.2.trans hq.2⟩, g1, h1.trans g2 h2, fun k hk => (g3 k hk).elim (h2 k) (fun e => .inr (Nat.le_trans h1.size e))⟩
theorem BU.drop {w0 w : World} {E : List Ent} (h : BU w0 w E) (i : Nat) (o : Obj) : BU w0 w (E.set i (none, o)) := by
 have key : ∀ j k c, (E.set i (none, o))[j]? = some (some k, c) → E[j]? = some (some k, c) := fun j k c hj => by
  rw [List.getElem?_set] at hj
  split at hj
  · split at hj
    · injection hj with hj; injection hj with hj _; cases hj
    · cases hj
  · exact hj
 exact ⟨h.be, fun j k c hj => h.get j k c (key j k c hj), fun j m k c c' hj hm => h.inj j m k c c' (key j k c hj) (key m k c' hm)⟩
theorem CM.turn (h : CM w0 w K) (K' : Cm) (hC : K'.C = K.C) (hc : K'.c = K.c) (hq : K'.q = K.q) (hp : K'.p = K.p) (hr : K'.r = K.r) (hx : K'.xs = K.xs) (hL : K'.s.L = K.s.L) (hb : BU w0 w' K'.E) (g : Lv w w' (CO K)) (ho : ∀ k, CO K' k → CO K k ∨ w.heap.size ≤ k)
 (mk : RowE 34 1 K'.mv K'.s.ms.length (msL K'.s.ms) K'.mo) (ek : RowE 143 1 K'.ev K'.s.es.length (esL K'.s.es) K'.eo) : Goes w0 w K w' K'.s := by
 have hqb : ∀ k, QB K.q K.r K.xs k → ¬ CO K k := fun k hk => (h.qf.qb k hk).2
 have hcm : CM w0 w' K' := by
  refine ⟨hb, mk, ek, ?_, by rw [hx, hL]; exact h.ln⟩
  rw [hq, hr, hx]
  refine ⟨h.qf.qm.same fun k hk => g.block k (h.qf.qm.lt hk) (hqb k hk), hb.be, fun k hk => ⟨(h.qf.qb k hk).1, fun e => (ho k e).elim (hqb k hk) (fun e2 => by have := h.qf.qm.lt hk; omega)⟩, fun k hk => ?_⟩
  obtain ⟨i, o, hi⟩ := CO.ent hk
  exact ⟨(hb.get i k o hi).1, hb.lt hi⟩
 refine ⟨K', rfl, hC, hc, ⟨hq, hp⟩, hcm, ⟨g.os, g.tape, g.output, g.size, fun k hk hn => g.block k hk (fun e => hn (.inr e))⟩, fun k hk => ?_⟩
 rcases CB_CO hk with hk | hk
 · rw [hq, hr, hx] at hk; exact .inl (.inl hk)
 · exact (ho k hk).imp .inr id
theorem CO_same {K' : Cm} (hc : K'.c = K.c) (hp : K'.p = K.p) (hm : K'.mv = K.mv) (he : K'.ev = K.ev ∨ K'.ev.ownBlock = none) : ∀ k, CO K' k → CO K k := fun k hk => by
 rcases hk with hk | hk | hk | hk
 · exact .inl (hk.trans hc)
 · exact .inr (.inl (hk.trans hp))
 · exact .inr (.inr (.inl (by rw [← hm]; exact hk)))
 · rcases he with he | he
   · exact .inr (.inr (.inr (by rw [← he]; exact hk)))
   · rw [he] at hk; cases hk
theorem lv_store (w : World) (k j : Nat) (v : Value) {B : Nat → Prop} (hk : B k) : Lv w (w.setCell ⟨k, j, none⟩ v) B := Lv.of_grown (bu_grown w k j v) fun i e => by cases e; exact hk
theorem CM.set_clock (h : CM w0 w K) (n : Nat) : Goes w0 w K (w.setCell ⟨K.c, 11, none⟩ (.int .i64 (n : Int))) { K.s with ck := n } :=
 h.turn { K with s := { K.s with ck := n } } rfl rfl rfl rfl rfl rfl rfl (h.bu.store 0 K.c _ _ rfl 11 _) (lv_store _ _ _ _ (.inl rfl)) (fun k hk => .inl (CO_same rfl rfl rfl (.inl rfl) k hk)) h.km h.ke
theorem CM.set_closed (h : CM w0 w K) : Goes w0 w K (w.setCell ⟨K.c, 15, none⟩ (.bool true)) { K.s with cl := true } :=
 h.turn { K with s := { K.s with cl := true } } rfl rfl rfl rfl rfl rfl rfl (h.bu.store 0 K.c _ _ rfl 15 _) (lv_store _ _ _ _ (.inl rfl)) (fun k hk => .inl (CO_same rfl rfl rfl (.inl rfl) k hk)) h.km h.ke
theorem CM.set_peer (h : CM w0 w K) (i j : Nat) (hj : j < 5) (x y : Pr) (hx : K.s.ps[i]? = some x) (v : Value) (hv : (prL x).set j v = prL y) : Goes w0 w K (w.setCell ⟨K.p, i * 5 + j, none⟩ v) { K.s with ps := K.s.ps.set i y } := by
 refine h.turn { K with s := { K.s with ps := K.s.ps.set i y } } rfl rfl rfl rfl rfl rfl rfl ?_ (lv_store _ _ _ _ (.inr (.inl rfl))) (fun k hk => .inl (CO_same rfl rfl rfl (.inl rfl) k hk)) h.km h.ke
 have := h.bu.store 1 K.p _ _ rfl (i * 5 + j) v
 rw [peers_set K.s.ps i j hj x y hx v hv] at this
 exact this
theorem CM.push_mark (h : CM w0 w K) {w1 : World} (v' : Value) (o' : Obj) (u : Int) (k' : Nat) (hk : v'.ownBlock = some k') (R : RowE 34 1 v' (K.s.ms.length + 1) (msL K.s.ms ++ [.int .u32 u]) o') (hb : BU w0 w1 (K.E.set 2 (v'.ownBlock, o'))) (g : w.grownBy w1 K.mv.ownBlock) (hn : K.mv.ownBlock = some k' ∨ w.heap.size ≤ k') :
 Goes w0 w K (w1.setCell ⟨K.c, 13, none⟩ v') { K.s with ms := K.s.ms ++ [u] } := by
 refine h.turn { K with mv := v', mo := o', s := { K.s with ms := K.s.ms ++ [u] } } rfl rfl rfl rfl rfl rfl rfl (hb.store 0 K.c _ _ rfl 13 _) ((Lv.of_grown g fun k e => .inr (.inr (.inl e))).trans (lv_store w1 K.c 13 v' (B := fun k => k = K.c) rfl) (fun k e => .inl (.inl e))) (fun k hk2 => ?_) ?_ h.ke
 · rcases hk2 with e | e | e | e
   · exact .inl (.inl e)
   · exact .inl (.inr (.inl e))
   · have e2 : v'.ownBlock = some k := e
     rw [hk] at e2
     have e3 := Option.some.inj e2
     subst e3
     exact hn.imp (fun e => .inr (.inr (.inl e))) id
   · exact .inl (.inr (.inr (.inr e)))
 · show RowE _ 1 v' (K.s.ms ++ [u]).length (msL (K.s.ms ++ [u])) o'
   rw [List.length_append, msL, List.map_append]; exact R
theorem CM.push_event (h : CM w0 w K) {w1 : World} (v' : Value) (o' : Obj) (e : Ev) (k' : Nat) (hk : v'.ownBlock = some k') (R : RowE 143 1 v' (K.s.es.length + 1) (esL K.s.es ++ [evC e]) o') (hb : BU w0 w1 (K.E.set 3 (v'.ownBlock, o'))) (g : w.grownBy w1 K.ev.ownBlock) (hn : K.ev.ownBlock = some k' ∨ w.heap.size ≤ k') :
 Goes w0 w K (w1.setCell ⟨K.c, 14, none⟩ v') { K.s with es := K.s.es ++ [e] } := by
 refine h.turn { K with ev := v', eo := o', s := { K.s with es := K.s.es ++ [e] } } rfl rfl rfl rfl rfl rfl rfl (hb.store 0 K.c _ _ rfl 14 _) ((Lv.of_grown g fun k e => .inr (.inr (.inr e))).trans (lv_store w1 K.c 14 v' (B := fun k => k = K.c) rfl) (fun k e => .inl (.inl e))) (fun k hk2 => ?_) h.km ?_
 · rcases hk2 with e | e | e | e
   · exact .inl (.inl e)
   · exact .inl (.inr (.inl e))
   · exact .inl (.inr (.inr (.inl e)))
   · have e2 : v'.ownBlock = some k := e
     rw [hk] at e2
     have e3 := Option.some.inj e2
     subst e3
     exact hn.imp (fun e => .inr (.inr (.inr e))) id
 · show RowE _ 1 v' (K.s.es ++ [e]).length (esL (K.s.es ++ [e])) o'
   rw [List.length_append, esL, List.map_append]; exact R
def Oth (w0 w : World) (K : Cm) (k : Nat) : Prop := w0.heap.size ≤ k ∧ k < w.heap.size ∧ ¬ QB K.q K.r K.xs k
theorem CM.oth (h : CM w0 w K) : QF w0 w K.q K.r K.xs (Oth w0 w K) := ⟨h.qf.qm, h.be, fun k hk => ⟨(h.qf.qb k hk).1, fun e => e.2.2 hk⟩, fun k hk => ⟨hk.1, hk.2.1⟩⟩
theorem CM.put_line (h : CM w0 w K) (j b : Nat) (l l' : List UInt8) (hx : K.xs[j]? = some ⟨b, l⟩) (q : QF w0 w' K.q K.r (K.xs.set j ⟨b, l'⟩) (Oth w0 w K)) (S : Same (Oth w0 w K) w w') : Goes w0 w K w' { K.s with L := K.s.L.set j l' } := by
 have hCO : ∀ k, CO K k → Oth w0 w K k := fun k hk => ⟨(h.get hk).1, (h.get hk).2, fun e => (h.qf.qb k e).2 hk⟩
 have hsz : w.heap.size ≤ w'.heap.size := by
  rcases Nat.lt_or_ge w'.heap.size w.heap.size with e | e
  · have h1 := q.be.size
    by_cases hq : QB K.q K.r K.xs w'.heap.size
    · have : QB K.q K.r (K.xs.set j ⟨b, l'⟩) w'.heap.size := by
       rcases hq with hq | hq | ⟨y, hy, e2⟩
       · exact .inl hq
       · exact .inr (.inl hq)
       · refine .inr (.inr ?_)
         have hmem : y.b ∈ (K.xs.set j ⟨b, l'⟩).map Ln.b := by rw [set_b K.xs j _ hx]; exact List.mem_map_of_mem hy
         obtain ⟨z, hz, ez⟩ := List.mem_map.1 hmem
         exact ⟨z, hz, ez.trans e2⟩
      have := q.qm.lt this; omega
    · have := (q.ob _ ⟨h1, e, hq⟩).2; omega
  · exact e
 have hbe := q.be
 have hb0 := h.be
 have hlv : ∀ k, k < w.heap.size → ¬ QB K.q K.r K.xs k → w'.heap[k]? = w.heap[k]? := fun k hk hn => by
  rcases Nat.lt_or_ge k w0.heap.size with e | e
  · exact (hbe.block k e).trans (hb0.block k e).symm
  · exact S k ⟨e, hk, hn⟩
 refine ⟨{ K with xs := K.xs.set j ⟨b, l'⟩, s := { K.s with L := K.s.L.set j l' } }, rfl, rfl, rfl, ⟨rfl, rfl⟩, ⟨⟨q.be, fun i k o hi => ⟨(h.bu.get i k o hi).1, ?_⟩, h.bu.inj⟩, h.km, h.ke, q.less hCO, ?_⟩, ⟨hbe.os.trans hb0.os.symm, hbe.tape.trans hb0.tape.symm, hbe.output.trans hb0.output.symm, hsz, fun k hk hn => hlv k hk (fun e => hn (.inl e))⟩, fun k hk => .inl ?_⟩
 · have hc := ent_CO hi
   exact (S k (hCO k hc)).trans (h.bu.get i k o hi).2
 · show (K.xs.set j ⟨b, l'⟩).map Ln.l = K.s.L.set j l'
   rw [List.map_set, h.ln]
 · rcases CB_CO hk with hk | hk
   · exact .inl (QB.set K.xs j _ hx l' hk)
   · exact .inr hk
end
theorem core_closed (w : World) (c : Nat) (b : Bool) (h : w.cell? ⟨c, 15, none⟩ = some (.bool b)) : Calls Tryz.prog 61 #[pB c] w fun e w' => e = .returned (.bool b) ∧ w = w' := by
 go_enter Tryz.func61, Tryz.ntmps61
 go_wp2
 go_ret
 exact ⟨rfl, rfl⟩
theorem core_closed_nil (w : World) : Calls Tryz.prog 61 #[.pointer none] w fun e w' => e = .returned (.bool true) ∧ w = w' := by
 go_enter Tryz.func61, Tryz.ntmps61
 go_wp2
 go_ret
 exact ⟨rfl, rfl⟩
theorem core_queue (w : World) (c q : Nat) (h : w.cell? ⟨c, 10, none⟩ = some (pB q)) : Calls Tryz.prog 59 #[pB c] w fun e w' => e = .returned (pB q) ∧ w = w' := by
 go_enter Tryz.func59, Tryz.ntmps59
 go_wp2
 go_ret
 exact ⟨rfl, rfl⟩
theorem core_queue_nil (w : World) : Calls Tryz.prog 59 #[.pointer none] w fun e w' => e = .returned (.pointer none) ∧ w = w' := by
 go_enter Tryz.func59, Tryz.ntmps59
 go_wp2
 go_ret
 exact ⟨rfl, rfl⟩
theorem core_marks (w : World) (c n cap : Nat) (A : Option Addr) (h : w.cell? ⟨c, 13, none⟩ = some (.slice A n cap)) : Calls Tryz.prog 58 #[pB c] w fun e w' => e = .returned (.int .i64 n) ∧ w = w' := by
 go_enter Tryz.func58, Tryz.ntmps58
 go_wp2
 go_ret
 exact ⟨rfl, rfl⟩
theorem core_marks_nil (w : World) : Calls Tryz.prog 58 #[.pointer none] w fun e w' => e = .returned (.int .i64 0) ∧ w = w' := by
 go_enter Tryz.func58, Tryz.ntmps58
 go_wp2
 go_ret
 exact ⟨rfl, rfl⟩
theorem core_events_nil (w : World) : Calls Tryz.prog 33 #[.pointer none] w fun e w' => e = .returned (.slice none 0 0) ∧ w = w' := by
 go_enter Tryz.func33, Tryz.ntmps33
 go_wp2
 go_ret
 exact ⟨rfl, rfl⟩
abbrev cfV (n me id dl wi g o br wk ro : Int) : Value := .agg #[.int .i64 n, .int .i64 me, .int .i64 id, .int .i64 dl, .int .i64 wi, .int .i64 g, .int .i64 o, .int .i64 br, .int .i64 wk, .int .i64 ro]
abbrev Cf.v (C : Cf) : Value := cfV C.n C.me C.id C.dl C.wi C.g C.o C.br C.wk C.ro
abbrev cfO (n me id dl wi g o br wk ro : Int) : Obj := .cells #[.int .i64 n, .int .i64 me, .int .i64 id, .int .i64 dl, .int .i64 wi, .int .i64 g, .int .i64 o, .int .i64 br, .int .i64 wk, .int .i64 ro] 23
theorem cf_size : (Tryz.prog.info? 23).map (·.size) = some 10 := by kernel_rfl
def CfAt (w : World) (c : Nat) (C : Cf) : Prop := ∀ j v, (cfL C)[j]? = some v → w.cell? ⟨c, j, none⟩ = some v
theorem CfAt.of_heap {w : World} {c : Nat} {C : Cf} (h : w.heap[c]? = some (cfO C.n C.me C.id C.dl C.wi C.g C.o C.br C.wk C.ro)) : CfAt w c C := fun j v hv => by
 rw [cell_of_row w c j _ _ _ h]
 rw [← hv]; simp [cfL]
theorem run_load_cf (w : World) (c : Nat) (C : Cf) (h : CfAt w c C) : (loadVar 23 ⟨c, 0, none⟩).run Tryz.prog w = .ok C.v w := by
 have hl : (loadCells ⟨c, 0, none⟩ 10).run Tryz.prog w = .ok (cfL C).toArray w :=
  run_loadCells_list (P := Tryz.prog) w ⟨c, 0, none⟩ (cfL C) (fun j v hv => by
   rw [Addr.add_lit, Nat.zero_add]
   exact h j v hv)
 have hq := cf_size
 cases hi : Tryz.prog.info? 23 with
 | none => rw [hi] at hq; simp at hq
 | some i =>
   have hs : i.size = 10 := by rw [hi] at hq; simpa using hq
   have hagg : (isAgg 23).run Tryz.prog w = .ok true w := by
    unfold isAgg
    rw [Sem.run_bind, run_underlying Tryz.underlying23 w]
    rfl
   simp [loadVar, Sem.run_bind, hagg, sizeOf, typeInfo, hi, hs, hl]
theorem wpList_load_cf {w : World} {ops : Array Oper} {rest : List Oper} {o : Oper} {a : Act} {Q : Exit → Act → World → Prop} (hgd : o.guard = none) (x : Operand) (ho : o.op = .load 23 x)
 (c : Nat) (hx : a.eval x = .pointer (some ⟨c, 0, none⟩)) (C : Cf) (h : CfAt w c C)
 (hk : wpList Tryz.prog ops Q rest (a.put o.dst C.v) w) : wpList Tryz.prog ops Q (o :: rest) a w := by
 refine wpList_plain hgd fun K hK => ?_
 have hrun := run_load_cf w c C h
 unfold Oper.wp execOp
 simp only [ho, hx, Instr.loadAt, Instr.sureAddr, Sem.run_bind, Sem.run_pure, Result.andThen_ok, hrun]
 exact hK _ _ hk
theorem exec_load_cf {S : World → Prop} {op : Oper} {a : Act} (x : Operand) (ho : op.op = .load 23 x) (c : Nat) (hx : a.eval x = .pointer (some ⟨c, 0, none⟩)) (C : Cf) (hS : ∀ w, S w → CfAt w c C) (w : World) (hw : S w) :
 (execOp a.eval op).run Tryz.prog w = .ok (.value C.v) w := by
 have := run_load_cf w c C (hS w hw)
 unfold execOp
 simp only [ho, hx, Instr.loadAt, Instr.sureAddr, Sem.run_bind, Sem.run_pure, Result.andThen_ok, this]
theorem CM.cf {w0 w : World} {K : Cm} (h : CM w0 w K) : CfAt w K.c K.C := fun j v hv => by
 have hj : j < 10 := (List.getElem?_eq_some_iff.1 hv).1
 refine h.cell j v ?_
 rw [← hv]
 match j, hj with
 | 0, _ | 1, _ | 2, _ | 3, _ | 4, _ | 5, _ | 6, _ | 7, _ | 8, _ | 9, _ => rfl
theorem core_conf (w : World) (c : Nat) (C : Cf) (h : CfAt w c C) (hc : c < w.heap.size) : Calls Tryz.prog 114 #[pB c] w fun e w' => e = .returned C.v ∧ Below w.heap.size w w' := by
 have hb : CfAt (w.alloc (cfO 0 0 0 0 0 0 0 0 0 0)) c C := fun j v hv => (World.cell?_of_block (a := ⟨c, j, none⟩) (Below.heap_alloc _ _ _ hc)).trans (h j v hv)
 have HB := qh hb
 go_enter Tryz.func114, Tryz.ntmps114
 go_wp2_with (first | (with_reducible refine wpList_load_cf rfl (.tmp 8) rfl c rfl C HB.out ?_) | fail)
 exact bodyPost_ret (by rw [results_c1 rfl]; go_simp) rfl ⟨rfl, ((bR _ _).alloc (nl _) _)⟩
theorem fldC1 (n me id dl wi g o br wk ro : Int) (w : World) : (Instr.field 23 (cfV n me id dl wi g o br wk ro) 1).run Tryz.prog w = .ok (.int .i64 me) w := by kernel_rfl
theorem core_conf_nil (w : World) : Calls Tryz.prog 114 #[.pointer none] w fun e w' => e = .returned (cfV 0 0 0 0 0 0 0 0 0 0) ∧ Below w.heap.size w w' := by
 go_enter Tryz.func114, Tryz.ntmps114
 go_wp2
 exact bodyPost_ret (by rw [results_c1 rfl]; go_simp) rfl ⟨rfl, ((bR _ _).alloc (nl _) _)⟩
theorem core_head_nil (w : World) : Calls Tryz.prog 57 #[.pointer none] w fun e w' => e = .returned (.int .i64 0) ∧ Below w.heap.size w w' := by
 have hf := fldC1
 have HQ := qh core_queue_nil; have HC := qh core_conf_nil; have HL := qh line_nil; have HN := qh len_nil
 go_enter Tryz.func57, Tryz.ntmps57
 go_wp2_with (first
  | (go_at_call 59; with_reducible refine (HQ.out _).mono ?_; rintro e w1 ⟨rfl, rfl⟩)
  | (go_at_call 114; with_reducible refine (HC.out _).mono ?_; rintro e w1 ⟨rfl, hb⟩; have HB := qh hb; clear hb)
  | (go_at_call 67; with_reducible refine (HL.out _ _).mono ?_; rintro e w1 ⟨rfl, rfl⟩)
  | (go_at_call 115; with_reducible refine (HN.out _).mono ?_; rintro e w1 ⟨rfl, rfl⟩))
 go_ret
 exact ⟨rfl, HB.out⟩
theorem core_head (w0 w : World) (K : Cm) (h : CM w0 w K) (l : List UInt8) (hl : K.s.L[K.C.me]? = some l) (H : Nat) (hH : l.length = H) : Calls Tryz.prog 57 #[pB K.c] w fun e w' => e = .returned (.int .i64 H) ∧ Below w.heap.size w w' := by
 obtain ⟨b, hb⟩ := h.line _ l hl
 have HQ := qh (core_queue w K.c K.q (h.cell 10 _ rfl))
 have HC := qh (core_conf w K.c K.C h.cf h.clt)
 have HL := qh (fun (W : World) (hB : Below w.heap.size w W) => line_in W K.q K.r K.xs (h.belows hB).qf.qm (K.C.me : Int) K.C.me rfl ⟨b, l⟩ hb)
 have HN := qh (fun (W : World) (hB : Below w.heap.size w W) => (show Calls Tryz.prog 115 #[pB b] W fun e w' => e = .returned (.int .i64 H) ∧ W = w' from by
  have hk := ((h.belows hB).qf.qm.line _ _ hb).1
  rw [show (Ln.mk b l).l.length = H from hH] at hk
  exact len_any W b H l hk))
 have hf := fldC1
 clear h hl hH hb
 go_enter Tryz.func57, Tryz.ntmps57
 go_wp2_with (first
  | (go_at_call 59; with_reducible refine (HQ.out).mono ?_; rintro e w1 ⟨rfl, rfl⟩)
  | (go_at_call 114; with_reducible refine (HC.out).mono ?_; rintro e w1 ⟨rfl, hb⟩; have HB := qh hb; clear hb)
  | (go_at_call 67; with_reducible refine (HL.out _ HB.out).mono ?_; rintro e w1 ⟨rfl, rfl⟩)
  | (go_at_call 115; with_reducible refine (HN.out _ HB.out).mono ?_; rintro e w1 ⟨rfl, rfl⟩))
 go_ret
 exact ⟨rfl, HB.out⟩
theorem isin_any (n low high : Int) (b : Bool) (hb : b = true ↔ low ≤ n ∧ n ≤ high) (w : World) : Calls Tryz.prog 63 #[.int .i64 n, .int .i64 low, .int .i64 high] w fun e w' => e = .returned (.bool b) ∧ w = w' := by
 have HB := qh hb; clear hb
 by_cases h0 : low ≤ n
 · by_cases h1 : n ≤ high
   · have HE := qh (HB.out.2 ⟨h0, h1⟩)
     go_enter Tryz.func63, Tryz.ntmps63
     go_wp2
     go_ret
     exact ⟨by rw [HE.out]; first | rfl | (simp; omega), rfl⟩
   · have HE := qh (show b = false by rw [Bool.eq_false_iff]; exact fun h => h1 (HB.out.1 h).2)
     go_enter Tryz.func63, Tryz.ntmps63
     go_wp2
     go_ret
     exact ⟨by rw [HE.out]; first | rfl | (simp; omega), rfl⟩
 · have HE := qh (show b = false by rw [Bool.eq_false_iff]; exact fun h => h0 (HB.out.1 h).1)
   have h0' : n < low := by omega
   go_enter Tryz.func63, Tryz.ntmps63
   go_wp2
   go_ret
   exact ⟨by rw [HE.out]; first | rfl | (simp; omega), rfl⟩
theorem isin64_any (n low high : Int) (b : Bool) (hb : b = true ↔ low ≤ n ∧ n ≤ high) (w : World) : Calls Tryz.prog 64 #[.int .i64 n, .int .i64 low, .int .i64 high] w fun e w' => e = .returned (.bool b) ∧ w = w' := by
 have HB := qh hb; clear hb
 by_cases h0 : low ≤ n
 · by_cases h1 : n ≤ high
   · have HE := qh (HB.out.2 ⟨h0, h1⟩)
     go_enter Tryz.func64, Tryz.ntmps64
     go_wp2
     go_ret
     exact ⟨by rw [HE.out]; first | rfl | (simp; omega), rfl⟩
   · have HE := qh (show b = false by rw [Bool.eq_false_iff]; exact fun h => h1 (HB.out.1 h).2)
     go_enter Tryz.func64, Tryz.ntmps64
     go_wp2
     go_ret
     exact ⟨by rw [HE.out]; first | rfl | (simp; omega), rfl⟩
 · have HE := qh (show b = false by rw [Bool.eq_false_iff]; exact fun h => h0 (HB.out.1 h).1)
   have h0' : n < low := by omega
   go_enter Tryz.func64, Tryz.ntmps64
   go_wp2
   go_ret
   exact ⟨by rw [HE.out]; first | rfl | (simp; omega), rfl⟩
theorem most_any (g : Int) (m : Int) (hm : m = if g = 2 then 3 else 0) (w : World) : Calls Tryz.prog 65 #[.int .i64 g] w fun e w' => e = .returned (.int .i64 m) ∧ w = w' := by
 by_cases h : g = 2
 · subst h
   obtain rfl : m = 3 := hm
   go_enter Tryz.func65, Tryz.ntmps65
   go_wp2
   go_ret
   exact ⟨rfl, rfl⟩
 · rw [if_neg h] at hm
   subst hm
   have hb : (g == 2) = false := by simp; exact h
   go_enter Tryz.func65, Tryz.ntmps65
   go_wp2
   go_ret
   exact ⟨rfl, rfl⟩
instance (n me id dl wi g o br wk ro : Int) : Decidable (MayC n me id dl wi g o br wk ro) := by unfold MayC; exact inferInstance
set_option maxHeartbeats 4000000 in
theorem core_may (n me id dl wi g o br wk ro : Int) (b : Bool) (hb : b = true ↔ MayC n me id dl wi g o br wk ro) (w : World) :
 Calls Tryz.prog 13 #[cfV n me id dl wi g o br wk ro] w fun e w' => e = .returned (.bool b) ∧ Below w.heap.size w w' := by
 obtain ⟨m, hm⟩ : ∃ m : Int, m = if g = 2 then 3 else 0 := ⟨_, rfl⟩
 unfold MayC at hb
 rw [← hm] at hb
 have HB := qh hb; clear hb
 have HM := qh (fun W => most_any g m hm W)
 clear hm
 by_cases h1 : ¬ (2 ≤ n ∧ n ≤ 8)
 · skip
   have H1 := qh (fun W => isin_any n (2) (8) false ⟨fun e => (by cases e), fun e => absurd e h1⟩ W)
   have HE := qh (show b = false by rw [Bool.eq_false_iff]; intro h; obtain ⟨h1, h2, h3, h4, h5, h6, h7, h8, h9, h10⟩ := HB.out.1 h; contradiction)
   go_enter Tryz.func13, Tryz.ntmps13
   go_wp2_with fail
   go_quiet (first | (go_at_call 63; first | (with_reducible exact same_left (H1.out _))) | (go_at_call 65; with_reducible exact same_left (HM.out _)))
   go_wp2_with fail
   go_ret
   exact ⟨by rw [HE.out]; rfl, ((bR _ _).alloc (nl _) _).trans (below_drewN (bR _ _) _)⟩
 replace h1 := Decidable.not_not.1 h1
 have H1 := qh (fun W => isin_any n (2) (8) true ⟨fun _ => h1, fun _ => rfl⟩ W)
 by_cases h2 : ¬ (0 ≤ me ∧ me ≤ n - 1)
 · skip
   have H2 := qh (fun W => isin_any me (0) (n - 1) false ⟨fun e => (by cases e), fun e => absurd e h2⟩ W)
   have HE := qh (show b = false by rw [Bool.eq_false_iff]; intro h; obtain ⟨h1, h2, h3, h4, h5, h6, h7, h8, h9, h10⟩ := HB.out.1 h; contradiction)
   go_enter Tryz.func13, Tryz.ntmps13
   go_wp2_with fail
   go_quiet (first | (go_at_call 63; first | (with_reducible exact same_left (H1.out _)) | (with_reducible exact same_left (H2.out _))) | (go_at_call 65; with_reducible exact same_left (HM.out _)))
   go_wp2_with fail
   go_ret
   exact ⟨by rw [HE.out]; rfl, ((bR _ _).alloc (nl _) _).trans (below_drewN (bR _ _) _)⟩
 replace h2 := Decidable.not_not.1 h2
 have H2 := qh (fun W => isin_any me (0) (n - 1) true ⟨fun _ => h2, fun _ => rfl⟩ W)
 by_cases h3 : ¬ (0 ≤ id ∧ id ≤ 1099511627776)
 · skip
   have H3 := qh (fun W => isin64_any id (0) (1099511627776) false ⟨fun e => (by cases e), fun e => absurd e h3⟩ W)
   have HE := qh (show b = false by rw [Bool.eq_false_iff]; intro h; obtain ⟨h1, h2, h3, h4, h5, h6, h7, h8, h9, h10⟩ := HB.out.1 h; contradiction)
   go_enter Tryz.func13, Tryz.ntmps13
   go_wp2_with fail
   go_quiet (first | (go_at_call 63; first | (with_reducible exact same_left (H1.out _)) | (with_reducible exact same_left (H2.out _))) | (go_at_call 64; first | (with_reducible exact same_left (H3.out _))) | (go_at_call 65; with_reducible exact same_left (HM.out _)))
   go_wp2_with fail
   go_ret
   exact ⟨by rw [HE.out]; rfl, ((bR _ _).alloc (nl _) _).trans (below_drewN (bR _ _) _)⟩
 replace h3 := Decidable.not_not.1 h3
 have H3 := qh (fun W => isin64_any id (0) (1099511627776) true ⟨fun _ => h3, fun _ => rfl⟩ W)
 by_cases h4 : ¬ (0 ≤ dl ∧ dl ≤ 8)
 · skip
   have H4 := qh (fun W => isin_any dl (0) (8) false ⟨fun e => (by cases e), fun e => absurd e h4⟩ W)
   have HE := qh (show b = false by rw [Bool.eq_false_iff]; intro h; obtain ⟨h1, h2, h3, h4, h5, h6, h7, h8, h9, h10⟩ := HB.out.1 h; contradiction)
   go_enter Tryz.func13, Tryz.ntmps13
   go_wp2_with fail
   go_quiet (first | (go_at_call 63; first | (with_reducible exact same_left (H1.out _)) | (with_reducible exact same_left (H2.out _)) | (with_reducible exact same_left (H4.out _))) | (go_at_call 64; first | (with_reducible exact same_left (H3.out _))) | (go_at_call 65; with_reducible exact same_left (HM.out _)))
   go_wp2_with fail
   go_ret
   exact ⟨by rw [HE.out]; rfl, ((bR _ _).alloc (nl _) _).trans (below_drewN (bR _ _) _)⟩
 replace h4 := Decidable.not_not.1 h4
 have H4 := qh (fun W => isin_any dl (0) (8) true ⟨fun _ => h4, fun _ => rfl⟩ W)
 by_cases h5 : ¬ (1 ≤ wi ∧ wi ≤ 16)
 · skip
   have H5 := qh (fun W => isin_any wi (1) (16) false ⟨fun e => (by cases e), fun e => absurd e h5⟩ W)
   have HE := qh (show b = false by rw [Bool.eq_false_iff]; intro h; obtain ⟨h1, h2, h3, h4, h5, h6, h7, h8, h9, h10⟩ := HB.out.1 h; contradiction)
   go_enter Tryz.func13, Tryz.ntmps13
   go_wp2_with fail
   go_quiet (first | (go_at_call 63; first | (with_reducible exact same_left (H1.out _)) | (with_reducible exact same_left (H2.out _)) | (with_reducible exact same_left (H4.out _)) | (with_reducible exact same_left (H5.out _))) | (go_at_call 64; first | (with_reducible exact same_left (H3.out _))) | (go_at_call 65; with_reducible exact same_left (HM.out _)))
   go_wp2_with fail
   go_ret
   exact ⟨by rw [HE.out]; rfl, ((bR _ _).alloc (nl _) _).trans (below_drewN (bR _ _) _)⟩
 replace h5 := Decidable.not_not.1 h5
 have H5 := qh (fun W => isin_any wi (1) (16) true ⟨fun _ => h5, fun _ => rfl⟩ W)
 by_cases h6 : ¬ (1 ≤ g ∧ g ≤ 3)
 · skip
   have H6 := qh (fun W => isin_any g (1) (3) false ⟨fun e => (by cases e), fun e => absurd e h6⟩ W)
   have HE := qh (show b = false by rw [Bool.eq_false_iff]; intro h; obtain ⟨h1, h2, h3, h4, h5, h6, h7, h8, h9, h10⟩ := HB.out.1 h; contradiction)
   go_enter Tryz.func13, Tryz.ntmps13
   go_wp2_with fail
   go_quiet (first | (go_at_call 63; first | (with_reducible exact same_left (H1.out _)) | (with_reducible exact same_left (H2.out _)) | (with_reducible exact same_left (H4.out _)) | (with_reducible exact same_left (H5.out _)) | (with_reducible exact same_left (H6.out _))) | (go_at_call 64; first | (with_reducible exact same_left (H3.out _))) | (go_at_call 65; with_reducible exact same_left (HM.out _)))
   go_wp2_with fail
   go_ret
   exact ⟨by rw [HE.out]; rfl, ((bR _ _).alloc (nl _) _).trans (below_drewN (bR _ _) _)⟩
 replace h6 := Decidable.not_not.1 h6
 have H6 := qh (fun W => isin_any g (1) (3) true ⟨fun _ => h6, fun _ => rfl⟩ W)
 by_cases h7 : ¬ (0 ≤ o ∧ o ≤ m)
 · skip
   have H7 := qh (fun W => isin_any o (0) (m) false ⟨fun e => (by cases e), fun e => absurd e h7⟩ W)
   have HE := qh (show b = false by rw [Bool.eq_false_iff]; intro h; obtain ⟨h1, h2, h3, h4, h5, h6, h7, h8, h9, h10⟩ := HB.out.1 h; contradiction)
   go_enter Tryz.func13, Tryz.ntmps13
   go_wp2_with fail
   go_quiet (first | (go_at_call 63; first | (with_reducible exact same_left (H1.out _)) | (with_reducible exact same_left (H2.out _)) | (with_reducible exact same_left (H4.out _)) | (with_reducible exact same_left (H5.out _)) | (with_reducible exact same_left (H6.out _)) | (with_reducible exact same_left (H7.out _))) | (go_at_call 64; first | (with_reducible exact same_left (H3.out _))) | (go_at_call 65; with_reducible exact same_left (HM.out _)))
   go_wp2_with fail
   go_ret
   exact ⟨by rw [HE.out]; rfl, ((bR _ _).alloc (nl _) _).trans (below_drewN (bR _ _) _)⟩
 replace h7 := Decidable.not_not.1 h7
 have H7 := qh (fun W => isin_any o (0) (m) true ⟨fun _ => h7, fun _ => rfl⟩ W)
 by_cases h8 : ¬ (0 ≤ br ∧ br ≤ 8)
 · skip
   have H8 := qh (fun W => isin_any br (0) (8) false ⟨fun e => (by cases e), fun e => absurd e h8⟩ W)
   have HE := qh (show b = false by rw [Bool.eq_false_iff]; intro h; obtain ⟨h1, h2, h3, h4, h5, h6, h7, h8, h9, h10⟩ := HB.out.1 h; contradiction)
   go_enter Tryz.func13, Tryz.ntmps13
   go_wp2_with fail
   go_quiet (first | (go_at_call 63; first | (with_reducible exact same_left (H1.out _)) | (with_reducible exact same_left (H2.out _)) | (with_reducible exact same_left (H4.out _)) | (with_reducible exact same_left (H5.out _)) | (with_reducible exact same_left (H6.out _)) | (with_reducible exact same_left (H7.out _)) | (with_reducible exact same_left (H8.out _))) | (go_at_call 64; first | (with_reducible exact same_left (H3.out _))) | (go_at_call 65; with_reducible exact same_left (HM.out _)))
   go_wp2_with fail
   go_ret
   exact ⟨by rw [HE.out]; rfl, ((bR _ _).alloc (nl _) _).trans (below_drewN (bR _ _) _)⟩
 replace h8 := Decidable.not_not.1 h8
 have H8 := qh (fun W => isin_any br (0) (8) true ⟨fun _ => h8, fun _ => rfl⟩ W)
 by_cases h9 : ¬ (0 ≤ wk ∧ wk ≤ 4)
 · skip
   have H9 := qh (fun W => isin_any wk (0) (4) false ⟨fun e => (by cases e), fun e => absurd e h9⟩ W)
   have HE := qh (show b = false by rw [Bool.eq_false_iff]; intro h; obtain ⟨h1, h2, h3, h4, h5, h6, h7, h8, h9, h10⟩ := HB.out.1 h; contradiction)
   go_enter Tryz.func13, Tryz.ntmps13
   go_wp2_with fail
   go_quiet (first | (go_at_call 63; first | (with_reducible exact same_left (H1.out _)) | (with_reducible exact same_left (H2.out _)) | (with_reducible exact same_left (H4.out _)) | (with_reducible exact same_left (H5.out _)) | (with_reducible exact same_left (H6.out _)) | (with_reducible exact same_left (H7.out _)) | (with_reducible exact same_left (H8.out _)) | (with_reducible exact same_left (H9.out _))) | (go_at_call 64; first | (with_reducible exact same_left (H3.out _))) | (go_at_call 65; with_reducible exact same_left (HM.out _)))
   go_wp2_with fail
   go_ret
   exact ⟨by rw [HE.out]; rfl, ((bR _ _).alloc (nl _) _).trans (below_drewN (bR _ _) _)⟩
 replace h9 := Decidable.not_not.1 h9
 have H9 := qh (fun W => isin_any wk (0) (4) true ⟨fun _ => h9, fun _ => rfl⟩ W)
 by_cases h10 : ¬ (3 ≤ ro ∧ ro ≤ 50)
 · skip
   have H10 := qh (fun W => isin_any ro (3) (50) false ⟨fun e => (by cases e), fun e => absurd e h10⟩ W)
   have HE := qh (show b = false by rw [Bool.eq_false_iff]; intro h; obtain ⟨h1, h2, h3, h4, h5, h6, h7, h8, h9, h10⟩ := HB.out.1 h; contradiction)
   go_enter Tryz.func13, Tryz.ntmps13
   go_wp2_with fail
   go_quiet (first | (go_at_call 63; first | (with_reducible exact same_left (H1.out _)) | (with_reducible exact same_left (H2.out _)) | (with_reducible exact same_left (H4.out _)) | (with_reducible exact same_left (H5.out _)) | (with_reducible exact same_left (H6.out _)) | (with_reducible exact same_left (H7.out _)) | (with_reducible exact same_left (H8.out _)) | (with_reducible exact same_left (H9.out _)) | (with_reducible exact same_left (H10.out _))) | (go_at_call 64; first | (with_reducible exact same_left (H3.out _))) | (go_at_call 65; with_reducible exact same_left (HM.out _)))
   go_wp2_with fail
   go_ret
   exact ⟨by rw [HE.out]; rfl, ((bR _ _).alloc (nl _) _).trans (below_drewN (bR _ _) _)⟩
 replace h10 := Decidable.not_not.1 h10
 have H10 := qh (fun W => isin_any ro (3) (50) true ⟨fun _ => h10, fun _ => rfl⟩ W)
 have HE := qh (show b = true by exact HB.out.2 ⟨h1, h2, h3, h4, h5, h6, h7, h8, h9, h10⟩)
 go_enter Tryz.func13, Tryz.ntmps13
 go_wp2_with fail
 go_quiet (first | (go_at_call 63; first | (with_reducible exact same_left (H1.out _)) | (with_reducible exact same_left (H2.out _)) | (with_reducible exact same_left (H4.out _)) | (with_reducible exact same_left (H5.out _)) | (with_reducible exact same_left (H6.out _)) | (with_reducible exact same_left (H7.out _)) | (with_reducible exact same_left (H8.out _)) | (with_reducible exact same_left (H9.out _)) | (with_reducible exact same_left (H10.out _))) | (go_at_call 64; first | (with_reducible exact same_left (H3.out _))) | (go_at_call 65; with_reducible exact same_left (HM.out _)))
 go_wp2_with fail
 go_ret
 exact ⟨by rw [HE.out]; rfl, ((bR _ _).alloc (nl _) _).trans (below_drewN (bR _ _) _)⟩
theorem wp_append_bu {P : Program} {op : Oper} {a : Act} {Kq : Act → World → Prop} {Q : Exit → Act → World → Prop} {w0 w : World} {E : List Ent} {t : TypeId} {size n : Nat} {v : Value} {xs : List Value} {o : Obj} (s x : Operand) (ty : TypeId)
 (ho : op.op = .call { callee := .builtin .append, args := #[s, x], argTypes := #[ty, ty] })
 (z : Value) (bytes : Nat) (ht : P.underlying ty = some (.slice t)) (hinfo : ∃ i0, P.info? t = some i0 ∧ i0.zero = some z ∧ i0.size = size ∧ i0.bytes = bytes) (hzs : z.cells.size = size) (hsz : 0 < size)
 (h : BU w0 w E) (R : RowE t size v n xs o) (i : Nat) (hi : E[i]? = some (v.ownBlock, o)) (hs : a.eval s = v)
 (ad : Addr) (m c : Nat) (news : List Value) (hx : a.eval x = .slice (some ad) m c) (hl : news.length = m * size) (hnews : ∀ j u, news[j]? = some u → w.cell? (ad.add j) = some u) (h1 : ∀ u ∈ news, u.oneCell' = true)
 (h63 : n + m ≤ 1000000) (hbytes : (n + m) * bytes ≤ 140737488355328) (hm : 0 < m)
 (hq : ∀ v' w' o' k', RowE t size v' (n + m) (xs ++ news) o' → v'.ownBlock = some k' → BU w0 w' (E.set i (v'.ownBlock, o')) → w.grownBy w' v.ownBlock → (v.ownBlock = some k' ∨ w.heap.size ≤ k') → Kq (a.put op.dst v') w') : op.wp P a w Kq Q := by
 obtain ⟨i0, hi0, hz0, hz1, hz2⟩ := hinfo
 obtain ⟨v', w', hrun, h2, h3, h4, h5⟩ := run_append_own_at (P := P) w w0.heap.size ty op.type t i0 z size bytes ht hi0 hz0 hz1 hz2 hzs hsz v n xs (h.owns R hi) ad m c news hl hnews h1 (by unfold maxLen; omega) hbytes h.be.size
 have hlt : ∀ k, v'.ownBlock = some k → k < w'.heap.size := fun k hk => (World.ownsRow.lt h2 k hk).2
 have hsome : ∃ k', v'.ownBlock = some k' := by
  rcases h2.2 with ⟨_, h0⟩ | ⟨g, cap, cur, rfl, _⟩
  · omega
  · exact ⟨g, rfl⟩
 obtain ⟨k', hk'⟩ := hsome
 obtain ⟨o', ho'⟩ : ∃ o', w'.heap[k']? = some o' := ⟨_, Array.getElem?_eq_getElem (hlt k' hk')⟩
 have hor : v.ownBlock = some k' ∨ w.heap.size ≤ k' := by
  rcases h5 with e | e
  · exact .inl (e.symm.trans hk')
  · exact .inr (by have := Option.some.inj (e.symm.trans hk'); omega)
 have hE : BU w0 w' (E.set i (v'.ownBlock, o')) := by rw [hk']; exact h.put i _ o hi h3 k' o' hor ho'
 unfold Oper.wp execOp
 simp only [ho, resolve, invoke, builtin, Sem.run_bind, Sem.run_pure, Result.andThen_ok, List.map_toArray, List.map_cons, List.map_nil, hs, hx, hrun]
 exact hq v' w' o' k' (owns_row h2 k' o' hk' ho') hk' hE h3 hor
theorem wpList_append_bu2 {P : Program} {ops : Array Oper} {rest : List Oper} {op : Oper} {a : Act} {Q : Exit → Act → World → Prop} {w0 w : World} {E : List Ent} {t : TypeId} {size n : Nat} {v : Value} {xs : List Value} {o : Obj} (hgd : op.guard = none) (s x : Operand) (ty : TypeId)
 (ho : op.op = .call { callee := .builtin .append, args := #[s, x], argTypes := #[ty, ty] })
 (z : Value) (bytes : Nat) (ht : P.underlying ty = some (.slice t)) (hinfo : ∃ i0, P.info? t = some i0 ∧ i0.zero = some z ∧ i0.size = size ∧ i0.bytes = bytes) (hzs : z.cells.size = size) (hsz : 0 < size)
 (h : BU w0 w E) (R : RowE t size v n xs o) (i : Nat) (hi : E[i]? = some (v.ownBlock, o)) (hs : a.eval s = v)
 (ad : Addr) (m c : Nat) (news : List Value) (hx : a.eval x = .slice (some ad) m c) (hl : news.length = m * size) (hnews : ∀ j u, news[j]? = some u → w.cell? (ad.add j) = some u) (h1 : ∀ u ∈ news, u.oneCell' = true)
 (h63 : n + m ≤ 1000000) (hbytes : (n + m) * bytes ≤ 140737488355328) (hm : 0 < m)
 (hq : ∀ v' w' o' k', RowE t size v' (n + m) (xs ++ news) o' → v'.ownBlock = some k' → BU w0 w' (E.set i (v'.ownBlock, o')) → w.grownBy w' v.ownBlock → (v.ownBlock = some k' ∨ w.heap.size ≤ k') → wpList P ops Q rest (a.put op.dst v') w') : wpList P ops Q (op :: rest) a w :=
 wpList_plain hgd fun K hK => wp_append_bu s x ty ho z bytes ht hinfo hzs hsz h R i hi hs ad m c news hx hl hnews h1 h63 hbytes hm fun v' w' o' k' a1 a2 a3 a4 a5 => hK _ _ (hq v' w' o' k' a1 a2 a3 a4 a5)
def evR : Ev → Value
 | .q p => rawV 1 p 0
 | .l p => rawV 2 p 0
 | .a p f => rawV 3 p f
abbrev evV (e : Ev) : Value := .agg #[evC e]
def Ev.may : Ev → Prop
 | .q p => p ≤ 7
 | .l p => p ≤ 7
 | .a p f => p ≤ 7 ∧ f ≤ 1000
theorem of_any (e : Ev) (h : e.may) (w : World) : Calls Tryz.prog 119 #[evR e] w fun en w' => en = .returned (.tuple #[evV e, .bool true]) ∧ Below w.heap.size w w' := by
 cases e with
 | q p => exact of_quit p (by omega) (by have : p ≤ 7 := h; omega) w
 | l p => exact of_late p (by omega) (by have : p ≤ 7 := h; omega) w
 | a p f => exact of_apart p f (by omega) (by have : p ≤ 7 ∧ f ≤ 1000 := h; omega) (by omega) (by have : p ≤ 7 ∧ f ≤ 1000 := h; omega) w
theorem ev_info : ∃ i0, Tryz.prog.info? 143 = some i0 ∧ i0.zero = some (.agg #[.nilIface]) ∧ i0.size = 1 ∧ i0.bytes = 16 :=
 info_parts (show (Tryz.prog.info? 143).map (fun i => (i.zero, i.size, i.bytes)) = some (some (.agg #[.nilIface]), 1, 16) from by kernel_rfl)
theorem evR_parts (e : Ev) : ∃ k p f : Int, evR e = .agg #[.int .i64 k, .int .i64 p, .int .i64 f] := by
 cases e with
 | q p => exact ⟨1, p, 0, rfl⟩
 | l p => exact ⟨2, p, 0, rfl⟩
 | a p f => exact ⟨3, p, f, rfl⟩
theorem evC_parts (e : Ev) : ∃ T v, evC e = .iface T v := by
 cases e with
 | q p => exact ⟨_, _, rfl⟩
 | l p => exact ⟨_, _, rfl⟩
 | a p f => exact ⟨_, _, rfl⟩
theorem core_happens (w0 w : World) (K : Cm) (h : CM w0 w K) (e : Ev) (hm : e.may) (hl : K.s.es.length ≤ 900000) :
 Calls Tryz.prog 72 #[pB K.c, evR e] w fun en w' => en = .returned (.tuple #[]) ∧ Goes w0 w K w' { K.s with es := K.s.es ++ [e] } := by
 obtain ⟨k, p, f, he⟩ := evR_parts e
 obtain ⟨T, V, hv⟩ := evC_parts e
 have HO := qh (fun W => of_any e hm W)
 unfold evV at HO
 rw [he, hv] at HO
 have HH := qh h
 obtain ⟨n, hn⟩ : ∃ n, K.s.es.length = n := ⟨_, rfl⟩
 obtain ⟨A, cap, hev, -, -⟩ := h.events
 rw [hn] at hev hl
 have HN := qh hn; have HEV := qh hev
 have HN1 : Hid (n + 1 ≤ 1000000) := by show _ ≤ _; omega
 have HN2 : Hid ((n + 1) * 16 ≤ 140737488355328) := by show _ ≤ _; omega
 have HKE : Hid (∀ {W : World}, CM w0 W K → RowE 143 1 (.slice A n cap) n (esL K.s.es) K.eo) := fun h => by have := h.ke; rw [hn, hev] at this; exact this
 have HE3 : Hid (K.E[3]? = some ((Value.slice A n cap).ownBlock, K.eo)) := by show _ = _; rw [← hev]; rfl
 have HEB : Hid (K.ev.ownBlock = (Value.slice A n cap).ownBlock) := by show _ = _; rw [hev]
 have HNC : Hid (some K.c ≠ (Value.slice A n cap).ownBlock) := fun e => by
  have h1 : K.E[3]? = some (some K.c, K.eo) := by rw [HE3.out, ← e]
  have := h.bu.inj 0 3 K.c _ _ rfl h1
  omega
 have HR7 : Hid (∀ (v : Value) (o : Obj), RowE 143 1 v (n + 1) (esL K.s.es ++ [.iface T V]) o → RowE 143 1 v (K.s.es.length + 1) (esL K.s.es ++ [evC e]) o) := fun v o R => by rw [hn, hv]; exact R
 rw [he]
 clear h hm he hn hev
 go_enter Tryz.func72, Tryz.ntmps72
 go_wp2_with (first
  | (go_at_call 119; (with_reducible refine (HO.out _).mono ?_); rintro en w1 ⟨rfl, hb⟩; have HB := qh hb; clear hb))
 have HBW2 : Hid (Below w.heap.size w (w1.alloc (Obj.cells #[.iface T V] 143))) := (((bR _ _).alloc (nl _) _).trans (HB.out.mono (by simp))).alloc (by have := HB.out.size; simp at this; omega) _
 have H2 := qh (HH.out.belows HBW2.out)
 obtain ⟨W2, hW2⟩ : ∃ W2, W2 = w1.alloc (Obj.cells #[.iface T V] 143) := ⟨_, rfl⟩
 have HC2 : Hid (W2.cell? ⟨w1.heap.size, 0, none⟩ = some (.iface T V)) := by show _ = _; rw [hW2, cell_of_row _ _ 0 _ _ _ (heap_alloc_new w1 _)]; rfl
 have HS2 : Hid (w1.heap.size < W2.drew.heap.size) := by show _ < W2.heap.size; rw [hW2]; simp
 rw [← hW2] at HBW2 H2 ⊢
 clear hW2
 have HNE : Hid (some w1.heap.size ≠ (Value.slice A n cap).ownBlock) := fun e => by
  have h1 : K.E[3]? = some (some w1.heap.size, K.eo) := by rw [HE3.out, ← e]
  have h2 := HH.out.bu.lt h1
  have h3 := HB.out.size
  simp at h3
  omega
 have BA := qh ((bR W2.drew.heap.size W2.drew).alloc (nl _) (Obj.cells #[.iface T V] 143))
 have HBW : Hid (Below w.heap.size w (W2.drew.alloc (Obj.cells #[.iface T V] 143))) := HBW2.out.drew.alloc HBW2.out.drew.size _
 have HS0 : Hid (W2.drew.cell? ⟨K.c, 14, none⟩ = some (.slice A n cap) ∧ W2.drew.cell? ⟨w1.heap.size, 0, none⟩ = some (.iface T V) ∧ W2.drew.frozen? ⟨K.c, 14, none⟩ = false) := ⟨H2.out.drew.cell 14 _ (by rw [← HEV.out]; rfl), HC2.out, H2.out.drew.fz 14⟩
 refine wp_region_J (s := 10) (S := (fun w' => w'.cell? ⟨K.c, 14, none⟩ = some (.slice A n cap) ∧ w'.cell? ⟨w1.heap.size, 0, none⟩ = some (.iface T V) ∧ w'.frozen? ⟨K.c, 14, none⟩ = false)) (by kernel_rfl) (HS0.out) (fun hHeld => ?_)
 refine j_take (i := 0) (v := ?_) rfl (by kernel_rfl) (by kernel_rfl) (by kernel_rfl) (by kernel_rfl) (fun _ _ _ h => h) (by rfl) hHeld ?_ ?_
 rotate_left 1
 · (intro w hSw; (try dsimp only at hSw); go_simp; try (with_reducible rfl))
 try simp only [Act.put, nB, nC, nD]
 refine j_take (i := 1) (v := ?_) rfl (by kernel_rfl) (by kernel_rfl) (by kernel_rfl) (by kernel_rfl) (fun _ _ _ h => h) (by rfl) hHeld ?_ ?_
 rotate_left 1
 · (intro w hSw; (try dsimp only at hSw); go_simp; try (with_reducible rfl))
 try simp only [Act.put, nB, nC, nD]
 refine j_take (i := 2) (v := ?_) rfl (by kernel_rfl) (by kernel_rfl) (by kernel_rfl) (by kernel_rfl) (fun _ _ _ h => h) (by rfl) hHeld ?_ ?_
 rotate_left 1
 · (intro w hSw; (try dsimp only at hSw); go_simp; try (with_reducible rfl))
 try simp only [Act.put, nB, nC, nD]
 refine j_take (i := 3) (v := ?_) rfl (by kernel_rfl) (by kernel_rfl) (by kernel_rfl) (by kernel_rfl) (fun _ _ _ h => h) (by rfl) hHeld ?_ ?_
 rotate_left 1
 · (intro w hSw; (try dsimp only at hSw); go_simp; try (with_reducible rfl))
 try simp only [Act.put, nB, nC, nD]
 refine j_take (i := 4) (v := ?_) rfl (by kernel_rfl) (by kernel_rfl) (by kernel_rfl) (by kernel_rfl) (fun _ _ _ h => h) (by rfl) hHeld ?_ ?_
 rotate_left 1
 · (intro w hSw; (try dsimp only at hSw); go_simp; try (with_reducible rfl))
 try simp only [Act.put, nB, nC, nD]
 refine j_take (i := 5) (v := ?_) rfl (by kernel_rfl) (by kernel_rfl) (by kernel_rfl) (by kernel_rfl) (fun _ _ _ h => h) (by rfl) hHeld ?_ ?_
 rotate_left 1
 · (intro w hSw; (try dsimp only at hSw); go_simp; try (with_reducible rfl))
 try simp only [Act.put, nB, nC, nD]
 refine j_one (i := 6) rfl (by kernel_rfl) (by rfl) (fun K9 hK => ?_)
 go_simp
 refine hK.out _ _ (⟨(H2.out.drew.belows BA.out).cell 14 _ (by rw [← HEV.out]; rfl), (BA.out.cell (p := ⟨w1.heap.size, 0, none⟩) HS2.out).trans hHeld.2.1, (H2.out.drew.belows BA.out).fz 14⟩) (fun hHeld2 => ?_)
 clear hK K9 hHeld; have hHeld := hHeld2; clear hHeld2
 try simp only [Act.put, nB, nC, nD]
 have H3 := qh (H2.out.drew.belows BA.out)
 refine j_one (i := 7) rfl (by kernel_rfl) (by rfl) (fun K9 hK => ?_)
 refine wp_append_bu (w0 := w0) (E := K.E) (t := 143) (size := 1) (n := n) (v := .slice A n cap) (xs := esL K.s.es) (o := K.eo) (.tmp 16) (.tmp 18) 54 (by rfl) (.agg #[.nilIface]) 16 Tryz.underlying54 ev_info rfl (by decide) H3.out.bu (HKE.out H3.out) 3 HE3.out (by rfl) _ 1 1 [.iface T V] (by rfl) rfl (cell_one_new _ _ _) (by simp [Value.oneCell']) HN1.out HN2.out (by decide) ?_
 intro v7 w7 o7 k7 R7 hk7 B7 g7 n7
 refine hK.out _ _ (keepg hHeld g7 HNC.out HNE.out) (fun hHeld2 => ?_)
 clear hK K9 hHeld; have hHeld := hHeld2; clear hHeld2
 try simp only [Act.put, nB, nC, nD]
 obtain ⟨A7, c7, rfl, -, -⟩ := R7.val
 have G7 := qh (H3.out.push_event _ o7 e k7 hk7 (HR7.out _ _ R7) B7 (by rw [HEB.out]; exact g7) (by rw [HEB.out]; exact n7))
 clear R7 hk7 B7 g7 n7
 refine j_one (i := 8) rfl (by kernel_rfl) (by rfl) (fun K9 hK => ?_)
 go_simp
 refine hK.out _ _ (hHeld) (fun hHeld2 => ?_)
 clear hK K9 hHeld; have hHeld := hHeld2; clear hHeld2
 try simp only [Act.put, nB, nC, nD]
 refine j_one (i := 9) rfl (by kernel_rfl) (by rfl) (fun K9 hK => ?_)
 go_simp
 refine hK.out _ _ (hHeld) (fun hHeld2 => ?_)
 clear hK K9 hHeld; have hHeld := hHeld2; clear hHeld2
 try simp only [Act.put, nB, nC, nD]
 refine j_last rfl (by kernel_rfl) (by simp) (by kernel_rfl) (by rfl) (fun K9 hK => ?_)
 go_simp
 refine hK.out _ _ ?_
 go_wp2
 go_end0
 exact ⟨rfl, goes_then (Lv.of_below HBW.out) (fun k hk => .inl hk) rfl rfl ⟨rfl, rfl⟩ G7.out⟩
end Go.Proofs.YtpnobpligchpiaaGreatDoor
