/- texts of YpPa -/
import Derived.Test.YtpnobpligchpiaaGreatDoorYpCg
import Derived.Test.YtpnobpligchpiaaGreatDoorYpGa
import Derived.Test.YtpnobpligchpiaaGreatDoorYpK
import Derived.Test.YtpnobpligchpiaaGreatDoorYpMd
import Derived.Test.YtpnobpligchpiaaGreatDoorYpTb
namespace Go.Proofs.YtpnobpligchpiaaGreatDoor
set_option maxRecDepth 100000
open Go.RowKit
set_option linter.unusedVariables false
set_option linter.unusedSimpArgs false
theorem rowIs_sets {b : Nat} {t : TypeId} {n : Nat} : ∀ (vs : List Value) (o : Nat) (w : World) (f : Nat → Value), w.rowIs b t n f →
 (w.setCells b o vs).rowIs b t n (fun j => if o ≤ j ∧ j < o + vs.length then vs.getD (j - o) (f j) else f j)
 | [], o, w, f, h => by
   refine World.rowIs.congr (f := f) h (fun i _ => ?_)
   rw [if_neg (by simp)]
 | v :: r, o, w, f, h => by
   rw [World.setCells]
   refine World.rowIs.congr (rowIs_sets r (o + 1) _ _ (World.rowIs.set h o v)) (fun i _ => ?_)
   simp only [List.length_cons]
   by_cases e : i = o
   · subst e
     rw [if_neg (by omega), if_pos rfl, if_pos (by omega)]; simp
   · by_cases e1 : o + 1 ≤ i ∧ i < o + 1 + r.length
     · rw [if_neg e, if_pos e1, if_pos (by omega), show i - o = (i - (o + 1)) + 1 by omega, List.getD_cons_succ]
     · rw [if_neg e1, if_neg e, if_neg (by omega)]
theorem grown_sets (b : Nat) : ∀ (vs : List Value) (o : Nat) (w : World), w.grownBy (w.setCells b o vs) (some b) ∧ (w.setCells b o vs).heap.size = w.heap.size
 | [], o, w => ⟨⟨rfl, rfl, rfl, nl _, fun _ _ _ => rfl⟩, rfl⟩
 | v :: r, o, w => by
   rw [World.setCells]
   obtain ⟨h, hs⟩ := grown_sets b r (o + 1) (w.setCell ⟨b, o, none⟩ v)
   have h0 : w.grownBy (w.setCell ⟨b, o, none⟩ v) (some b) := ⟨rfl, rfl, rfl, by simp [World.setCell], fun k hk hne => Below.heap_setCell _ _ _ _ (fun e => hne (by rw [e]))⟩
   exact ⟨⟨h.os.trans h0.os, h.tape.trans h0.tape, h.output.trans h0.output, Nat.le_trans h0.size h.size, fun i hi hr => (h.block i (Nat.lt_of_lt_of_le hi h0.size) hr).trans (h0.block i hi hr)⟩, hs.trans (by simp)⟩
def plF (c : Nat) (T : ByteArray) (ov : Value) (z o : Int) (tv : Value) (g : List Int) (n : Nat) (i : Nat) : Value :=
 match i with
 | 0 => pB c
 | 1 => .string T
 | 2 => ov
 | 3 => .int .i64 z
 | 4 => .int .i64 o
 | 5 => tv
 | k + 6 => if k < 32 then .int .i32 (g.getD k 0) else .int .i64 (n : Int)
structure PlR (w : World) (x : Nat) (ty : TypeId) (N : Nat) (c : Nat) (T : ByteArray) (ov : Value) (z o : Int) (tv : Value) (g : List Int) (n : Nat) : Prop where
 row : w.rowIs x ty N (plF c T ov z o tv g n)
 len : g.length = 32
section
variable {w w' : World} {x : Nat} {ty : TypeId} {N c : Nat} {T : ByteArray} {ov : Value} {z o : Int} {tv : Value} {g g' : List Int} {n m : Nat}
theorem PlR.lt (h : PlR w x ty N c T ov z o tv g n) : x < w.heap.size := World.rowIs.lt h.row
theorem PlR.fz (h : PlR w x ty N c T ov z o tv g n) (j : Nat) : w.frozen? ⟨x, j, none⟩ = false := World.rowIs.frozen h.row j
theorem PlR.same (h : PlR w x ty N c T ov z o tv g n) (e : w'.heap[x]? = w.heap[x]?) : PlR w' x ty N c T ov z o tv g n := ⟨World.rowIs.of_block h.row e, h.len⟩
theorem PlR.belows (h : PlR w x ty N c T ov z o tv g n) (hb : Below w.heap.size w w') : PlR w' x ty N c T ov z o tv g n := h.same (hb.block x h.lt)
theorem PlR.core (h : PlR w x ty N c T ov z o tv g n) (hN : 38 ≤ N) : w.cell? ⟨x, 0, none⟩ = some (pB c) := World.rowIs.cell h.row (i := 0) (by omega)
theorem PlR.played (h : PlR w x ty 39 c T ov z o tv g n) : w.cell? ⟨x, 38, none⟩ = some (.int .i64 (n : Int)) := World.rowIs.cell h.row (i := 38) (by omega)
theorem PlR.prog (h : PlR w x ty N c T ov z o tv g n) (hN : 38 ≤ N) : w.rangeAt x 1 [.string T, ov] := fun j v hj => by
 have hj2 : j < 2 := (List.getElem?_eq_some_iff.1 hj).1
 rw [World.rowIs.cell h.row (i := 1 + j) (by omega)]
 match j, hj2, hj with
 | 0, _, hj => exact hj
 | 1, _, hj => exact hj
theorem PlR.by_ (h : PlR w x ty N c T ov z o tv g n) (hN : 38 ≤ N) : w.rangeAt x 3 [.int .i64 z, .int .i64 o, tv] := fun j v hj => by
 have hj2 : j < 3 := (List.getElem?_eq_some_iff.1 hj).1
 rw [World.rowIs.cell h.row (i := 3 + j) (by omega)]
 match j, hj2, hj with
 | 0, _, hj => exact hj
 | 1, _, hj => exact hj
 | 2, _, hj => exact hj
theorem PlR.game (h : PlR w x ty N c T ov z o tv g n) (hN : 38 ≤ N) : w.rangeAt x 6 (gC g).toList := fun j v hj => by
 have hj2 : j < (gC g).toList.length := (List.getElem?_eq_some_iff.1 hj).1
 have hj3 : j < g.length := by simpa [gC_size] using hj2
 have hj4 : j < 32 := by rw [← h.len]; exact hj3
 rw [World.rowIs.cell h.row (i := 6 + j) (by omega)]
 have e : 6 + j = j + 6 := by omega
 have e2 : (gC g).toList[j]? = some (.int .i32 g[j]) := by
  have := gC_get g j hj3
  rw [← this, Array.getElem?_toList]
 rw [e2] at hj
 rw [e]
 show some (if j < 32 then Value.int .i32 (g.getD j 0) else .int .i64 (n : Int)) = some v
 rw [if_pos hj4, ← hj, List.getD_eq_getElem?_getD, List.getElem?_eq_getElem hj3]
 rfl
theorem PlR.there (h : PlR w x ty N c T ov z o tv g n) (hN : 38 ≤ N) : w.there x 6 32 := fun j hj => ⟨by rw [World.rowIs.cell h.row (i := 6 + j) (by omega)]; rfl, h.fz _⟩
theorem PlR.set_game (h : PlR w x ty N c T ov z o tv g n) (hg : g'.length = 32) : PlR (w.setCells x 6 (gC g').toList) x ty N c T ov z o tv g' n := by
 refine ⟨(rowIs_sets _ 6 _ _ h.row).congr fun i hi => ?_, hg⟩
 have hl : (gC g').toList.length = 32 := by simp [gC_size, hg]
 rw [hl]
 by_cases e : 6 ≤ i ∧ i < 6 + 32
 · rw [if_pos e]
   obtain ⟨k, rfl⟩ : ∃ k, i = k + 6 := ⟨i - 6, by omega⟩
   have hk : k < 32 := by omega
   rw [show k + 6 - 6 = k by omega]
   show _ = if k < 32 then Value.int .i32 (g'.getD k 0) else .int .i64 (n : Int)
   rw [if_pos hk]
   have hkg : k < g'.length := by omega
   have e2 : (gC g').toList[k]? = some (.int .i32 g'[k]) := by
    have := gC_get g' k hkg
    rw [← this, Array.getElem?_toList]
   rw [List.getD_eq_getElem?_getD, e2, List.getD_eq_getElem?_getD, List.getElem?_eq_getElem hkg]
   rfl
 · rw [if_neg e]
   match i, e with
   | 0, _ => rfl
   | 1, _ => rfl
   | 2, _ => rfl
   | 3, _ => rfl
   | 4, _ => rfl
   | 5, _ => rfl
   | k + 6, e =>
     show (if k < 32 then Value.int .i32 (g.getD k 0) else .int .i64 (n : Int)) = if k < 32 then Value.int .i32 (g'.getD k 0) else .int .i64 (n : Int)
     rw [if_neg (by omega), if_neg (by omega)]
theorem PlR.set_played (h : PlR w x ty 39 c T ov z o tv g n) : PlR (w.setCell ⟨x, 38, none⟩ (.int .i64 (m : Int))) x ty 39 c T ov z o tv g m := by
 refine ⟨(World.rowIs.set h.row 38 _).congr fun i hi => ?_, h.len⟩
 by_cases e : i = 38
 · subst e; rfl
 · rw [if_neg e]
   match i, e with
   | 0, _ => rfl
   | 1, _ => rfl
   | 2, _ => rfl
   | 3, _ => rfl
   | 4, _ => rfl
   | 5, _ => rfl
   | k + 6, e =>
     show (if k < 32 then Value.int .i32 (g.getD k 0) else .int .i64 (n : Int)) = if k < 32 then Value.int .i32 (g.getD k 0) else .int .i64 (m : Int)
     have : k < 32 := by omega
     rw [if_pos this, if_pos this]
end
theorem exec_load_mid {P : Program} {op : Oper} {a : Act} (ty : TypeId) (x : Operand) (ho : op.op = .load ty x) (b o : Nat) (hx : a.eval x = .pointer (some ⟨b, o, none⟩)) (cs : List Value) (d : TypeDesc) (hu : P.underlying ty = some d) (hd : d.isRow = true) (hi : (P.info? ty).map (·.size) = some cs.length) (w : World) (hw : w.rangeAt b o cs) :
 (execOp a.eval op).run P w = .ok (.value (.agg cs.toArray)) w := by
 have := run_loadVar_mid (P := P) w b o ty cs d hw hu hd hi
 unfold execOp
 simp only [ho, hx, Instr.loadAt, Instr.sureAddr, Sem.run_bind, Sem.run_pure, Result.andThen_ok, this]
def sumG (g : List Int) : Int := tn (sumL (gEnc g))
def playN (C : Cf) (T : ByteArray) (os : List O4) (s : Pl) (g : List Int) : Nat → Pl × List Int
 | 0 => (s, g)
 | k + 1 =>
   let r := playN C T os s g k
   let g' := (frameN ⟨T, ((r.1.ms.length : Nat) : Int), jointP r.1.L r.1.ms.length⟩ os r.2).1
   (markP C r.1 (sumG g'), g')
def playsP (C : Cf) (T : ByteArray) (os : List O4) (s : Pl) (g : List Int) : Pl × List Int := playN C T os s g (frontP s.L - s.ms.length)
theorem mark_L (C : Cf) (s : Pl) (u : Int) : (markP C s u).L = s.L := by
 unfold markP; split
 · show (heldN _ C.n).L = _
   rw [(heldN_ms _ _).2.1]
 · rfl
theorem mark_cl (C : Cf) (s : Pl) (u : Int) : (markP C s u).cl = s.cl := by
 unfold markP; split
 · show (heldN _ C.n).cl = _
   rw [(heldN_ms _ _).2.2.2.1]
 · rfl
theorem mark_len (C : Cf) (s : Pl) (u : Int) (h : s.ms.length < 1000) : (markP C s u).ms.length = s.ms.length + 1 := by
 unfold markP; rw [if_pos h]
 show (heldN _ C.n).ms.length = _
 rw [(heldN_ms _ _).1]; simp
section
variable {C : Cf} {T : ByteArray} {os : List O4} {s : Pl} {g : List Int}
theorem playN_L : ∀ k, (playN C T os s g k).1.L = s.L
 | 0 => rfl
 | k + 1 => (mark_L _ _ _).trans (playN_L k)
theorem playN_cl : ∀ k, (playN C T os s g k).1.cl = s.cl
 | 0 => rfl
 | k + 1 => (mark_cl _ _ _).trans (playN_cl k)
theorem playN_len : ∀ k, s.ms.length + k ≤ 1000 → (playN C T os s g k).1.ms.length = s.ms.length + k
 | 0, _ => rfl
 | k + 1, h => by
   have ih := playN_len k (by omega)
   show (markP C (playN C T os s g k).1 _).ms.length = _
   rw [mark_len _ _ _ (by omega), ih]; omega
theorem sumG_bd (g : List Int) : 0 ≤ sumG g ∧ sumG g ≤ 4294967295 := by
 unfold sumG tn
 constructor <;> omega
theorem playN_ok (h8 : C.n ≤ 8) {m : Nat} (hok : Ok C m s) : ∀ k, Ok C (m + k) (playN C T os s g k).1
 | 0 => hok
 | k + 1 => (playN_ok h8 hok k).mark h8 _ (sumG_bd _)
theorem frontP_le (L : List (List UInt8)) : frontP L ≤ 1000 := by
 unfold frontP
 have : ∀ (l : List (List UInt8)) (m : Nat), l.foldl (fun m l => min m l.length) m ≤ m := fun l => by
  induction l with
  | nil => intro m; exact nl _
  | cons a r ih => intro m; exact Nat.le_trans (ih _) (Nat.min_le_left _ _)
 exact this L 1000
theorem plays_len (hle : s.ms.length ≤ frontP s.L) : (playsP C T os s g).1.ms.length = frontP s.L := by
 have := frontP_le s.L
 unfold playsP
 rw [playN_len _ (by omega)]; omega
theorem plays_L : (playsP C T os s g).1.L = s.L := playN_L _
theorem plays_cl : (playsP C T os s g).1.cl = s.cl := playN_cl _
end
theorem front_grows {L L' : List (List UInt8)} (hl : L'.length = L.length) (h : ∀ (i : Nat) (a b : List UInt8), L[i]? = some a → L'[i]? = some b → a.length ≤ b.length) : frontP L ≤ frontP L' := by
 unfold frontP
 have : ∀ (L L' : List (List UInt8)) (m m' : Nat), m ≤ m' → L'.length = L.length → (∀ (i : Nat) (a b : List UInt8), L[i]? = some a → L'[i]? = some b → a.length ≤ b.length) → L.foldl (fun m l => min m l.length) m ≤ L'.foldl (fun m l => min m l.length) m' := by
  intro L
  induction L with
  | nil => intro L' m m' hm hl _; cases L' with
    | nil => exact hm
    | cons a r => simp at hl
  | cons a r ih => intro L' m m' hm hl h; cases L' with
    | nil => simp at hl
    | cons b r' =>
      have h0 := h 0 a b rfl rfl
      refine ih r' _ _ ?_ (by simpa using hl) (fun i x y hx hy => h (i + 1) x y hx hy)
      show min m a.length ≤ min m' b.length
      omega
 exact this L L' 1000 1000 (nl _) hl h
theorem set_grows {L : List (List UInt8)} {j : Nat} {l : List UInt8} (hle : ((L[j]?).getD []).length ≤ l.length) : frontP L ≤ frontP (L.set j l) := by
 refine front_grows (by simp) fun i a b ha hb => ?_
 rw [List.getElem?_set] at hb
 split at hb
 · rename_i e
   subst e
   split at hb
   · rw [ha] at hle
     obtain rfl := Option.some.inj hb
     exact hle
   · cases hb
 · rw [ha] at hb
   obtain rfl := Option.some.inj hb
   exact nl _
theorem press_front (C : Cf) (s : Pl) (b : UInt8) : frontP s.L ≤ frontP (pressP C s b).2.L := by
 unfold pressP; split
 · exact nl _
 · split
   · exact nl _
   · split
     · exact nl _
     · exact set_grows (by simp)
theorem put_grows (l : List UInt8) (z : Int) (x : List UInt8) : l.length ≤ (putP l z x).2.2.length := by
 unfold putP
 split
 · exact nl _
 · split
   · exact nl _
   · dsimp only
     rw [List.length_append]; omega
theorem recv_front (C : Cf) (s : Pl) (o : Option Pk) : frontP s.L ≤ frontP (recvP C s o).2.L := by
 unfold recvP; split
 · exact nl _
 · split
   · exact nl _
   · split
     · rename_i p h
       show _ ≤ frontP (heldN (tellP C (hearP s p.f.toNat) p) C.n).L
       rw [(heldN_ms _ _).2.1]
       unfold tellP; split
       · exact set_grows (put_grows _ _ _)
       · exact nl _
     · exact nl _
structure Pc where
 x : Nat
 c : Nat
 q : Nat
 C : Cf
 T : ByteArray
 os : List O4
 ov : Value
 tb : List UInt8
 tv : Value
def PB (P : Pc) (k : Nat) : Prop := k = P.x ∨ P.ov.ownBlock = some k ∨ P.tv.ownBlock = some k
structure PFit (P : Pc) : Prop where
 f : Fit P.C
 t : P.T.size ≤ 1000000
 n : P.os.length ≤ 1000
 b : P.tb.length ≤ 1000
structure PX (w0 w : World) (P : Pc) (s : Pl) (g : List Int) (n : Nat) (O : Nat → Prop) : Prop where
 at_ : At w0 w P.C P.c P.q s (fun k => PB P k ∨ O k)
 row : PlR w P.x 154 39 P.c P.T P.ov P.C.g P.C.o P.tv g n
 ops : OO w w0.heap.size P.ov P.os
 tab : OB w w0.heap.size P.tv P.tb
 xo : P.ov.ownBlock ≠ some P.x ∧ P.tv.ownBlock ≠ some P.x
 far : ∀ k, O k → ¬ PB P k
 gm : gam g
theorem At.wrote {w0 w w' : World} {C : Cf} {c q : Nat} {s : Pl} {O : Nat → Prop} (h : At w0 w C c q s O) {k0 : Nat} (hk0 : O k0) (g : w.grownBy w' (some k0)) : At w0 w' C c q s O := by
 obtain ⟨K, e1, e2, e3, e4, h1, h2⟩ := h
 have hl : Lv w w' (fun k => k = k0) := Lv.of_grown g fun k e => (Option.some.inj e).symm
 exact ⟨K, e1, e2, e3, e4, h1.keep hl (fun k e => by rw [e]; exact (h2 k0 hk0).1) (fun k hk e => (h2 k0 hk0).2.2 (e ▸ hk)), fun k hk => ⟨(h2 k hk).1, Nat.lt_of_lt_of_le (h2 k hk).2.1 hl.size, (h2 k hk).2.2⟩⟩
section
variable {w0 w w' : World} {P : Pc} {s s' : Pl} {g g' : List Int} {n n' : Nat} {O O' : Nat → Prop}
theorem PX.be (h : PX w0 w P s g n O) : Below w0.heap.size w0 w := h.at_.be
theorem PX.ob (h : PX w0 w P s g n O) : ∀ k, O k → w0.heap.size ≤ k ∧ k < w.heap.size := fun k hk => h.at_.ob k (.inr hk)
theorem PX.lt (h : PX w0 w P s g n O) {k : Nat} (hk : PB P k) : w0.heap.size ≤ k ∧ k < w.heap.size := h.at_.ob k (.inl hk)
theorem PX.step (h : PX w0 w P s g n O) (a : At w0 w' P.C P.c P.q s' (fun k => PB P k ∨ O k)) (S : Same (fun k => PB P k ∨ O k) w w') : PX w0 w' P s' g n O ∧ Same O w w' :=
 ⟨⟨a, h.row.same (S _ (.inl (.inl rfl))), ownsRow_same h.ops (fun k hk => S k (.inl (.inr (.inl hk)))), ownsRow_same h.tab (fun k hk => S k (.inl (.inr (.inr hk)))), h.xo, h.far, h.gm⟩, fun k hk => S k (.inr hk)⟩
theorem PX.stepB {B : Nat} (h : PX w0 w P s g n O) (a : At w0 w' P.C P.c P.q s' (With (fun k => PB P k ∨ O k) B w'.heap.size)) (S : Same (fun k => PB P k ∨ O k) w w') (hB : w.heap.size ≤ B) : PX w0 w' P s' g n (With O B w'.heap.size) ∧ Same O w w' :=
 ⟨⟨a.less (fun k hk => by
    rcases hk with hk | hk | hk
    · exact .inl (.inl hk)
    · exact .inl (.inr hk)
    · exact .inr hk), h.row.same (S _ (.inl (.inl rfl))), ownsRow_same h.ops (fun k hk => S k (.inl (.inr (.inl hk)))), ownsRow_same h.tab (fun k hk => S k (.inl (.inr (.inr hk)))), h.xo, fun k hk hp => by
      rcases hk with hk | hk
      · exact h.far k hk hp
      · have := (h.lt hp).2; have := hk.1; omega, h.gm⟩, fun k hk => S k (.inr hk)⟩
theorem PX.belows (h : PX w0 w P s g n O) (hb : Below w.heap.size w w') : PX w0 w' P s g n O :=
 (h.step (h.at_.belows hb) (h.at_.same hb)).1
theorem PX.same (h : PX w0 w P s g n O) (hb : Below w.heap.size w w') : Same O w w' := fun k hk => hb.block k (h.ob k hk).2
theorem PX.grab (h : PX w0 w P s g n O) (hb : Below w.heap.size w w') : PX w0 w' P s g n (Grab O w w') := by
 have h2 := h.belows hb
 exact ⟨(h.at_.grab hb).less (fun k hk => by
  rcases hk with hk | hk | hk
  · exact .inl (.inl hk)
  · exact .inl (.inr hk)
  · exact .inr hk), h2.row, h2.ops, h2.tab, h2.xo, fun k hk hp => by
    rcases hk with hk | hk
    · exact h.far k hk hp
    · have := (h.lt hp).2; omega, h2.gm⟩
theorem PX.less (h : PX w0 w P s g n O) (ho : ∀ k, O' k → O k) : PX w0 w P s g n O' :=
 ⟨h.at_.less (fun k hk => hk.imp (fun e => e) (ho k)), h.row, h.ops, h.tab, h.xo, fun k hk => h.far k (ho k hk), h.gm⟩
theorem PX.put (h : PX w0 w P s g n O) (hg : w.grownBy w' (some P.x)) (R : PlR w' P.x 154 39 P.c P.T P.ov P.C.g P.C.o P.tv g' n') (gm : gam g') : PX w0 w' P s g' n' O ∧ Same O w w' :=
 ⟨⟨h.at_.wrote (k0 := P.x) (.inl (.inl rfl)) hg, R, ownsRow_same h.ops (fun k hk => hg.block k (h.lt (.inr (.inl hk))).2 (fun e => h.xo.1 (by rw [hk, e]))), ownsRow_same h.tab (fun k hk => hg.block k (h.lt (.inr (.inr hk))).2 (fun e => h.xo.2 (by rw [hk, e]))), h.xo, h.far, gm⟩, fun k hk => hg.block k (h.ob k hk).2 (fun e => h.far k hk (.inl (Option.some.inj e)))⟩
theorem PX.core (h : PX w0 w P s g n O) : w.cell? ⟨P.x, 0, none⟩ = some (pB P.c) := h.row.core (by omega)
theorem PX.prog (h : PX w0 w P s g n O) : ∃ A cap, P.ov = .slice A P.os.length cap ∧ P.os.length ≤ cap ∧ cap ≤ maxLen ∧ RO w w.heap.size A P.os := OO.form h.ops
theorem PX.table (h : PX w0 w P s g n O) : ∃ A cap, P.tv = .slice A P.tb.length cap ∧ P.tb.length ≤ cap ∧ cap ≤ maxLen ∧ RB w w.heap.size A P.tb := h.tab.form_n _ rfl
end
theorem plain_core (w : World) (x c : Nat) (h : w.cell? ⟨x, 0, none⟩ = some (pB c)) : Calls Tryz.prog 54 #[pB x] w fun e w' => e = .returned (pB c) ∧ w = w' := by
 go_enter Tryz.func54, Tryz.ntmps54
 go_wp2
 go_ret
 exact ⟨rfl, rfl⟩
theorem plain_core_nil (w : World) : Calls Tryz.prog 54 #[.pointer none] w fun e w' => e = .returned (.pointer none) ∧ w = w' := by
 go_enter Tryz.func54, Tryz.ntmps54
 go_wp2
 go_ret
 exact ⟨rfl, rfl⟩
theorem at_joint {w0 w : World} {C : Cf} {c q : Nat} {s : Pl} {O : Nat → Prop} (hf : Fit C) (h : At w0 w C c q s O) {m : Nat} (hok : Ok C m s) (N : Nat) (hN : C.n = N) (f : Int) (j : Nat) (hfj : f = (j : Int)) (hj : j < frontP s.L) :
 Calls Tryz.prog 134 #[pB q, .int .i64 f] w fun e w' => e = .returned (.tuple #[.slice (some ⟨w.heap.size, 0, none⟩) N N, .bool true]) ∧ OB w' w.heap.size (.slice (some ⟨w.heap.size, 0, none⟩) N N) (jointP s.L j) ∧ Below w.heap.size w w' := by
 obtain ⟨K, rfl, rfl, rfl, rfl, h1, h2⟩ := h
 have hl := hok.L
 have := joint_in w K.q K.r K.xs h1.qf.qm N (by rw [h1.xlen, hl, hN]) (by rw [← hN]; exact hf.1) (by rw [← hN]; exact hf.2.1) (frontP K.s.L) (by rw [frontN_P, h1.ln]) f j hfj hj
 rw [jointN_P, h1.ln] at this
 exact this
set_option maxHeartbeats 4000000 in
theorem pknown_any {w0 w : World} {P : Pc} {s : Pl} {g : List Int} {n : Nat} {O : Nat → Prop} (hp : PFit P) (h : PX w0 w P s g n O) {m : Nat} (hok : Ok P.C m s) (tt : Nat) (hto : tt ≤ frontP s.L ∨ tt ≤ n) (z : Int) (hz : z = (tt : Int)) (hn9 : n ≤ 1000) :
 Calls Tryz.prog 107 #[pB P.x, .int .i64 z] w fun e w' => ∃ v ms, e = .returned v ∧ YR w' w.heap.size v ms ∧ ms.map Rl.l = (List.range (tt - n)).map (fun j => jointP s.L (n + j)) ∧ Below w.heap.size w w' ∧ (tt ≤ n → v = .slice none 0 0) := by
 subst hz
 have hto9 : tt ≤ 1000 := by rcases hto with e | e; exact Nat.le_trans e (frontP_le _); omega
 obtain ⟨N, hN⟩ : ∃ N, P.C.n = N := ⟨_, rfl⟩
 have HX : Hid (∀ W, Below w.heap.size w W → PX w0 W P s g n O) := fun W hW => h.belows hW
 have HQ : Hid (∀ W, Below w.heap.size w W → Calls Tryz.prog 59 #[pB P.c] W fun e w' => e = .returned (pB P.q) ∧ W = w') := fun W hW => at_queue (HX.out W hW).at_
 have HJ : Hid (∀ W (f : Int) (j : Nat), Below w.heap.size w W → f = (j : Int) → j < tt → n ≤ j → Calls Tryz.prog 134 #[pB P.q, .int .i64 f] W fun e w' => e = .returned (.tuple #[.slice (some ⟨W.heap.size, 0, none⟩) N N, .bool true]) ∧ OB w' W.heap.size (.slice (some ⟨W.heap.size, 0, none⟩) N N) (jointP s.L j) ∧ Below W.heap.size W w') := fun W f j hW hf hj hnj => at_joint hp.f (HX.out W hW).at_ hok N hN f j hf (by omega)
 obtain ⟨x, hx⟩ : ∃ x, P.x = x := ⟨_, rfl⟩
 obtain ⟨c, hc⟩ : ∃ c, P.c = c := ⟨_, rfl⟩
 obtain ⟨q, hq⟩ : ∃ q, P.q = q := ⟨_, rfl⟩
 have HC0 : Hid (∀ W, Below w.heap.size w W → W.cell? ⟨x, 0, none⟩ = some (pB c) ∧ W.cell? ⟨x, 38, none⟩ = some (.int .i64 (n : Int))) := fun W hW => by
  rw [← hx, ← hc]; exact ⟨(HX.out W hW).core, (HX.out W hW).row.played⟩
 rw [hx]
 rw [hc] at HQ
 rw [hq] at HQ HJ
 obtain ⟨B, hB⟩ : ∃ B, w.heap.size = B := ⟨_, rfl⟩
 rw [hB] at HC0 HQ HJ
 have HBB := qh hB
 rw [hB]
 obtain ⟨c0, c1⟩ := HC0.out w (bR _ _)
 clear h hok hN hx hc hq HX hB
 go_enter Tryz.func107, Tryz.ntmps107
 go_wp2_with fail
 clear c0 c1
 go_loopw [5, 6, 7, 8] (fun v5 v6 v7 v8 wr => ∃ (k : Nat) (ms : List Rl), v6 = .int .i64 (k : Int) ∧ n ≤ k ∧ (k ≤ tt ∨ k = n) ∧ Hid (YR wr B v5 ms) ∧ Hid (ms.map Rl.l = (List.range (k - n)).map (fun j => jointP s.L (n + j))) ∧ Hid (Below B w wr) ∧ Hid (k ≤ n → v5 = .slice none 0 0)) (fun _ v6 _ _ _ => tt - (intOf v6).toNat)
 case atStart => exact ⟨n, [], rfl, nl _, .inr rfl, YR.nil _ _, by show _ = _; rw [Nat.sub_self]; rfl, bR _ _, fun _ => rfl⟩
 case round =>
  obtain ⟨k, ms, rfl, hnk, hkt, HY, HM, HB, HNI⟩ := hrel
  by_cases hlt : k < tt
  · have hz : (k : Int) < (tt : Int) := by omega
    obtain ⟨c0, c1⟩ := HC0.out wr HB.out
    have HQ1 := qh (HQ.out wr HB.out)
    have HJ1 := qh (HJ.out wr (k : Int) k HB.out rfl hlt hnk)
    obtain ⟨Bi, hBi⟩ : ∃ Bi, wr.heap.size = Bi := ⟨_, rfl⟩
    rw [hBi] at HJ1
    have HBi := qh hBi
    have HBBi : Hid (B ≤ Bi) := by show _ ≤ _; rw [← hBi]; have := HB.out.size; rw [HBB.out] at this; exact this
    clear hBi
    go_wp2_with (first
     | (go_at_call 59; (with_reducible refine HQ1.out.mono ?_); rintro e w1 ⟨rfl, rfl⟩)
     | (go_at_call 134; (with_reducible refine HJ1.out.mono ?_); rintro e w2 ⟨rfl, o2, b2⟩; have HO2 := qh o2; have HB2 := qh b2; have hb2s : Hid (Bi ≤ w2.heap.size) := by { have := b2.size; rw [HBi.out] at this; exact this }; clear o2 b2)
     | (at_builtin; (refine wpList_append_rows rfl (.tmp 28) (.tmp 30) rfl B _ (ms.map Rl.v) (.slice (some ⟨Bi, 0, none⟩) N N) rfl (by rw [List.length_map]; exact (HY.out.belows (HB2.out.alloc hb2s.out _) (by rw [HBi.out]; exact nl _)).row) rfl w2.heap.size rfl rfl (by rw [List.length_map]; have h1 := congrArg List.length HM.out; rw [List.length_map, List.length_map, List.length_range] at h1; omega) (Nat.le_trans HBBi.out hb2s.out) ?_; intro v12 w12 r12 g12 e12; have HYn := qh (HY.out.push (.slice (some ⟨Bi, 0, none⟩) N N) (jointP s.L k) Bi HBi.out w2 HB2.out HO2.out g12 r12 e12 HBBi.out).1; have HBn : Hid (Below B w w12) := (HB.out.trans ((HB2.out.alloc hb2s.out _).mono HBBi.out)).grown g12 (by have := hb2s.out; have := HBBi.out; rw [World.size_alloc]; omega) (fun j e => (HY.out.lt (.inl e)).1); clear r12 g12 e12)))
    have hosn : Hid ((ms ++ [(⟨.slice (some ⟨Bi, 0, none⟩) N N, jointP s.L k⟩ : Rl)]).map Rl.l = (List.range (k + 1 - n)).map (fun j => jointP s.L (n + j))) := by
     show _ = _
     rw [List.map_append, HM.out, show k + 1 - n = (k - n) + 1 by omega, List.range_succ, List.map_append]
     show _ ++ [jointP s.L k] = _ ++ [jointP s.L (n + (k - n))]
     rw [show n + (k - n) = k by omega]
    have hms : Hid (tt - (k + 1) < tt - k) := by show _ < _; omega
    have hk2 : Hid (k + 1 ≤ tt) := hlt
    have hno : Hid (k + 1 ≤ n → v12 = .slice none 0 0) := fun e => absurd e (by omega)
    go_roundw
    case rel => exact ⟨k + 1, _, by go_num, by omega, .inl hk2.out, HYn, hosn, HBn, hno⟩
    case measure => simp [intOf]; have := hms.out; omega
  · have hz : ¬ (k : Int) < (tt : Int) := by omega
    have hzd : decide ((k : Int) < (tt : Int)) = false := decide_eq_false hz
    have hke : k - n = tt - n := by omega
    rw [hke] at HM
    go_wp2
    go_ret
    exact ⟨_, rfl, ms, HY.out, HM.out, HB.out, fun e => HNI.out (by omega)⟩
theorem RR.presses {w : World} {B : Nat} {A : Option Addr} {ms : List (List UInt8)} (h : RR w B A ms) : RP w B A ms := fun h0 => by
 obtain ⟨g, a, c, e, hg, -⟩ := h 0 ms[0] (List.getElem?_eq_getElem h0)
 refine ⟨g, 0, e, hg, fun j l hj => ?_⟩
 obtain ⟨g2, a2, c2, e2, hg2, hc2, hr2, hl2, hm2⟩ := h j l hj
 obtain rfl : g = g2 := by rw [e] at e2; injection e2 with e2; injection e2
 exact ⟨a2, c2, by rw [Nat.zero_add]; exact hc2, hr2, hl2, hm2⟩
theorem YR.presses {w : World} {base : Nat} {v : Value} {ms : List Rl} (h : YR w base v ms) (n : Nat) (hn : ms.length = n) : ∃ A c, v = .slice A n c ∧ RP w w.heap.size A (ms.map Rl.l) := by
 obtain ⟨A, c, e, hr⟩ := h.reads n hn
 exact ⟨A, c, e, hr.presses⟩
theorem keepx {w w' : World} {x D : Nat} {cs ds : List Value} {v : Value} (h : w.rangeAt x 1 cs ∧ w.rangeAt x 6 ds ∧ w.cell? ⟨x, 38, none⟩ = some v) (hg : w.grownBy w' (some D)) (hne : x ≠ D) (hlt : x < w.heap.size) : w'.rangeAt x 1 cs ∧ w'.rangeAt x 6 ds ∧ w'.cell? ⟨x, 38, none⟩ = some v := by
 have e := hg.block x hlt (fun e => hne (Option.some.inj e))
 exact ⟨fun j u hj => (World.cell?_of_block (a := ⟨x, _, none⟩) e).trans (h.1 j u hj), fun j u hj => (World.cell?_of_block (a := ⟨x, _, none⟩) e).trans (h.2.1 j u hj), (World.cell?_of_block (a := ⟨x, _, none⟩) e).trans h.2.2⟩
theorem progInfo2 : (Tryz.prog.info? 61).map (·.size) = some 2 := by kernel_rfl
set_option maxHeartbeats 4000000 in
theorem behind_any {w0 w : World} {P : Pc} {s : Pl} {g : List Int} {n : Nat} {O : Nat → Prop} (hp : PFit P) (h : PX w0 w P s g n O) (PA : Option Addr) (ps : List (List UInt8)) (M pc : Nat) (hM : ps.length = M) (hps : RP w w.heap.size PA ps) (hM9 : M ≤ 1000) (hn9 : n ≤ 1000) (G : List Int) (hG : fdN P.T P.os (n : Int) ps g M = G) :
 Calls Tryz.prog 106 #[pB P.x, .slice PA M pc] w fun e w' => e = .returned (.agg (gC G)) ∧ Below w.heap.size w w' := by
 obtain ⟨A, cap, hov, hcap, hcm, hro⟩ := h.prog
 obtain ⟨K, hK⟩ : ∃ K, P.os.length = K := ⟨_, rfl⟩
 rw [hK] at hov hcap
 obtain ⟨W1, hW1⟩ : ∃ W1, W1 = w.alloc (.cells (gC (zG 32)) 152) := ⟨_, rfl⟩
 have b1 : Below w.heap.size w W1 := by rw [hW1]; exact (bR _ _).alloc (nl _) _
 have s1 : W1.heap.size = w.heap.size + 1 := by rw [hW1]; simp
 have g1 : GA W1 w.heap.size 152 (zG 32) := by rw [hW1]; exact GA.new w _ _
 have h1 := h.belows b1
 have hgm : gam G := by rw [← hG]; exact fdN_gam h.gm _
 have gl := h.gm.1
 have r1 := h1.row.prog (by omega); have r2 := h1.row.game (by omega); have r3 := h1.row.played
 rw [hov] at r1
 obtain ⟨x, hx⟩ : ∃ x, P.x = x := ⟨_, rfl⟩
 obtain ⟨T, hT⟩ : ∃ T, P.T = T := ⟨_, rfl⟩
 obtain ⟨os, hos⟩ : ∃ os, P.os = os := ⟨_, rfl⟩
 have ht := hp.t
 have HFo : Hid (∀ W, Below w.heap.size w W → Calls Tryz.prog 133 #[.agg #[.string T, .slice A K cap], .agg (gC g), .int .i64 (n : Int), .slice PA M pc] W fun e w' => e = .returned (.agg (gC G)) ∧ Below W.heap.size W w') := fun W hW => by
  have := fold_from_any W g P.T P.os K hK A cap w.heap.size (hro.below hW) hW.size hcap hcm (by omega) h.gm PA ps M pc hM (hps.then_ (nl _) hW) hM9 (n : Int) (by omega) (by omega) G hG
  rw [hT] at this
  exact this
 rw [hx] at r1 r2 r3 ⊢
 rw [hT] at r1
 obtain ⟨D, hD⟩ : ∃ D, w.heap.size = D := ⟨_, rfl⟩
 rw [hD] at g1 s1 b1
 have HG1 := qh g1; have HS1 := qh s1; have HB1 := qh b1; have HW1 := qh hW1; have HR1 := qh r1; have HR2 := qh r2; have HR3 := qh r3; have HD := qh hD
 have HXD : Hid (x < D) := by rw [← hx, ← hD]; exact h.row.lt
 have HL : Hid (G.length = (zG 32).length) := gam_len hgm
 have HL2 : Hid (G.length = 32) := hgm.1
 have HGL := qh gl
 clear h h1 hro hps hcap hcm hov hK hG hgm r1 r2 r3 g1 s1 b1 hW1 hD ht hM hM9 hp gl hx
 go_enter Tryz.func106, Tryz.ntmps106
 go_upto_region 1 with fail
 generalize hV : World.alloc w _ = V
 obtain rfl : W1 = V := HW1.out.trans hV
 clear hV
 try rw [HD.out]
 have HBd : Hid (Below D w W1.drew) := HB1.out.drew
 have HXS : Hid (x < W1.drew.heap.size) := by show x < W1.heap.size; rw [HS1.out]; have := HXD.out; omega
 have HDS : Hid (D < W1.drew.heap.size) := by show D < W1.heap.size; rw [HS1.out]; omega
 have HXN : Hid (x ≠ D) := by have := HXD.out; show x ≠ D; omega
 refine wp_region_held_drew (S := (fun w' => w'.rangeAt x 1 [.string T, .slice A K cap] ∧ w'.rangeAt x 6 (gC g).toList ∧ w'.cell? ⟨x, 38, none⟩ = some (.int .i64 (n : Int)))) (by kernel_rfl) (⟨HR1.out, HR2.out, HR3.out⟩) (fun hHeld => ?_)
 refine htk (i := 0) (v := ?_) rfl (by kernel_rfl) (fun _ _ _ h => h) (by rfl) hHeld ?_ ?_
 rotate_left 1
 · (intro w hSw; (try dsimp only at hSw); go_simp; try (with_reducible rfl))
 try simp only [Act.put, nB, nC, nD]
 refine htk (i := 1) (v := ?_) rfl (by kernel_rfl) (fun _ _ _ h => h) (by rfl) hHeld ?_ ?_
 rotate_left 1
 · (intro w hSw; (try dsimp only at hSw); go_simp; try (with_reducible rfl))
 try simp only [Act.put, nB, nC, nD]
 refine htk (i := 2) (v := ?_) rfl (by kernel_rfl) (fun _ _ _ h => h) (by rfl) hHeld ?_ ?_
 rotate_left 1
 · (intro w hSw; (try dsimp only at hSw); go_simp; try (with_reducible rfl))
 try simp only [Act.put, nB, nC, nD]
 refine htk (i := 3) (v := .agg #[.string T, .slice A K cap]) rfl (by kernel_rfl) (fun _ _ _ h => h) (by rfl) hHeld (fun W hW => exec_load_mid 61 _ rfl x 1 (by rfl) _ _ Tryz.underlying61 rfl (by rw [progInfo2]; rfl) W hW.1) ?_
 try simp only [Act.put, nB, nC, nD]
 refine htk (i := 4) (v := ?_) rfl (by kernel_rfl) (fun _ _ _ h => h) (by rfl) hHeld ?_ ?_
 rotate_left 1
 · (intro w hSw; (try dsimp only at hSw); go_simp; try (with_reducible rfl))
 try simp only [Act.put, nB, nC, nD]
 refine htk (i := 5) (v := ?_) rfl (by kernel_rfl) (fun _ _ _ h => h) (by rfl) hHeld ?_ ?_
 rotate_left 1
 · (intro w hSw; (try dsimp only at hSw); go_simp; try (with_reducible rfl))
 try simp only [Act.put, nB, nC, nD]
 refine htk (i := 6) (v := ?_) rfl (by kernel_rfl) (fun _ _ _ h => h) (by rfl) hHeld ?_ ?_
 rotate_left 1
 · (intro w hSw; (try dsimp only at hSw); go_simp; try (with_reducible rfl))
 try simp only [Act.put, nB, nC, nD]
 refine htk (i := 7) (v := .agg (gC g)) rfl (by kernel_rfl) (fun _ _ _ h => h) (by rfl) hHeld (fun W hW => exec_load_mid 152 _ rfl x 6 (by rfl) (gC g).toList _ Tryz.underlying152 rfl (by rw [infoState]; simp [gC_size, HGL.out]) W hW.2.1) ?_
 try simp only [Act.put, nB, nC, nD]
 refine htk (i := 8) (v := ?_) rfl (by kernel_rfl) (fun _ _ _ h => h) (by rfl) hHeld ?_ ?_
 rotate_left 1
 · (intro w hSw; (try dsimp only at hSw); go_simp; try (with_reducible rfl))
 try simp only [Act.put, nB, nC, nD]
 refine htk (i := 9) (v := ?_) rfl (by kernel_rfl) (fun _ _ _ h => h) (by rfl) hHeld ?_ ?_
 rotate_left 1
 · (intro w hSw; (try dsimp only at hSw); go_simp; try (with_reducible rfl))
 try simp only [Act.put, nB, nC, nD]
 refine htk (i := 10) (v := ?_) rfl (by kernel_rfl) (fun _ _ _ h => h) (by rfl) hHeld ?_ ?_
 rotate_left 1
 · (intro w hSw; (try dsimp only at hSw); go_simp; try (with_reducible rfl))
 try simp only [Act.put, nB, nC, nD]
 refine htk (i := 11) (v := ?_) rfl (by kernel_rfl) (fun _ _ _ h => h) (by rfl) hHeld ?_ ?_
 rotate_left 1
 · (intro w hSw; (try dsimp only at hSw); go_simp; try (with_reducible rfl))
 try simp only [Act.put, nB, nC, nD]
 refine htk (i := 12) (v := ?_) rfl (by kernel_rfl) (fun _ _ _ h => h) (by rfl) hHeld ?_ ?_
 rotate_left 1
 · (intro w hSw; (try dsimp only at hSw); go_simp; try (with_reducible rfl))
 try simp only [Act.put, nB, nC, nD]
 refine held_one (i := 13) rfl (by kernel_rfl) (by rfl) (fun K hK => ?_)
 go_simp
 refine (HFo.out _ (by rw [HD.out]; exact HBd.out)).mono ?_
 rintro en w3 ⟨rfl, b3⟩
 have HB3 := qh b3
 clear b3
 refine hK.out _ _ (⟨fun j v hj => (HB3.out.cell (p := ⟨x, _, none⟩) HXS.out).trans (HR1.out j v hj), fun j v hj => (HB3.out.cell (p := ⟨x, _, none⟩) HXS.out).trans (HR2.out j v hj), (HB3.out.cell (p := ⟨x, _, none⟩) HXS.out).trans HR3.out⟩) (fun hHeld2 => ?_)
 clear hK K hHeld; have hHeld := hHeld2; clear hHeld2
 try simp only [Act.put, nB, nC, nD]
 refine held_one (i := 14) rfl (by kernel_rfl) (by rfl) (fun K hK => ?_)
 refine wp_store_g 152 (.tmp 4) (.tmp 18) rfl D (by rfl) 152 (zG 32) G (HG1.out.drew.below HB3.out HDS.out) (by rfl) HL.out (by rw [HL2.out]; exact infoState) ?_
 intro w7 G7 S7 R7
 have HG7 := qh G7; have HR7 := qh R7
 clear G7 S7 R7
 refine hK.out _ _ (keepx ⟨fun j v hj => (HB3.out.cell (p := ⟨x, _, none⟩) HXS.out).trans (HR1.out j v hj), fun j v hj => (HB3.out.cell (p := ⟨x, _, none⟩) HXS.out).trans (HR2.out j v hj), (HB3.out.cell (p := ⟨x, _, none⟩) HXS.out).trans HR3.out⟩ HR7.out HXN.out (Nat.lt_of_lt_of_le HXS.out HB3.out.size)) (fun hHeld2 => ?_)
 clear hK K hHeld; have hHeld := hHeld2; clear hHeld2
 try simp only [Act.put, nB, nC, nD]
 refine wpAnyH_done (by kernel_rfl) ?_ _
 clear hHeld
 go_wp2
 have hfin : Below D w w7 := (HBd.out.trans (HB3.out.mono (by have := HDS.out; omega))).grown HR7.out (by have h1 := HB3.out.size; have h2 := HDS.out; omega) (fun k e => by have := Option.some.inj e; omega)
 rw [← HD.out] at hfin
 exact bodyPost_ret (results_g rfl HG7.out rfl Tryz.underlying152 (by rw [HL2.out]; exact infoState)) rfl ⟨rfl, hfin⟩
section
variable {w0 w : World} {P : Pc} {s : Pl} {g : List Int} {n : Nat} {O : Nat → Prop} {ops : Array Oper} {rest : List Oper} {op : Oper} {a : Act} {Q : Exit → Act → World → Prop}
theorem wpList_load_pg (hgd : op.guard = none) (x : Operand) (ho : op.op = .load 152 x) (h : PX w0 w P s g n O) (hx : a.eval x = .pointer (some ⟨P.x, 6, none⟩))
 (hk : wpList Tryz.prog ops Q rest (a.put op.dst (.agg (gC g))) w) : wpList Tryz.prog ops Q (op :: rest) a w := by
 refine wpList_load_mid hgd 152 x ho P.x 6 hx (gC g).toList _ (h.row.game (by omega)) Tryz.underlying152 rfl (by rw [infoState]; simp [gC_size, h.gm.1]) ?_
 simpa using hk
theorem wpList_store_pg (hgd : op.guard = none) (x y : Operand) (ho : op.op = .store 152 x y) (h : PX w0 w P s g n O) (hx : a.eval x = .pointer (some ⟨P.x, 6, none⟩)) (G : List Int) (hy : a.eval y = .agg (gC G)) (hG : gam G)
 (hk : ∀ w', PX w0 w' P s G n O → Same O w w' → wpList Tryz.prog ops Q rest (a.put op.dst undef) w') : wpList Tryz.prog ops Q (op :: rest) a w := by
 refine wpList_store_mid hgd 152 x y ho P.x 6 (gC G) hx hy (by rw [gC_size, hG.1]; exact h.row.there (by omega)) (by rw [gC_size, hG.1]; exact infoState) (gC_one G) ?_
 obtain ⟨h1, h2⟩ := h.put (grown_sets P.x _ 6 w).1 (h.row.set_game hG.1) hG
 exact hk _ h1 h2
theorem wpList_store_pn (hgd : op.guard = none) (x y : Operand) (ho : op.op = .store 3 x y) (h : PX w0 w P s g n O) (hx : a.eval x = .pointer (some ⟨P.x, 38, none⟩)) (N : Nat) (z : Int) (hz : z = (N : Int)) (hy : a.eval y = .int .i64 z)
 (hk : ∀ w', PX w0 w' P s g N O → Same O w w' → wpList Tryz.prog ops Q rest (a.put op.dst undef) w') : wpList Tryz.prog ops Q (op :: rest) a w := by
 subst hz
 refine wpList_plain hgd fun K hK => ?_
 have c1 := h.row.played
 have f1 := h.row.fz 38
 obtain ⟨h1, h2⟩ := h.put (bu_grown w P.x 38 (.int .i64 (N : Int))) h.row.set_played h.gm
 have h3 := hK _ _ (hk _ h1 h2)
 clear hK hk h1 h2 h
 unfold Oper.wp execOp
 simp only [ho, hx, hy]
 go_simp
 exact h3
end
set_option maxHeartbeats 8000000 in
theorem pmark_any {w0 w : World} {P : Pc} {s s' : Pl} {g g' : List Int} {n : Nat} {O : Nat → Prop} (hp : PFit P) (hT : TabW w0) (h : PX w0 w P s g n O) (hn : s.ms.length = n) (hle : n ≤ frontP s.L) {m : Nat} (hok : Ok P.C m s) (hm9 : m ≤ 9000) (hpl : playsP P.C P.T P.os s g = (s', g')) :
 Calls Tryz.prog 98 #[pB P.x] w fun e w' => e = .returned (.tuple #[]) ∧ PX w0 w' P s' g' (frontP s.L) O ∧ Same O w w' := by
 obtain ⟨F, hF⟩ : ∃ F, frontP s.L = F := ⟨_, rfl⟩
 have hF9 : F ≤ 1000 := by rw [← hF]; exact frontP_le _
 rw [hF] at hle ⊢
 unfold playsP at hpl
 rw [hF, hn] at hpl
 have HPF := qh hp; have HT := qh hT; have HX := qh h; have HN := qh hn; have HOK := qh hok; have HPL := qh hpl; have HF := qh hF
 have HCO := qh (plain_core w P.x P.c h.core)
 clear hp hT h hn hok hpl hF
 go_enter Tryz.func98, Tryz.ntmps98
 go_wp2_with (first
  | (go_at_call 54; (with_reducible refine HCO.out.mono ?_); rintro e w1 ⟨rfl, rfl⟩))
 go_loopw [3] (fun v3 wr => ∃ (j : Nat) (sj : Pl) (gj : List Int), n + j ≤ F ∧ Hid (playN P.C P.T P.os s g j = (sj, gj)) ∧ Hid (PX w0 wr P sj gj (n + j) O) ∧ Hid (Same O w wr)) (fun _ wr => F - cntOf (wr.cell? ⟨P.x, 38, none⟩))
 case atStart => exact ⟨0, s, g, by omega, rfl, HX, fun k hk => rfl⟩
 case round =>
  clear HX HCO
  obtain ⟨j, sj, gj, hj, HZ, HX, HS⟩ := hrel
  obtain ⟨N, hN⟩ : ∃ N, n + j = N := ⟨_, rfl⟩
  rw [hN] at hj HX
  have hz1 : playN P.C P.T P.os s g j = (sj, gj) := HZ.out
  have hlen : sj.ms.length = N := by
   have := playN_len (C := P.C) (T := P.T) (os := P.os) (s := s) (g := g) j (by rw [HN.out]; omega)
   rw [hz1, HN.out] at this
   rw [← hN]; exact this
  have hL : sj.L = s.L := by
   have := playN_L (C := P.C) (T := P.T) (os := P.os) (s := s) (g := g) j
   rw [hz1] at this; exact this
  have hokj : Ok P.C (m + j) sj := by
   have := playN_ok (T := P.T) (os := P.os) (g := g) HPF.out.f.2.1 HOK.out j
   rw [hz1] at this; exact this
  have HOJ := qh hokj; have HLEN := qh hlen; have HLL := qh hL
  have HMK := qh (at_marks HX.out.at_ N hlen)
  have HQU := qh (at_queue HX.out.at_)
  have HFR := qh (at_front HPF.out.f HX.out.at_ hokj F (by rw [hL]; exact HF.out))
  have HMS : Hid (cntOf (wr.cell? ⟨P.x, 38, none⟩) = N) := by
   show _ = _; rw [HX.out.row.played]; show ((N : Int)).toNat = N; omega
  by_cases hlt : N < F
  · have hz : (N : Int) < (F : Int) := by omega
    obtain ⟨G, hG⟩ : ∃ G, (frameN ⟨P.T, (N : Int), jointP sj.L N⟩ P.os gj).1 = G := ⟨_, rfl⟩
    have HKN := qh (pknown_any HPF.out HX.out hokj (N + 1) (.inl (by rw [hL, HF.out]; omega)) ((N : Int) + 1) (by omega) (by omega))
    have e1 : (List.range (N + 1 - N)).map (fun j => jointP sj.L (N + j)) = [jointP sj.L N] := by
     rw [show N + 1 - N = 1 by omega]; rfl
    rw [e1] at HKN
    have hfd : fdN P.T P.os (N : Int) [jointP sj.L N] gj 1 = G := by
     rw [← hG]
     show (frameN ⟨P.T, (N : Int) + ((0 : Nat) : Int), _⟩ P.os gj).1 = _
     simp
    have hgam : gam G := by rw [← hG]; exact frameN_gam _ _ HX.out.gm
    have hnext : playN P.C P.T P.os s g (j + 1) = (markP P.C sj (sumG G), G) := by
     show (markP P.C (playN P.C P.T P.os s g j).1 (sumG _), _) = _
     rw [hz1]; dsimp only; rw [hlen, hG]
    have HFD := qh hfd; have HGM := qh hgam; have HNX := qh hnext
    have HSM : Hid (∀ W, Below w0.heap.size w0 W → Calls Tryz.prog 129 #[.agg (gC G)] W fun e w' => e = .returned (.int .u32 (sumG G)) ∧ Below W.heap.size W w') := fun W hW => gsum_any G W hgam.1 hgam.2 (HT.out.below hW HT.out.lt)
    have hm2 : Hid (m + j ≤ 10000) := by show _ ≤ _; omega
    have HND := qh hN
    have hN9 : Hid (N ≤ 1000) := by show _ ≤ _; omega
    clear hlen hL hokj hG e1 hfd hgam hnext hz1 hN
    go_wp2_with (first
     | (go_at_call 58; (with_reducible refine HMK.out.mono ?_); rintro e w1 ⟨rfl, rfl⟩)
     | (go_at_call 59; (with_reducible refine HQU.out.mono ?_); rintro e w1 ⟨rfl, rfl⟩)
     | (go_at_call 60; (with_reducible refine HFR.out.mono ?_); rintro e w1 ⟨rfl, rfl⟩)
     | (go_at_call 107; (with_reducible refine HKN.out.mono ?_); rintro e w2 ⟨v2, ms2, rfl, y2, m2, b2, -⟩; obtain ⟨A2, c2, rfl, p2⟩ := y2.presses 1 (by have := congrArg List.length m2; simpa using this); rw [m2] at p2; have HX2 := qh (HX.out.belows b2); have HP2 := qh p2; have HS2 := qh ((HX.out.same b2)); clear y2 m2 b2 p2)
     | (go_at_call 106; (with_reducible refine (behind_any HPF.out HX2.out A2 [jointP sj.L N] 1 c2 rfl HP2.out (by omega) hN9.out G HFD.out).mono ?_); rintro e w3 ⟨rfl, b3⟩; have HX3 := qh (HX2.out.belows b3); have HS3 : Hid (Same O wr w3) := HS2.out.then_ (HX2.out.same b3); clear b3)
     | (refine wpList_store_pg rfl (.tmp 22) (.tmp 20) rfl HX3.out (by rfl) G (by rfl) HGM.out ?_; intro w4 hx4 hs4; have HX4 := qh hx4; have HS4 := qh (HS3.out.then_ hs4); clear hx4 hs4)
     | (refine wpList_store_pn rfl (.tmp 26) (.tmp 24) rfl HX4.out (by rfl) (N + 1) ((N : Int) + 1) (by omega) (by rfl) ?_; intro w5 hx5 hs5; have HX5 := qh hx5; have HS5 := qh (HS4.out.then_ hs5); clear hx5 hs5)
     | (refine wpList_load_pg rfl (.tmp 30) rfl HX5.out (by rfl) ?_)
     | (go_at_call 129; (with_reducible refine (HSM.out _ HX5.out.be).mono ?_); rintro e w6 ⟨rfl, b6⟩; have HX6 := qh (HX5.out.belows b6); have HS6 : Hid (Same O wr w6) := HS5.out.then_ (HX5.out.same b6); clear b6)
     | (go_at_call 27; (refine (at_mark HPF.out.f HX6.out.at_ HOJ.out hm2.out (sumG G) (sumG_bd G)).mono ?_); rintro e w7 ⟨rfl, a7, s7⟩; obtain ⟨hx7, hs7⟩ := HX6.out.step a7 s7; have HX7 := qh hx7; have HS7 : Hid (Same O wr w7) := HS6.out.then_ hs7; clear a7 s7 hx7 hs7))
    have HSn : Hid (Same O w w7) := HS.out.then_ HS7.out
    have hk2 : Hid (n + (j + 1) ≤ F) := by show _ ≤ _; have := HND.out; omega
    have HX8 : Hid (PX w0 w7 P (markP P.C sj (sumG G)) G (n + (j + 1)) O) := by
     have e : N + 1 = n + (j + 1) := by have := HND.out; omega
     rw [← e]; exact HX7.out
    have HMS7 : Hid (cntOf (w7.cell? ⟨P.x, 38, none⟩) = N + 1) := by
     show _ = _; rw [HX7.out.row.played]; show (((N + 1 : Nat) : Int)).toNat = N + 1; omega
    have hms : Hid (F - (N + 1) < F - N) := by show _ < _; omega
    go_roundw
    case rel => exact ⟨j + 1, _, G, hk2.out, HNX.out, HX8, HSn⟩
    case measure => rw [HMS7.out, HMS.out]; exact hms.out
  · have hz : ¬ (N : Int) < (F : Int) := by omega
    have hzd : decide ((N : Int) < (F : Int)) = false := decide_eq_false hz
    have hNF : N = F := by omega
    have hfin : sj = s' ∧ gj = g' := by
     have h1 := HPL.out
     rw [show F - n = j by omega, hz1] at h1
     injection h1 with h1 h2
     exact ⟨h1, h2⟩
    obtain ⟨rfl, rfl⟩ := hfin
    rw [hNF] at HX
    have HXE := qh HX.out
    clear hlen hL hokj hz1 hNF
    go_wp2_with (first
     | (go_at_call 58; (with_reducible refine HMK.out.mono ?_); rintro e w1 ⟨rfl, rfl⟩)
     | (go_at_call 59; (with_reducible refine HQU.out.mono ?_); rintro e w1 ⟨rfl, rfl⟩)
     | (go_at_call 60; (with_reducible refine HFR.out.mono ?_); rintro e w1 ⟨rfl, rfl⟩))
    go_end0
    exact ⟨rfl, HXE.out, HS.out⟩
section
variable {w0 w : World} {P : Pc} {s s1 s2 : Pl} {g g2 : List Int} {n : Nat} {O : Nat → Prop} {m : Nat}
theorem pmark_after (hp : PFit P) (hT : TabW w0) (h : PX w0 w P s g n O) (hn : s.ms.length = n) (hle : n ≤ frontP s.L) (hok : Ok P.C m s) (hm9 : m ≤ 9000) (hpl : playsP P.C P.T P.os s g = (s2, g2)) {w1 : World} (S : Same O w1 w) :
 Calls Tryz.prog 98 #[pB P.x] w fun e w' => e = .returned (.tuple #[]) ∧ PX w0 w' P s2 g2 (frontP s.L) O ∧ Same O w1 w' :=
 (pmark_any hp hT h hn hle hok hm9 hpl).mono fun e w' ⟨a, b, c⟩ => ⟨a, b, S.then_ c⟩
set_option maxHeartbeats 2000000 in
theorem ppress_any (hp : PFit P) (hT : TabW w0) (h : PX w0 w P s g n O) (hn : s.ms.length = n) (hle : n ≤ frontP s.L) (hok : Ok P.C m s) (hm9 : m ≤ 9000) (b : UInt8) (a : Int) (hpr : pressP P.C s b = (a, s1)) (hpl : playsP P.C P.T P.os s1 g = (s2, g2)) :
 Calls Tryz.prog 44 #[pB P.x, vb b] w fun e w' => e = .returned (.int .i64 a) ∧ PX w0 w' P s2 g2 (frontP s1.L) O ∧ Same O w w' := by
 have HCO := qh (plain_core w P.x P.c h.core)
 have HPR := qh (at_press hp.f h.at_ hok b a s1 hpr)
 have hok1 : Ok P.C m s1 := by have := hok.press b; rw [hpr] at this; exact this
 have hms1 : s1.ms.length = n := by have := press_ms P.C s b; rw [hpr] at this; rw [← hn]; exact congrArg List.length this
 have hle1 : n ≤ frontP s1.L := by have := press_front P.C s b; rw [hpr] at this; exact Nat.le_trans hle this
 have HST : Hid (∀ w', At w0 w' P.C P.c P.q s1 (fun k => PB P k ∨ O k) → Same (fun k => PB P k ∨ O k) w w' → Calls Tryz.prog 98 #[pB P.x] w' fun e w2 => e = .returned (.tuple #[]) ∧ PX w0 w2 P s2 g2 (frontP s1.L) O ∧ Same O w w2) := fun w' a1 s1' => by
  obtain ⟨hx, hs⟩ := h.step a1 s1'
  exact pmark_after hp hT hx hms1 hle1 hok1 hm9 hpl hs
 clear h hn hle hok hpr hpl hT hp hok1 hms1 hle1
 go_enter Tryz.func44, Tryz.ntmps44
 go_wp2_with (first
  | (go_at_call 54; (with_reducible refine HCO.out.mono ?_); rintro e w1 ⟨rfl, rfl⟩)
  | (go_at_call 16; (with_reducible refine HPR.out.mono ?_); rintro e w2 ⟨rfl, a2, s2'⟩; have HM2 := qh (HST.out w2 a2 s2'); clear a2 s2')
  | (go_at_call 98; (with_reducible refine HM2.out.mono ?_); rintro e w3 ⟨rfl, hx3, hs3⟩; have HX3 := qh hx3; have HS3 := qh hs3; clear hx3 hs3))
 go_ret
 exact ⟨rfl, HX3.out, HS3.out⟩
set_option maxHeartbeats 2000000 in
theorem preceive_any (hp : PFit P) (hT : TabW w0) (h : PX w0 w P s g n O) (hn : s.ms.length = n) (hle : n ≤ frontP s.L) (hok : Ok P.C m s) (hm9 : m + 1 ≤ 9000) (A : Option Addr) (l : List UInt8) (L cp : Nat) (hr : RB w w.heap.size A l) (hl : l.length = L) (hc : L ≤ cp) (hm : cp ≤ maxLen) (hL : L ≤ 4096) (o : Option Pk) (ho : Told l o) (a : Int) (hpr : recvP P.C s o = (a, s1)) (hpl : playsP P.C P.T P.os s1 g = (s2, g2)) :
 Calls Tryz.prog 45 #[pB P.x, .slice A L cp] w fun e w' => e = .returned (.int .i64 a) ∧ PX w0 w' P s2 g2 (frontP s1.L) O ∧ Same O w w' := by
 have HCO := qh (plain_core w P.x P.c h.core)
 have HPR := qh (at_recv hp.f h.at_ hok hT (by omega) A l L cp hr hl hc hm hL o ho a s1 hpr)
 have hok1 : Ok P.C (m + 1) s1 := by have := hok.recv hp.f.2.1 o (fun p e => told_bounds ho p e); rw [hpr] at this; exact this
 have hms1 : s1.ms.length = n := by have := recv_ms P.C s o; rw [hpr] at this; rw [← hn]; exact congrArg List.length this
 have hle1 : n ≤ frontP s1.L := by have := recv_front P.C s o; rw [hpr] at this; exact Nat.le_trans hle this
 have HST : Hid (∀ w', At w0 w' P.C P.c P.q s1 (fun k => PB P k ∨ O k) → Same (fun k => PB P k ∨ O k) w w' → Calls Tryz.prog 98 #[pB P.x] w' fun e w2 => e = .returned (.tuple #[]) ∧ PX w0 w2 P s2 g2 (frontP s1.L) O ∧ Same O w w2) := fun w' a1 s1' => by
  obtain ⟨hx, hs⟩ := h.step a1 s1'
  exact pmark_after hp hT hx hms1 hle1 hok1 hm9 hpl hs
 clear h hn hle hok hpr hpl hT hp hok1 hms1 hle1 hr hl hc hm hL ho
 go_enter Tryz.func45, Tryz.ntmps45
 go_wp2_with (first
  | (go_at_call 54; (with_reducible refine HCO.out.mono ?_); rintro e w1 ⟨rfl, rfl⟩)
  | (go_at_call 24; (with_reducible refine HPR.out.mono ?_); rintro e w2 ⟨rfl, a2, s2'⟩; have HM2 := qh (HST.out w2 a2 s2'); clear a2 s2')
  | (go_at_call 98; (with_reducible refine HM2.out.mono ?_); rintro e w3 ⟨rfl, hx3, hs3⟩; have HX3 := qh hx3; have HS3 := qh hs3; clear hx3 hs3))
 go_ret
 exact ⟨rfl, HX3.out, HS3.out⟩
end
end Go.Proofs.YtpnobpligchpiaaGreatDoor
