/- texts of YpTa -/
import Derived.Carry
import Derived.Deep.CutBlock
import Derived.Deep.CutRange
import Derived.Test.YtpnobpligchpiaaGreatDoorYpFb
import Derived.Test.YtpnobpligchpiaaGreatDoorYpFc
import Derived.Test.YtpnobpligchpiaaGreatDoorYpK
import Derived.Test.YtpnobpligchpiaaGreatDoorYpX
namespace Go.Proofs.YtpnobpligchpiaaGreatDoor
set_option maxRecDepth 100000
set_option linter.unusedVariables false
set_option linter.unusedSimpArgs false
def rkA (b : Kd) (r : Nat) (l : List UInt8) : UInt8 := (rk (sc b l)).getD (r % 256) 0
def begP (b : Kd) (r : Nat) (o : Bool) (l : List UInt8) : List UInt8 := if o then l ++ [rkA b r l] else l
def fullP (b : Kd) (r t : Nat) (o : Bool) (l : List UInt8) : List UInt8 := begP b r o l ++ chN b (t - (begP b r o l).length) (begP b r o l)
theorem begP_len (b : Kd) (r : Nat) (o : Bool) (l : List UInt8) : (begP b r o l).length = l.length + (if o then 1 else 0) := by cases o <;> simp [begP]
def First (ls : List (List UInt8)) (f p0 : Nat) : Prop := p0 < ls.length ∧ (ls.getD p0 []).length = f ∧ ∀ p, p < p0 → (ls.getD p []).length ≠ f
def celP (b : Kd) (r t : Nat) (ls : List (List UInt8)) (f p0 i p : Nat) : UInt8 := (fullP b r t (decide (p = p0)) (ls.getD p [])).getD (f + i) 0
def rowP (b : Kd) (r t : Nat) (ls : List (List UInt8)) (f p0 i : Nat) : List UInt8 := (List.range ls.length).map (celP b r t ls f p0 i)
def rowsP (b : Kd) (r t : Nat) (ls : List (List UInt8)) (f p0 : Nat) : List (List UInt8) := (List.range (t - f)).map (rowP b r t ls f p0)
theorem rowsP_len (b : Kd) (r t : Nat) (ls : List (List UInt8)) (f p0 : Nat) : (rowsP b r t ls f p0).length = t - f := by unfold rowsP; simp
open Go.RowKit
def RR (w : World) (B : Nat) (A : Option Addr) (ms : List (List UInt8)) : Prop :=
 ∀ j l, ms[j]? = some l → ∃ g a c, A = some ⟨g, 0, none⟩ ∧ g < B ∧ w.cell? ⟨g, j, none⟩ = some (.slice a l.length c) ∧ RB w B a l ∧ l.length ≤ c ∧ c ≤ maxLen
theorem RR.nil (w : World) (B : Nat) (A : Option Addr) : RR w B A [] := fun j l h => by simp at h
theorem RR.below {w w' : World} {B : Nat} {A : Option Addr} {ms : List (List UInt8)} (h : RR w B A ms) (hb : Below B w w') : RR w' B A ms := fun j l hj => by
 obtain ⟨g, a, c, e, hg, hc, hr, hx⟩ := h j l hj
 exact ⟨g, a, c, e, hg, (hb.cell (p := ⟨g, j, none⟩) hg).trans hc, hr.below hb, hx⟩
theorem RR.more {w : World} {B B' : Nat} {A : Option Addr} {ms : List (List UInt8)} (h : RR w B A ms) (hB : B ≤ B') : RR w B' A ms := fun j l hj => by
 obtain ⟨g, a, c, e, hg, hc, hr, hx⟩ := h j l hj
 exact ⟨g, a, c, e, by omega, hc, hr.more hB, hx⟩
theorem RR.then_ {w w' : World} {B : Nat} {A : Option Addr} {ms : List (List UInt8)} (h : RR w B A ms) (hB : B ≤ w.heap.size) (hb : Below w.heap.size w w') : RR w' w'.heap.size A ms := (h.below (hb.mono hB)).more (Nat.le_trans hB hb.size)
theorem bs_info : (Tryz.prog.info? 33).map (fun i => (i.zero, i.size, i.bytes)) = some (some (.slice none 0 0), 1, 24) := by kernel_rfl
def madeS (k : Nat) : Obj := .cells (madeCells #[.slice none 0 0] k) 33
theorem make_s (k : Nat) (hk : k ≤ 1000) (W : World) : (Instr.makeSlice 73 (.int .i64 (k : Int)) (.int .i64 (k : Int))).run Tryz.prog W = .ok (.slice (some ⟨W.heap.size, 0, none⟩) k k) (W.alloc (madeS k)) :=
 run_make_row' 73 33 (.slice none 0 0) 24 Tryz.underlying73 bs_info rfl .i64 .i64 k (by omega) (by omega) W
def rowF (G n k : Nat) (i : Nat) : Value := if i < k then .slice (some ⟨G + 1 + i, 0, none⟩) n n else .slice none 0 0
structure FR (w : World) (G T n k : Nat) (F : Nat → Nat → UInt8) : Prop where
 row : w.rowIs G 33 T (rowF G n k)
 each : ∀ i, i < k → w.rowIs (G + 1 + i) 5 n (fun p => vb (F i p))
section
variable {w w' : World} {G T n k : Nat} {F F' : Nat → Nat → UInt8}
theorem FR.lt (h : FR w G T n k F) : G < w.heap.size := World.rowIs.lt h.row
theorem FR.lt_row (h : FR w G T n k F) {i : Nat} (hi : i < k) : G + 1 + i < w.heap.size := World.rowIs.lt (h.each i hi)
theorem FR.congr (h : FR w G T n k F) (e : ∀ i p, i < k → p < n → F i p = F' i p) : FR w G T n k F' := ⟨h.row, fun i hi => (h.each i hi).congr fun p hp => by rw [e i p hi hp]⟩
theorem FR.belows (h : FR w G T n k F) (hb : Below w.heap.size w w') : FR w' G T n k F :=
 ⟨World.rowIs.of_block h.row (hb.block _ h.lt), fun i hi => World.rowIs.of_block (h.each i hi) (hb.block _ (h.lt_row hi))⟩
theorem FR.grown (h : FR w G T n k F) {row : Option Nat} (hg : w.grownBy w' row) (hr : ∀ j, row = some j → G + k < j) : FR w' G T n k F :=
 ⟨World.rowIs.of_block h.row (hg.block _ h.lt (fun e => by have := hr _ e.symm; omega)), fun i hi => World.rowIs.of_block (h.each i hi) (hg.block _ (h.lt_row hi) (fun e => by have := hr _ e.symm; omega))⟩
def putF (F : Nat → Nat → UInt8) (i p : Nat) (x : UInt8) : Nat → Nat → UInt8 := fun a b => if a = i ∧ b = p then x else F a b
theorem FR.put (h : FR w G T n k F) (i p : Nat) (hi : i < k) (x : UInt8) : FR (w.setCell ⟨G + 1 + i, p, none⟩ (vb x)) G T n k (putF F i p x) := by
 refine ⟨World.rowIs.setOther h.row (by show G ≠ G + 1 + i; omega) _, fun a ha => ?_⟩
 by_cases e : a = i
 · subst e
   refine (World.rowIs.set (h.each a ha) p (vb x)).congr fun b _ => ?_
   unfold putF
   by_cases c : b = p
   · rw [if_pos c, if_pos ⟨rfl, c⟩]
   · rw [if_neg c, if_neg (fun z => c z.2)]
 · refine (World.rowIs.setOther (h.each a ha) (by show G + 1 + a ≠ G + 1 + i; omega) _).congr fun b _ => ?_
   unfold putF
   rw [if_neg (fun z => e z.1)]
theorem FR.cell (h : FR w G T n k F) (i : Nat) (hi : i < k) (hT : i < T) : w.cell? ⟨G, i, none⟩ = some (.slice (some ⟨G + 1 + i, 0, none⟩) n n) := by
 rw [World.rowIs.cell h.row hT]; unfold rowF; rw [if_pos hi]
theorem FR.byte (h : FR w G T n k F) (i p : Nat) (hi : i < k) (hp : p < n) : w.cell? ⟨G + 1 + i, p, none⟩ = some (vb (F i p)) := World.rowIs.cell (h.each i hi) hp
theorem FR.frozen (h : FR w G T n k F) (i p : Nat) (hi : i < k) : w.frozen? ⟨G + 1 + i, p, none⟩ = false := World.rowIs.frozen (h.each i hi) p
theorem FR.start (w : World) (T n : Nat) : FR (w.alloc (madeS T)) w.heap.size T n 0 (fun _ _ => 0) :=
 ⟨(World.rowIs_made w (.slice none 0 0) T 33).congr fun i _ => by unfold rowF; rw [if_neg (by omega)], fun i hi => by omega⟩
theorem FR.more (h : FR w G T n k (fun _ _ => 0)) (hk : k < T) (hn : n ≤ 3000) (hs : w.heap.size = G + 1 + k) : FR ((w.alloc (madeB n)).setCell ⟨G, k, none⟩ (.slice (some ⟨G + 1 + k, 0, none⟩) n n)) G T n (k + 1) (fun _ _ => 0) := by
 have h1 := h.belows ((bR w.heap.size w).alloc (nl _) (madeB n))
 refine ⟨(World.rowIs.set h1.row k _).congr fun i _ => ?_, fun i hi => ?_⟩
 · unfold rowF
   by_cases e : i = k
   · rw [if_pos e, if_pos (by omega), e]
   · rw [if_neg e]
     by_cases c : i < k
     · rw [if_pos c, if_pos (by omega)]
     · rw [if_neg c, if_neg (by omega)]
 · refine World.rowIs.setOther ?_ (by show G + 1 + i ≠ G; omega) _
   by_cases c : i < k
   · exact h1.each i c
   · obtain rfl : i = k := by omega
     have h2 := World.rowIs_made w (.int .u8 0) n 5
     rw [hs] at h2
     exact h2.congr fun p _ => rfl
theorem FR.reads (h : FR w G T n T F) (hn : n ≤ maxLen) : RR w w.heap.size (some ⟨G, 0, none⟩) ((List.range T).map fun i => (List.range n).map (F i)) := fun j l hj => by
 rw [List.getElem?_map] at hj
 have hjT : j < T := by
  rcases Nat.lt_or_ge j T with c | c
  · exact c
  · rw [List.getElem?_eq_none (by simp; omega)] at hj; cases hj
 rw [List.getElem?_range hjT] at hj
 obtain rfl := Option.some.inj hj
 refine ⟨G, some ⟨G + 1 + j, 0, none⟩, n, rfl, h.lt, by rw [h.cell j hjT hjT]; simp, fun h0 => ⟨G + 1 + j, 0, rfl, h.lt_row hjT, fun p hp => ?_⟩, by simp, hn⟩
 have hp2 : p < n := by simpa using hp
 rw [Nat.zero_add, h.byte j p hjT hp2]
 simp
end
theorem RR.at {w : World} {B : Nat} {A : Option Addr} {ms : List (List UInt8)} (h : RR w B A ms) (j : Nat) (l : List UInt8) (hj : ms[j]? = some l) (L : Nat) (hL : l.length = L) : ∃ g a c, A = some ⟨g, 0, none⟩ ∧ w.cell? ⟨g, j, none⟩ = some (.slice a L c) ∧ RB w B a l := by
 obtain ⟨g, a, c, e, _, hc, hr, _⟩ := h j l hj
 subst hL
 exact ⟨g, a, c, e, hc, hr⟩
open Go.RowKit Go.Maps
set_option maxHeartbeats 1000000 in
theorem index_any (w : World) (base : Nat) (v : Value) (bs : List Bool) (h : OW w base v bs) (n : Nat) (hn : bs.length = n) (hn1 : n ≤ 1000) (p : Nat) (hp : bs[p]? = some false) (hlt : ∀ j, j < p → bs[j]? = some true) :
 Calls Tryz.prog 141 #[v, .bool false] w fun e w' => e = .returned (.int .i64 (p : Int)) ∧ w = w' := by
 obtain ⟨A, c, rfl, hc, hk⟩ := h.form n hn
 have hpn : p < n := by rw [← hn]; exact (List.getElem?_eq_some_iff.1 hp).1
 obtain ⟨g, rfl, -, -⟩ := hk p (by omega)
 have HC : Hid (∀ j (hj : j < bs.length), w.cell? ⟨g, j, none⟩ = some (.bool bs[j])) := fun j hj => by
  obtain ⟨g', e, _, hc'⟩ := hk j hj
  injection e with e; injection e with e
  rw [e]; exact hc'
 have HP := qh hp; have HL := qh hlt; have HN := qh hn
 clear h hk hn hp hlt hc
 go_enter Tryz.func141, Tryz.ntmps141
 go_wp2_with fail
 go_loopw [5, 8] (fun a i wr => ∃ k : Nat, i = .int .i64 (k : Int) ∧ k ≤ p ∧ wr = w) (fun _ i _ => p - (intOf i).toNat)
 case atStart => exact ⟨0, rfl, by omega, rfl⟩
 case round =>
  obtain ⟨k, rfl, hk, rfl⟩ := hrel
  have hkn : (k : Int) < (n : Int) := by omega
  by_cases hlt : k < p
  · have c1 := HC.out k (by rw [HN.out]; omega)
    have e1 : bs[k]'(by rw [HN.out]; omega) = true := by
     have := HL.out k hlt
     rw [List.getElem?_eq_getElem (by rw [HN.out]; omega)] at this
     exact Option.some.inj this
    rw [e1] at c1
    have hk2 : Hid (k + 1 ≤ p) := hlt
    have hms : Hid (p - (k + 1) < p - k) := by show _ < _; omega
    clear e1
    go_wp2
    go_roundw
    case rel => exact ⟨k + 1, by go_num, hk2.out, trivial⟩
    case measure => simp [intOf]; have := hms.out; omega
  · obtain rfl : k = p := by omega
    have c1 := HC.out k (by rw [HN.out]; omega)
    have e1 : bs[k]'(by rw [HN.out]; omega) = false := by
     have := HP.out
     rw [List.getElem?_eq_getElem (by rw [HN.out]; omega)] at this
     exact Option.some.inj this
    rw [e1] at c1
    clear e1
    go_wp2
    go_ret
    exact ⟨rfl, rfl⟩
theorem by_box (w : World) (z o : Int) (A : Option Addr) (X c : Nat) : Box3 (w.alloc (.cells #[.int .i64 z, .int .i64 o, .slice A X c] 146)) w.heap.size z o A X c := box3 (heap_alloc_last w _)
set_option maxHeartbeats 1000000 in
theorem ranked_any (b : Kd) (z o : Int) (hz : z = (b.k : Int)) (ho : o = (b.o : Int)) (A : Option Addr) (X c : Nat) (P : Option Addr) (p : List UInt8) (L pc : Nat) (r : Int) (R : Nat) (hR : r = (R : Int)) (hr : R < 256) (w : World) (hk : KM w b A X c) (hp : PM w P p L pc) (hl : L ≤ 2000) (y : UInt8) (hy : (rk (sc b p)).getD R 0 = y) :
 Calls Tryz.prog 143 #[.agg #[.int .i64 z, .int .i64 o, .slice A X c], .slice P L pc, .int .i64 r] w fun e w' => e = .returned (vb y) ∧ Below w.heap.size w w' := by
 subst hR
 obtain ⟨w2, hw2⟩ : ∃ w2, w.alloc (.cells #[.int .i64 z, .int .i64 o, .slice A X c] 146) = w2 := ⟨_, rfl⟩
 have b2 : Below w.heap.size w w2 := by rw [← hw2]; exact (bR _ _).alloc (nl _) _
 obtain ⟨S, hS⟩ : ∃ S, (rk (sc b p)).take (R + 1) = S := ⟨_, rfl⟩
 have HK := qh (rank_at b z o hz ho A X c P p L pc ((R : Int) + 1) w2 (hk.then_ b2) (hp.then_ b2) hl (R + 1) (by omega) S hS)
 have HS : Hid (S.length = R + 1 ∧ S.getD R 0 = y) := by
  refine ⟨by rw [← hS, List.length_take, rk_len]; omega, ?_⟩
  rw [← hS, ← hy]
  simp only [List.getD, List.getElem?_take, Nat.lt_succ_self, if_true]
 have B2 := qh b2
 rw [← hw2] at HK
 have HW := qh hw2
 clear hk hp b2 hw2 hS hy hz ho
 go_enter Tryz.func143, Tryz.ntmps143
 go_wp2_with fail
 (with_reducible refine HK.out.mono ?_)
 rintro e w3 ⟨⟨g, rfl, -, hR⟩, hb⟩
 rw [HW.out] at hb
 have HB := qh (B2.out.trans (hb.mono B2.out.size))
 obtain ⟨b', off, e, -, hc⟩ := hR (by rw [HS.out.1]; omega)
 injection e with e; injection e with e1 e2
 subst e1 e2
 have c1 := hc R (by rw [HS.out.1]; omega)
 have e3 : S[R]'(by rw [HS.out.1]; omega) = y := by
  have := HS.out.2
  rw [List.getD, List.getElem?_eq_getElem (by rw [HS.out.1]; omega)] at this
  exact this
 rw [e3, Nat.zero_add] at c1
 unfold vb at c1
 have hRz : (R : Int) < (R : Int) + 1 := by omega
 clear hc hR hb e3 HK HW
 go_wp2
 go_ret
 exact ⟨rfl, HB.out⟩
set_option maxHeartbeats 2000000 in
theorem ahead_none (w : World) (q rr : Nat) (xs : List Ln) (h : QM w q rr xs) (n : Nat) (hn : xs.length = n) (h0 : 0 < n) (h8 : n ≤ 8) (F : Nat) (hF : frontN xs = F) (z o : Int) (A : Option Addr) (X c : Nat) (hX : X ≤ maxLen) (r t : Int)
 (hno : r < 0 ∨ t ≤ (F : Int) ∨ 1000 < t ∨ mayB z o X = false) :
 Calls Tryz.prog 110 #[pB q, .agg #[.int .i64 z, .int .i64 o, .slice A X c], .int .i64 r, .int .i64 t] w fun e w' => e = .returned (.slice none 0 0) ∧ Below w.heap.size w w' := by
 obtain ⟨w2, hw2⟩ : ∃ w2, w.alloc (.cells #[.int .i64 z, .int .i64 o, .slice A X c] 146) = w2 := ⟨_, rfl⟩
 have b2 : Below w.heap.size w w2 := by rw [← hw2]; exact (bR _ _).alloc (nl _) _
 have HFr := qh (front_any w2 q rr xs (h.belows b2) (by omega) (by omega) F hF)
 have HN := qh (qn_any w2 q rr xs (h.belows b2) n hn)
 have HM := qh (fun r' hr' => may_at z o A X c w2 hX r' hr')
 have B2 := qh b2
 have HW := qh hw2
 rw [← hw2] at HFr HN HM
 have hnz : ((n : Int) == 0) = false := by simp; omega
 clear h hn hF b2 hw2
 by_cases h1 : r < 0
 · clear hno HM
   go_enter Tryz.func110, Tryz.ntmps110
   go_wp2_with (first
    | (go_at_call 60; with_reducible refine HFr.out.mono ?_; rintro e w3 ⟨rfl, rfl⟩)
    | (go_at_call 116; with_reducible refine HN.out.mono ?_; rintro e w3 ⟨rfl, rfl⟩))
   go_ret
   exact ⟨rfl, by rw [HW.out]; exact B2.out⟩
 by_cases h2 : t ≤ (F : Int)
 · clear hno HM
   go_enter Tryz.func110, Tryz.ntmps110
   go_wp2_with (first
    | (go_at_call 60; with_reducible refine HFr.out.mono ?_; rintro e w3 ⟨rfl, rfl⟩)
    | (go_at_call 116; with_reducible refine HN.out.mono ?_; rintro e w3 ⟨rfl, rfl⟩))
   go_ret
   exact ⟨rfl, by rw [HW.out]; exact B2.out⟩
 by_cases h3 : 1000 < t
 · clear hno HM
   go_enter Tryz.func110, Tryz.ntmps110
   go_wp2_with (first
    | (go_at_call 60; with_reducible refine HFr.out.mono ?_; rintro e w3 ⟨rfl, rfl⟩)
    | (go_at_call 116; with_reducible refine HN.out.mono ?_; rintro e w3 ⟨rfl, rfl⟩))
   go_ret
   exact ⟨rfl, by rw [HW.out]; exact B2.out⟩
 · have h4 : mayB z o X = false := by
    rcases hno with q | q | q | q
    · exact absurd q h1
    · exact absurd q h2
    · exact absurd q h3
    · exact q
   have HM2 := qh (HM.out false h4)
   clear hno HM h4
   go_enter Tryz.func110, Tryz.ntmps110
   go_wp2_with (first
    | (go_at_call 60; with_reducible refine HFr.out.mono ?_; rintro e w3 ⟨rfl, rfl⟩)
    | (go_at_call 116; with_reducible refine HN.out.mono ?_; rintro e w3 ⟨rfl, rfl⟩)
    | (go_at_call 95; with_reducible refine HM2.out.mono ?_; rintro e w3 ⟨rfl, hb⟩; rw [HW.out] at hb; have HB := qh (B2.out.trans (hb.mono B2.out.size)); clear hb))
   go_ret
   exact ⟨rfl, HB.out⟩
open Go.RowKit Go.Maps
theorem OB.away {w w' : World} {base : Nat} {v : Value} {l : List UInt8} {row : Option Nat} (h : OB w base v l) (hg : w.grownBy w' row) (hr : ∀ j, row = some j → j < base) : OB w' base v l := by
 refine World.ownsRow.kept h hg ?_
 cases hv : v.ownBlock with
 | none => exact .inl rfl
 | some k => exact .inr (fun e => by
    have h1 := h.ge k hv
    have h2 := hr k e.symm
    omega)
theorem known_first {xs : List Ln} {F p0 : Nat} (hF : frontN xs = F) (h : First (xs.map Ln.l) F p0) : (knownN xs F)[p0]? = some false ∧ ∀ j, j < p0 → (knownN xs F)[j]? = some true := by
 obtain ⟨h1, h2, h3⟩ := h
 rw [List.length_map] at h1
 have hg : ∀ j (hj : j < xs.length), ((xs.map Ln.l).getD j []).length = xs[j].l.length ∧ (knownN xs F)[j]? = some (decide (F < xs[j].l.length)) := fun j hj => by
  refine ⟨by simp [List.getD, hj], ?_⟩
  unfold knownN
  rw [List.getElem?_map, List.getElem?_eq_getElem hj, Option.map_some]
  congr 1
  simp
 refine ⟨?_, fun j hj => ?_⟩
 · rw [(hg p0 h1).2]
   congr 1
   have := (hg p0 h1).1
   simp; omega
 · have hj2 : j < xs.length := by omega
   rw [(hg j hj2).2]
   congr 1
   have h4 := h3 j hj
   rw [(hg j hj2).1] at h4
   have h5 := frontN_mem xs xs[j] (List.getElem_mem hj2)
   simp; omega
theorem OB.some_n {w : World} {base : Nat} {v : Value} {l : List UInt8} (h : OB w base v l) (N : Nat) (hN : l.length = N) (h0 : 0 < N) : ∃ g cap, v = .slice (some ⟨g, 0, none⟩) N cap ∧ base ≤ g ∧ N ≤ cap ∧ cap ≤ maxLen := by
 subst hN; exact h.some_ h0
def parF (b : Kd) (r t : Nat) (ls : List (List UInt8)) (F p0 k j : Nat) (i p : Nat) : UInt8 := if p < k ∨ (p = k ∧ i < j) then celP b r t ls F p0 i p else 0
theorem parF_zero (b : Kd) (r t : Nat) (ls : List (List UInt8)) (F p0 : Nat) : parF b r t ls F p0 0 0 = fun _ _ => 0 := by
 funext i p
 unfold parF
 rw [if_neg (by omega)]
theorem parF_step (b : Kd) (r t : Nat) (ls : List (List UInt8)) (F p0 k j : Nat) : putF (parF b r t ls F p0 k j) j k (celP b r t ls F p0 j k) = parF b r t ls F p0 k (j + 1) := by
 funext i p
 unfold putF parF
 by_cases c : i = j ∧ p = k
 · obtain ⟨rfl, rfl⟩ := c
   rw [if_pos ⟨rfl, rfl⟩, if_pos (by omega)]
 · rw [if_neg c]
   by_cases d : p < k ∨ (p = k ∧ i < j)
   · rw [if_pos d, if_pos (by omega)]
   · rw [if_neg d, if_neg (by omega)]
theorem parF_next (b : Kd) (r t : Nat) (ls : List (List UInt8)) (F p0 k T : Nat) (i p : Nat) (hi : i < T) : parF b r t ls F p0 k T i p = parF b r t ls F p0 (k + 1) 0 i p := by
 unfold parF
 by_cases d : p < k ∨ (p = k ∧ i < T)
 · rw [if_pos d, if_pos (by omega)]
 · rw [if_neg d, if_neg (by omega)]
theorem parF_all (b : Kd) (r t : Nat) (ls : List (List UInt8)) (F p0 n : Nat) (i p : Nat) (hp : p < n) : parF b r t ls F p0 n 0 i p = celP b r t ls F p0 i p := by
 unfold parF
 rw [if_pos (.inl hp)]
set_option maxHeartbeats 2000000 in
theorem ahead_in (w : World) (q rr : Nat) (xs : List Ln) (h : QM w q rr xs) (n : Nat) (hn : xs.length = n) (h0 : 0 < n) (h8 : n ≤ 8) (F : Nat) (hF : frontN xs = F) (b : Kd) (z o : Int) (hz : z = (b.k : Int)) (ho : o = (b.o : Int)) (A : Option Addr) (X c : Nat) (hk : KM w b A X c) (r t : Nat) (hFt : F < t) (ht : t ≤ 1000) (p0 : Nat) (hp0 : First (xs.map Ln.l) F p0) :
 Calls Tryz.prog 110 #[pB q, .agg #[.int .i64 z, .int .i64 o, .slice A X c], .int .i64 (r : Int), .int .i64 (t : Int)] w fun e w' => ∃ G, e = .returned (.slice (some ⟨G, 0, none⟩) (t - F) (t - F)) ∧ RR w' w'.heap.size (some ⟨G, 0, none⟩) (rowsP b r t (xs.map Ln.l) F p0) ∧ Below w.heap.size w w' := by
 obtain ⟨w2, hw2⟩ : ∃ w2, w.alloc (.cells #[.int .i64 z, .int .i64 o, .slice A X c] 146) = w2 := ⟨_, rfl⟩
 have b2 : Below w.heap.size w w2 := by rw [← hw2]; exact (bR _ _).alloc (nl _) _
 have s2 : w2.heap.size = w.heap.size + 1 := by rw [← hw2]; simp
 have HBX : Hid (Box3 w2 w.heap.size z o A X c) := by rw [← hw2]; exact by_box w z o A X c
 have HQ := qh (h.belows b2)
 have HK := qh (hk.then_ b2)
 have HFr := qh (front_any w2 q rr xs HQ.out (by omega) (by omega) F hF)
 have HN := qh (qn_any w2 q rr xs HQ.out n hn)
 have hmay : mayB z o X = true := by rw [hz, ho]; exact hk.may
 have HM := qh (may_at z o A X c w2 hk.nm true hmay)
 have HKF := qh (known_first hF hp0)
 have HP0 := qh hp0
 have hp0n : p0 < n := by have := hp0.1; rw [List.length_map] at this; omega
 obtain ⟨T, hT⟩ : ∃ T, t - F = T := ⟨_, rfl⟩
 obtain ⟨ls, hls⟩ : ∃ ls, xs.map Ln.l = ls := ⟨_, rfl⟩
 have hlsn : Hid (ls.length = n) := by rw [← hls, List.length_map]; exact hn
 have HLS := qh hls
 rw [hT]
 rw [hls] at HP0 ⊢
 have B2 := qh b2; have S2 := qh s2
 have HW := qh hw2
 have HNn := qh hn
 have HZ := qh hz; have HO := qh ho; have HFF := qh hF
 rw [← hw2] at HFr HN HM
 have hnz : ((n : Int) == 0) = false := by simp; omega
 have hrz : decide ((r : Int) < 0) = false := by simp
 have hr0 : ¬ (r : Int) < 0 := by omega
 have hFt1 : ¬ (t : Int) ≤ (F : Int) := by omega
 have ht1 : ¬ 1000 < (t : Int) := by omega
 have hd1 : decide (t ≤ F) = false := decide_eq_false (by omega)
 have hd2 : decide ((1000 : Int) < (t : Int)) = false := decide_eq_false ht1
 have hd3 : decide ((t : Int) ≤ (F : Int)) = false := decide_eq_false hFt1
 have htF : (t : Int) - (F : Int) = (T : Int) := by omega
 have hT1 : T ≤ 1000 := by omega
 have HT0 : Hid (0 < T) := by show 0 < T; omega
 have HmkT := qh (make_s T hT1)
 have HTF := qh hT
 clear h hk hn hF hw2 b2 s2 hmay hp0 hT hls hz ho
 go_enter Tryz.func110, Tryz.ntmps110
 go_wp2_with (first
  | (go_at_call 60; with_reducible refine HFr.out.mono ?_; rintro e w3 ⟨rfl, rfl⟩)
  | (go_at_call 116; with_reducible refine HN.out.mono ?_; rintro e w3 ⟨rfl, rfl⟩)
  | (go_at_call 95; with_reducible refine HM.out.mono ?_; rintro e w3 ⟨rfl, hb⟩; rw [HW.out] at hb; have HB3 := qh hb; have hmk := HmkT.out w3; clear hb))
 obtain ⟨G, hG⟩ : ∃ G, w3.heap.size = G := ⟨_, rfl⟩
 have HQ3 := qh (HQ.out.belows HB3.out)
 have FR0 : Hid (FR (w3.alloc (madeS T)) G T n 0 (fun _ _ => 0)) := by rw [← hG]; exact FR.start w3 T n
 have BX0 : Hid (Below G w3 (w3.alloc (madeS T))) := (bR _ _).alloc (by rw [hG]; exact nl _) _
 have SZ0 : Hid ((w3.alloc (madeS T)).heap.size = G + 1 + 0) := by show _ = _; rw [World.size_alloc, hG]
 have HG := qh hG
 rw [hG]
 clear hmk hG HFr HN HM HmkT hnz hrz hr0 hFt1 ht1 hd1 hd2 hd3
 go_loopw [11, 46] (fun a i wr => ∃ k : Nat, i = .int .i64 (k : Int) ∧ k ≤ T ∧ Hid (FR wr G T n k (fun _ _ => 0)) ∧ Hid (Below G w3 wr) ∧ Hid (wr.heap.size = G + 1 + k)) (fun _ i _ => T - (intOf i).toNat)
 case atStart => exact ⟨0, rfl, by omega, FR0, BX0, SZ0⟩
 case round =>
  clear FR0 BX0 SZ0
  obtain ⟨k, rfl, hkT, HR, HB, HS⟩ := hrel
  have HQr := qh (HQ3.out.same (fun j hj => HB.out.block j (by rw [← HG.out]; exact HQ3.out.lt hj)))
  by_cases hlt : k < T
  · have HNr := qh (qn_any wr q rr xs HQr.out n HNn.out)
    have hmk := make_b n (by omega) wr
    have h1 := HR.out.belows ((bR wr.heap.size wr).alloc (nl _) (madeB n))
    have c5 := World.rowIs.cell h1.row hlt
    have f5 := World.rowIs.frozen h1.row k
    have H2 : Hid (FR ((wr.alloc (madeB n)).setCell ⟨G, k, none⟩ (.slice (some ⟨wr.heap.size, 0, none⟩) n n)) G T n (k + 1) (fun _ _ => 0)) := by
     have h2 := HR.out.more hlt (by omega) HS.out
     rw [← HS.out] at h2
     exact h2
    have HB2 : Hid (Below G w3 ((wr.alloc (madeB n)).setCell ⟨G, k, none⟩ (.slice (some ⟨wr.heap.size, 0, none⟩) n n))) := (HB.out.alloc (by rw [HS.out]; omega) _).setCell (p := ⟨G, k, none⟩) (nl _) _
    have HS2 : Hid (((wr.alloc (madeB n)).setCell ⟨G, k, none⟩ (.slice (some ⟨wr.heap.size, 0, none⟩) n n)).heap.size = G + 1 + (k + 1)) := by show _ = _; rw [World.size_setCell, World.size_alloc, HS.out]; omega
    unfold rowF at c5
    rw [if_neg (by omega)] at c5
    have hkz : (k : Int) < (T : Int) := by omega
    have hk2 : Hid (k + 1 ≤ T) := hlt
    have hms : Hid (T - (k + 1) < T - k) := by show _ < _; omega
    clear h1
    go_wp2_with (go_at_call 116; with_reducible refine HNr.out.mono ?_; rintro e w4 ⟨rfl, rfl⟩)
    go_roundw
    case rel => exact ⟨k + 1, by go_num, hk2.out, H2, HB2, HS2⟩
    case measure => simp [intOf]; have := hms.out; omega
  · obtain rfl : k = T := by omega
    have HKn := qh (known_any wr q rr xs HQr.out n HNn.out h8 (F : Int))
    go_wp2_with fail
    (with_reducible refine HKn.out.mono ?_)
    rintro e w4 ⟨v4, rfl, o4, hb4⟩
    have HI := qh (index_any w4 wr.heap.size v4 _ o4 n (by rw [knownN_len]; exact HNn.out) (by omega) p0 HKF.out.1 HKF.out.2)
    have hGw : Hid (G ≤ wr.heap.size) := by rw [← HG.out]; exact HB.out.size
    have HB4 := qh (HB.out.trans (hb4.mono hGw.out))
    have HR4 : Hid (FR w4 G k n k (parF b r t ls F p0 0 0)) := by rw [parF_zero]; exact HR.out.belows hb4
    have BXA : Hid (∀ wx, Below G w3 wx → wx.cell? ⟨w.heap.size, 0, none⟩ = some (.int .i64 z) ∧ wx.cell? ⟨w.heap.size, 1, none⟩ = some (.int .i64 o) ∧ wx.cell? ⟨w.heap.size, 2, none⟩ = some (.slice A X c) ∧ Below w.heap.size w wx ∧ KM wx b A X c ∧ QM wx q rr xs) := fun wx hx => by
     have hs3 : w2.heap.size ≤ G := by rw [← HG.out]; exact HB3.out.size
     have h1 : Below w2.heap.size w2 wx := HB3.out.trans (hx.mono hs3)
     obtain ⟨q0, q1, q2⟩ := HBX.out wx (by rw [← S2.out]; exact h1)
     exact ⟨q0, q1, q2, B2.out.trans (h1.mono B2.out.size), HK.out.then_ h1, HQ.out.belows h1⟩
    clear o4 hb4 HR HB HS HQr HKn HBX HQ HK HB3 HQ3 hGw HKF B2 S2 HW
    go_wp2_with fail
    (with_reducible refine HI.out.mono ?_)
    rintro e w5 ⟨rfl, rfl⟩
    have HNr := qh (qn_any w4 q rr xs (BXA.out w4 HB4.out).2.2.2.2.2 n HNn.out)
    clear HI
    go_wp2_with (go_at_call 116; with_reducible refine HNr.out.mono ?_; rintro e w5 ⟨rfl, rfl⟩)
    go_loopw [13, 14, 15, 16, 62] (fun a0 a1 a2 a3 i wr => ∃ p : Nat, i = .int .i64 (p : Int) ∧ p ≤ n ∧ Hid (FR wr G k n k (parF b r t ls F p0 p 0)) ∧ Hid (Below G w3 wr)) (fun _ _ _ _ i _ => n - (intOf i).toNat)
    case atStart => exact ⟨0, rfl, by omega, HR4, HB4⟩
    case round =>
     clear HR4 HB4 HNr
     obtain ⟨p, rfl, hpn, HR, HB⟩ := hrel
     by_cases hlt2 : p < n
     · obtain ⟨x, hx⟩ : ∃ x, xs[p]? = some x := ⟨_, List.getElem?_eq_getElem (by rw [HNn.out]; exact hlt2)⟩
       obtain ⟨hc0, hc1, hc2, -, hK, hQ⟩ := BXA.out wr HB.out
       obtain ⟨hLM, hL1⟩ := hQ.line p x hx
       obtain ⟨l, hl⟩ : ∃ l, x.l = l := ⟨_, rfl⟩
       obtain ⟨L, hL⟩ : ∃ L, l.length = L := ⟨_, rfl⟩
       rw [hl] at hLM hL1
       rw [hL] at hLM hL1
       have hlsp : Hid (ls.getD p [] = l) := by
        show _ = _
        rw [← HLS.out, List.getD, List.getElem?_map, hx]; exact hl
       obtain ⟨B0, hB0⟩ : ∃ B0, wr.heap.size = B0 := ⟨_, rfl⟩
       have hGB : Hid (G + k < B0) := by
        have h1 := HT0.out
        have := HR.out.lt_row (i := k - 1) (by omega)
        show _ < _
        omega
       have HLi := qh (line_in wr q rr xs hQ (p : Int) p rfl x hx)
       have HAl := qh (all_any wr x.b L l hLM hL hL1)
       have HKr := qh hK
       have HLl := qh hL
       have HB00 := qh hB0
       rw [hB0] at HAl
       have hpz : (p : Int) < (n : Int) := by omega
       have hp2 : Hid (p + 1 ≤ n) := hlt2
       have hms : Hid (n - (p + 1) < n - p) := by show _ < _; omega
       clear hx hLM hl hL hK hQ hc0 hc1 hc2 hB0
       go_wp2_with (go_at_call 67; with_reducible refine HLi.out.mono ?_; rintro e w5 ⟨rfl, rfl⟩)
       (with_reducible refine HAl.out.mono ?_)
       rintro e w5 ⟨v5, rfl, o5, hb5⟩
       obtain ⟨A5, c5, rfl, hc5, hm5, r5⟩ := o5.form_n L HLl.out
       rw [← HB00.out] at hb5
       have hP5 := qh (PM.mk (w := w5) (P := A5) (p := l) (L := L) (pc := c5) HLl.out hc5 hm5 r5)
       have hbG5 := qh (HB.out.trans (hb5.mono (by have := hGB.out; rw [HB00.out]; omega)))
       have hK5 := qh (HKr.out.then_ hb5)
       have HO5 := qh o5
       have HB5 : Hid (Below B0 wr w5) := by rw [← HB00.out]; exact hb5
       obtain ⟨L1, hL1e⟩ : ∃ L1, begP b r (decide (p = p0)) l = L1 := ⟨_, rfl⟩
       obtain ⟨l1, hl1⟩ : ∃ l1, L1.length = l1 := ⟨_, rfl⟩
       clear HLi HAl o5 hb5 r5 hc5
       obtain ⟨bb, hbb⟩ : ∃ bb, ((p : Int) == (p0 : Int)) = bb := ⟨_, rfl⟩
       have hbe : bb = decide (p = p0) := by rw [← hbb]; by_cases e : p = p0
                                             · rw [decide_eq_true e, e]; simp
                                             · rw [decide_eq_false e]; simp; omega
       have HBE := qh hbe
       clear hbe
       go_upto_if 71 with fail
       clear hbb
       go_cut [14] from 72 to 79 (fun s14 wx => ∃ A1 c1, s14 = .slice A1 l1 c1 ∧ Hid (OB wx B0 (.slice A1 l1 c1) L1) ∧ Hid (Below B0 wr wx))
       case first =>
        cases bb with
        | true =>
          have e0 : p = p0 := of_decide_eq_true HBE.out.symm
          have hLF : Hid (L = F) := by
           have := HP0.out.2.1
           rw [← e0, hlsp.out, HLl.out] at this
           exact this
          have hLe : Hid (l ++ [rkA b r l] = L1) := by rw [← hL1e, e0, decide_eq_true rfl]; rfl
          obtain ⟨R, hRe⟩ : ∃ R, r % 256 = R := ⟨_, rfl⟩
          have hmod : (r : Int).tmod 256 = (R : Int) := by rw [← hRe]; rfl
          obtain ⟨y, hy⟩ : ∃ y, rkA b r l = y := ⟨_, rfl⟩
          have HRk : Hid (Calls Tryz.prog 143 #[.agg #[.int .i64 z, .int .i64 o, .slice A X c], .slice A5 L c5, .int .i64 (R : Int)] w5 fun e w' => e = .returned (.int .u8 (y.toNat : Int)) ∧ Below w5.heap.size w5 w') := ranked_any b z o HZ.out HO.out A X c A5 l L c5 (R : Int) R rfl (by omega) w5 hK5.out hP5.out (by omega) y (by rw [← hy, ← hRe]; rfl)
          rw [hy] at hLe
          obtain ⟨q0, q1, q2, -, -, -⟩ := BXA.out w5 hbG5.out
          have hl1L : Hid (L + 1 = l1) := by show _ = _; rw [← hl1, ← hLe.out, List.length_append, HLl.out]; rfl
          have hmm : Hid (l.length + [y].length ≤ 140737488355328) := by show _ ≤ _; rw [HLl.out]; simp; omega
          clear hRe hy e0
          go_wp2_with fail
          (with_reducible refine HRk.out.mono ?_)
          rintro e w6 ⟨rfl, hb6⟩
          have hb7 := hb6.alloc hb6.size (.cells #[.int .u8 y.toNat] 5)
          have O6 := qh (HO5.out.below hb7 (nl _))
          have R6 := qh (rb_made w6 y 5 (w6.alloc (.cells #[.int .u8 y.toNat] 5)).heap.size (by simp))
          have HB7 := qh (HB5.out.trans (hb7.mono (by rw [← HB00.out]; exact HB5.out.size)))
          have hB7s : Hid (B0 ≤ (w6.alloc (.cells #[.int .u8 y.toNat] 5)).heap.size) := by rw [← HB00.out]; exact HB7.out.size
          clear hb6 hb7 HRk
          go_wp2_with (at_builtin; refine wpList_append_bytes rfl (.tmp 72) (.tmp 78) rfl B0 _ l [y] rfl O6.out _ _ _ rfl R6.out hmm.out hB7s.out ?_; intro v8 w8 o8 g8 e8; rw [hLe.out] at o8; have HB8 := qh (HB7.out.grown g8 hB7s.out O6.out.ge); obtain ⟨A8, c8, rfl, -, -, -⟩ := o8.form_n l1 hl1; have O8 := qh o8; clear o8 g8 e8)
          go_meet
          exact ⟨A8, c8, rfl, O8, HB8⟩
        | false =>
          have e0 : ¬ p = p0 := of_decide_eq_false HBE.out.symm
          have hLe : Hid (l = L1) := by rw [← hL1e, decide_eq_false e0]; rfl
          have hl1L : Hid (L = l1) := by show _ = _; rw [← hl1, ← hLe.out, HLl.out]
          have O5 : Hid (OB w5 B0 (.slice A5 l1 c5) L1) := by rw [← hl1L.out, ← hLe.out]; exact HO5.out
          go_wp2_with fail
          go_meet
          exact ⟨A5, c5, by rw [hl1L.out], O5, HB5⟩
       case rest =>
        obtain ⟨A1, c1, rfl, HO1, HB1⟩ := hcut
        obtain ⟨w6, hw6⟩ : ∃ w6, wc = w6 := ⟨_, rfl⟩
        rw [hw6] at HO1 HB1 ⊢
        clear hw6 HO5 HB5 hP5 hK5 hbG5
        have hl1t : Hid (l1 ≤ 1000) := by
         show _ ≤ _
         rw [← hl1, ← hL1e, begP_len, HLl.out]
         by_cases e0 : p = p0
         · have := HP0.out.2.1
           rw [← e0, hlsp.out, HLl.out] at this
           rw [decide_eq_true e0]; simp; omega
         · rw [decide_eq_false e0]; simp; omega
        have hbG6 := qh (HB.out.trans (HB1.out.mono (by have := hGB.out; omega)))
        obtain ⟨q0, q1, q2, -, hK6, -⟩ := BXA.out w6 hbG6.out
        obtain ⟨A', cc', e1, hc1, hm1, r1⟩ := HO1.out.form_n l1 hl1
        injection e1 with e1 e2 e3
        subst e1 e3
        obtain ⟨m, hm⟩ : ∃ m, t - l1 = m := ⟨_, rfl⟩
        obtain ⟨d, hd⟩ : ∃ d, chN b m L1 = d := ⟨_, rfl⟩
        have hdl : Hid (d.length = m) := by rw [← hd]; exact chN_len b m L1
        have HCH : Hid (Calls Tryz.prog 144 #[.agg #[.int .i64 z, .int .i64 o, .slice A X c], .slice A1 l1 c1, .int .i64 ((t : Int) - (l1 : Int))] w6 fun e w' => (∃ A2 c2, e = .returned (.slice A2 d.length c2) ∧ m ≤ c2 ∧ c2 ≤ maxLen ∧ RB w' w'.heap.size A2 d) ∧ Below w6.heap.size w6 w') := by
         have := chain_at b z o HZ.out HO.out A X c A1 L1 l1 c1 ((t : Int) - (l1 : Int)) w6 hK6 (PM.mk hl1 hc1 hm1 r1) hl1t.out m (by have := hl1t.out; omega) d hd
         rw [hdl.out]; exact this
        obtain ⟨fl, hfl⟩ : ∃ fl, L1 ++ d = fl := ⟨_, rfl⟩
        have hfull : Hid (fullP b r t (decide (p = p0)) l = fl) := by rw [← hfl, ← hd, ← hm, ← hL1e]; show _ = _; unfold fullP; rw [← hl1, ← hL1e]
        have hfll : Hid (t ≤ fl.length) := by show _ ≤ _; rw [← hfl, List.length_append, hl1, hdl.out]; omega
        have hmm : Hid (L1.length + d.length ≤ 140737488355328) := by show _ ≤ _; rw [hl1, hdl.out]; have := hl1t.out; omega
        have hl1o : l1 ≤ 1000 := hl1t.out
        obtain ⟨N, hN⟩ : ∃ N, fl.length = N := ⟨_, rfl⟩
        have hNt : t ≤ N := by rw [← hN]; exact hfll.out
        have HN1 := qh hN
        have HFL := qh hfl
        clear hK6 hc1 hm1 r1 hd hm hl1t hfl hN hfll
        go_wp2_with fail
        (with_reducible refine HCH.out.mono ?_)
        rintro e w7 ⟨⟨A2, c2, rfl, -, -, r2⟩, hb7⟩
        have O7 := qh (HO1.out.below hb7 (nl _))
        have R7 := qh r2
        have hB6s : Hid (B0 ≤ w6.heap.size) := by rw [← HB00.out]; exact HB1.out.size
        have HB7 := qh (HB1.out.trans (hb7.mono hB6s.out))
        have hB7s : Hid (B0 ≤ w7.heap.size) := Nat.le_trans hB6s.out hb7.size
        clear hb7 r2 HCH HO1 q0 q1 q2
        have hTn : t - F = k := HTF.out
        have hFt2 : (F : Int) ≤ (t : Int) := by omega
        go_wp2_with (at_builtin; refine wpList_append_bytes rfl (.tmp 80) (.tmp 87) rfl B0 _ L1 d rfl O7.out _ _ _ rfl R7.out hmm.out hB7s.out ?_; intro v8 w8 o8 g8 e8; rw [HFL.out] at o8; have HB8 := qh (HB7.out.grown g8 hB7s.out O7.out.ge); obtain ⟨g, c9, rfl, hg9, hc9, hm9⟩ := o8.some_n N HN1.out (by omega); have O8 := qh o8; have HG9 := qh hg9; have hcap : ¬ c9 = F := (by omega); have htc : (t : Int) ≤ (c9 : Int) := (by omega); clear o8 g8 e8 hg9)
        have HR8 : Hid (FR w8 G k n k (parF b r t ls F p0 p 0)) := HR.out.belows (by rw [HB00.out]; exact HB8.out)
        have HBG8 := qh (HB.out.trans (HB8.out.mono (by have := hGB.out; omega)))
        clear HR HB HB1 HB7 HB8 O7 R7 hB7s hB6s hbG6 hmm hcap htc hc9 hm9 hFt2 hTn hl1o
        go_loopw [15, 16, 94] (fun a0 a1 i wr2 => ∃ j : Nat, i = .int .i64 (j : Int) ∧ j ≤ k ∧ Hid (FR wr2 G k n k (parF b r t ls F p0 p j)) ∧ Hid (OB wr2 B0 (.slice (some ⟨g, 0, none⟩) N c9) fl) ∧ Hid (Below G w3 wr2)) (fun _ _ i _ => k - (intOf i).toNat)
        case atStart => exact ⟨0, rfl, by omega, HR8, O8, HBG8⟩
        case round =>
         clear HR8 O8 HBG8
         obtain ⟨j, rfl, hjk, HR, HO, HB⟩ := hrel
         by_cases hlt3 : j < k
         · have hFj : F + j < fl.length := by rw [HN1.out]; have := HTF.out; omega
           obtain ⟨y, hy⟩ : ∃ y, celP b r t ls F p0 j p = y := ⟨_, rfl⟩
           have hyf : fl[F + j] = y := by
            rw [← hy]
            unfold celP
            rw [hlsp.out, hfull.out, List.getD, List.getElem?_eq_getElem hFj]; rfl
           have c7 := HO.out.cell_at HN1.out (F + j) hFj
           rw [hyf] at c7
           have c8 := HR.out.cell j hlt3 hlt3
           have c9' := HR.out.byte j p hlt3 hlt2
           have f9 := HR.out.frozen j p hlt3
           have H2 : Hid (FR (wr.setCell ⟨G + 1 + j, p, none⟩ (vb y)) G k n k (parF b r t ls F p0 p (j + 1))) := by
            have := HR.out.put j p hlt3 y
            rw [← hy, parF_step, hy] at this
            exact this
           have HO2 : Hid (OB (wr.setCell ⟨G + 1 + j, p, none⟩ (vb y)) B0 (.slice (some ⟨g, 0, none⟩) N c9) fl) := HO.out.away (fgrown_set wr (G + 1 + j) p (vb y)) (fun i hi => by cases hi; have := hGB.out; omega)
           have HB2 : Hid (Below G w3 (wr.setCell ⟨G + 1 + j, p, none⟩ (vb y))) := HB.out.setCell (by show G ≤ G + 1 + j; omega) _
           unfold vb at c7 c9' H2 HO2 HB2
           obtain ⟨yz, hyz⟩ : ∃ yz : Int, (y.toNat : Int) = yz := ⟨_, rfl⟩
           rw [hyz] at c7 H2 HO2 HB2
           have hjz : (j : Int) < (k : Int) := by omega
           have hj2 : Hid (j + 1 ≤ k) := hlt3
           have hms2 : Hid (k - (j + 1) < k - j) := by show _ < _; omega
           clear hy hyf hyz hFj
           go_wp2
           go_roundw
           case rel => exact ⟨j + 1, by go_num, hj2.out, H2, HO2, HB2⟩
           case measure => simp [intOf]; have := hms2.out; omega
         · obtain rfl : j = k := by omega
           have H2 : Hid (FR wr G j n j (parF b r t ls F p0 (p + 1) 0)) := HR.out.congr (fun i a hi _ => parF_next b r t ls F p0 p j i a hi)
           clear HR HO
           go_wp2
           go_roundw
           case rel => exact ⟨p + 1, by go_num, hp2.out, H2, HB⟩
           case measure => simp [intOf]; have := hms.out; omega
     · obtain rfl : p = n := by omega
       have hfin : RR wr wr.heap.size (some ⟨G, 0, none⟩) (rowsP b r t ls F p0) := by
        have h1 := (HR.out.congr (F' := celP b r t ls F p0) (fun i a _ ha => parF_all b r t ls F p0 p i a ha)).reads (by unfold maxLen; omega)
        unfold rowsP rowP
        rw [HTF.out, hlsn.out]
        exact h1
       have HFin := qh hfin
       have HBF := qh (BXA.out wr HB.out).2.2.2.1
       clear hfin HR HB
       go_wp2
       go_ret
       exact ⟨G, rfl, HFin.out, HBF.out⟩
open Go.RowKit Go.Maps
def aheadG (may : Bool) (b : Kd) (r t : Int) (ls : List (List UInt8)) (F p0 : Nat) : List (List UInt8) := if 0 ≤ r ∧ (F : Int) < t ∧ t ≤ 1000 ∧ may = true then rowsP b r.toNat t.toNat ls F p0 else []
theorem ahead_gen (w : World) (q rr : Nat) (xs : List Ln) (h : QM w q rr xs) (n : Nat) (hn : xs.length = n) (h0 : 0 < n) (h8 : n ≤ 8) (F : Nat) (hF : frontN xs = F) (z o : Int) (A : Option Addr) (X c : Nat) (tb : List UInt8) (hp : PM w A tb X c) (r t : Int) (p0 : Nat) (hp0 : F < 1000 → First (xs.map Ln.l) F p0) (may : Bool) (hmay : mayB z o X = may) (R : List (List UInt8)) (hR : aheadG may ⟨z.toNat, o.toNat, tb⟩ r t (xs.map Ln.l) F p0 = R) :
 Calls Tryz.prog 110 #[pB q, .agg #[.int .i64 z, .int .i64 o, .slice A X c], .int .i64 r, .int .i64 t] w fun e w' => ∃ A' c', e = .returned (.slice A' R.length c') ∧ RR w' w'.heap.size A' R ∧ Below w.heap.size w w' := by
 unfold aheadG at hR
 by_cases hc : 0 ≤ r ∧ (F : Int) < t ∧ t ≤ 1000 ∧ may = true
 · rw [if_pos hc] at hR
   obtain ⟨c1, c2, c3, c4⟩ := hc
   rw [c4] at hmay
   have hFt : F < t.toNat := by omega
   obtain ⟨hk, hz, ho⟩ : KM w (Kd.mk z.toNat o.toNat tb) A X c ∧ z = (((Kd.mk z.toNat o.toNat tb).k : Nat) : Int) ∧ o = (((Kd.mk z.toNat o.toNat tb).o : Nat) : Int) := by
    have h1 := of_decide_eq_true hmay
    have hl := hp.len
    refine ⟨⟨?_, hp.len, hp.nc, hp.cm, hp.t⟩, ?_, ?_⟩
    · unfold Kd.ok
      simp only
      rcases h1 with ⟨q1, q2, q3⟩ | ⟨q1, q2, q3, q4⟩ | ⟨q1, q2, q3, q4⟩
      · exact .inl ⟨by omega, by omega, List.eq_nil_of_length_eq_zero (by omega)⟩
      · exact .inr (.inl ⟨by omega, by omega, List.eq_nil_of_length_eq_zero (by omega)⟩)
      · exact .inr (.inr ⟨by omega, by omega, by omega, by omega⟩)
    · show z = ((z.toNat : Nat) : Int); omega
    · show o = ((o.toNat : Nat) : Int); omega
   have hr : r = (r.toNat : Int) := by omega
   have ht : t = (t.toNat : Int) := by omega
   have := ahead_in w q rr xs h n hn h0 h8 F hF _ z o hz ho A X c hk r.toNat t.toNat hFt (by omega) p0 (hp0 (by omega))
   rw [← hr, ← ht] at this
   refine this.mono fun e w' ⟨G, he, h2, h3⟩ => ⟨some ⟨G, 0, none⟩, t.toNat - F, by rw [he, ← hR, rowsP_len], by rw [← hR]; exact h2, h3⟩
 · rw [if_neg hc] at hR
   subst hR
   have hX : X ≤ maxLen := Nat.le_trans hp.nc hp.cm
   refine (ahead_none w q rr xs h n hn h0 h8 F hF z o A X c hX r t ?_).mono fun e w' ⟨he, hb⟩ => ⟨none, 0, he, RR.nil _ _ _, hb⟩
   by_cases q1 : r < 0
   · exact .inl q1
   by_cases q2 : t ≤ (F : Int)
   · exact .inr (.inl q2)
   by_cases q3 : 1000 < t
   · exact .inr (.inr (.inl q3))
   · refine .inr (.inr (.inr ?_))
     cases may with
     | true => exact absurd ⟨by omega, by omega, by omega, rfl⟩ hc
     | false => exact hmay
def ls56 : List (List UInt8) := [[5, 6], []]
set_option maxHeartbeats 4000000 in
theorem g1 : aheadG true kL 0 3 ls56 0 1 = [[5, 0], [6, 0], [6, 0]] := by decide +kernel
set_option maxHeartbeats 4000000 in
theorem g2 : aheadG true kL 1 2 ls56 0 1 = [[5, 1], [6, 1]] := by decide +kernel
end Go.Proofs.YtpnobpligchpiaaGreatDoor
