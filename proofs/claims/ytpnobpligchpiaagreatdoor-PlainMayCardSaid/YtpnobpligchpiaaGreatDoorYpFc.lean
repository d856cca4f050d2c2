/- texts of YpFc -/
import Derived.Carry
import Derived.Deep.CutBlock
import Derived.Deep.CutRange
import Derived.Deep.OwnRows
import Derived.Maps.Keyed
import Derived.Maps.OwnSet
import Derived.Test.YtpnobpligchpiaaGreatDoorYpFb
import Derived.Test.YtpnobpligchpiaaGreatDoorYpK
namespace Go.Proofs.YtpnobpligchpiaaGreatDoor
set_option maxRecDepth 100000
open Go.RowKit
set_option linter.unusedVariables false
set_option linter.unusedSimpArgs false
theorem make_256 (W : World) : (Instr.makeSlice 33 (.int .i64 256) (.int .i64 256)).run Tryz.prog W = .ok (.slice (some ⟨W.heap.size, 0, none⟩) 256 256) (W.alloc (madeB 256)) := make_b 256 (by omega) W
def upto (i : Nat) : Nat → UInt8 := fun v => if v < i then id8 v else 0
theorem upto_zero : rL (upto 0) = List.replicate 256 0 := by decide
theorem upto_step (i : Nat) : updF (upto i) i (id8 i) = upto (i + 1) := by
 funext v
 unfold updF upto
 by_cases c : v = i
 · rw [if_pos c, c, if_pos (by omega)]
 · rw [if_neg c]
   by_cases c2 : v < i
   · rw [if_pos c2, if_pos (by omega)]
   · rw [if_neg c2, if_neg (by omega)]
theorem upto_all : rL (upto 256) = rL id8 := by
 unfold rL
 refine List.map_congr_left (fun v hv => ?_)
 unfold upto; rw [if_pos (List.mem_range.1 hv)]
theorem OB.rb {w : World} {base g n c : Nat} {l : List UInt8} (h : OB w base (.slice (some ⟨g, 0, none⟩) n c) l) (m : Nat) (hn : l.length = n) : RB w w.heap.size (some ⟨g, 0, none⟩) (l.take m) := by
 subst hn
 exact h.cells.take m
structure KM (w : World) (b : Kd) (A : Option Addr) (n c : Nat) : Prop where
 ok : b.ok
 len : b.tb.length = n
 nc : n ≤ c
 cm : c ≤ maxLen
 t : RB w w.heap.size A b.tb
theorem KM.then_ {w w' : World} {b : Kd} {A : Option Addr} {n c : Nat} (h : KM w b A n c) (hb : Below w.heap.size w w') : KM w' b A n c := ⟨h.ok, h.len, h.nc, h.cm, RB.more (h.t.below hb) hb.size⟩
theorem KM.may {w : World} {b : Kd} {A : Option Addr} {n c : Nat} (h : KM w b A n c) : mayB b.k b.o n = true := by
 have h1 := h.ok
 have h2 := h.len
 unfold Kd.ok at h1
 refine mayB_t ?_
 rcases h1 with ⟨q1, q2, q3⟩ | ⟨q1, q2, q3⟩ | ⟨q1, q2, q3, q4⟩
 · rw [q3] at h2; simp at h2; omega
 · rw [q3] at h2; simp at h2; omega
 · omega
theorem KM.nm {w : World} {b : Kd} {A : Option Addr} {n c : Nat} (h : KM w b A n c) : n ≤ maxLen := Nat.le_trans h.nc h.cm
structure PM (w : World) (P : Option Addr) (p : List UInt8) (L pc : Nat) : Prop where
 len : p.length = L
 nc : L ≤ pc
 cm : pc ≤ maxLen
 t : RB w w.heap.size P p
theorem PM.then_ {w w' : World} {P : Option Addr} {p : List UInt8} {L pc : Nat} (h : PM w P p L pc) (hb : Below w.heap.size w w') : PM w' P p L pc := ⟨h.len, h.nc, h.cm, RB.more (h.t.below hb) hb.size⟩
set_option maxHeartbeats 2000000 in
theorem rank_any (b : Kd) (A : Option Addr) (n c : Nat) (P : Option Addr) (p : List UInt8) (L pc : Nat) (k : Int) (w : World) (hk : KM w b A n c) (hp : PM w P p L pc) (hl : L ≤ 2000) (m : Nat) (hm : min (max k 0) 256 = (m : Int)) :
 Calls Tryz.prog 169 #[byV b.k b.o A n c, .slice P L pc, .int .i64 k] w fun e w' => (∃ g, e = .returned (.slice (some ⟨g, 0, none⟩) m 256) ∧ w.heap.size ≤ g ∧ RB w' w'.heap.size (some ⟨g, 0, none⟩) ((rk (sc b p)).take m)) ∧ Below w.heap.size w w' := by
 have hz := zeroN
 have hmk := make_256
 obtain ⟨w2, hw2⟩ : ∃ w2, w.alloc (.cells #[.int .i64 b.k, .int .i64 b.o, .slice A n c] 146) = w2 := ⟨_, rfl⟩
 have b2 : Below w.heap.size w w2 := by rw [← hw2]; exact (bR _ _).alloc (nl _) _
 have hbox : w2.heap[w.heap.size]? = some (.cells (byA b.k b.o A n c) 146 (0, 0)) := by
  rw [← hw2]
  exact heap_alloc_last w (.cells #[.int .i64 b.k, .int .i64 b.o, .slice A n c] 146)
 have s2 : w2.heap.size = w.heap.size + 1 := by rw [← hw2]; simp
 have HM := qh (pmay_any b.k b.o A n c w2 hk.nm)
 rw [hk.may, ← hw2] at HM
 have HW := qh hw2
 have B2 := qh b2; have HBX := qh hbox; have S2 := qh s2
 have HK := qh (hk.then_ b2)
 have HP := qh (hp.then_ b2)
 have HMm := qh hm
 obtain ⟨S, hS⟩ : ∃ S, sc b p = S := ⟨_, rfl⟩
 rw [hS]
 have HSc := qh hS
 clear hw2 b2 hbox s2 hk hp hm hS
 unfold byV byA at HM ⊢
 go_enter Tryz.func169, Tryz.ntmps169
 go_wp2_with fail
 (with_reducible refine HM.out.mono ?_)
 rintro e w3 ⟨rfl, hb3⟩
 rw [HW.out] at hb3
 have c0 : w3.cell? ⟨w.heap.size, 0, none⟩ = some (.int .i64 b.k) := (hb3.cell (p := ⟨w.heap.size, 0, none⟩) (by show w.heap.size < _; rw [S2.out]; omega)).trans (cell_of_row _ _ _ _ _ _ HBX.out)
 have c1 : w3.cell? ⟨w.heap.size, 1, none⟩ = some (.int .i64 b.o) := (hb3.cell (p := ⟨w.heap.size, 1, none⟩) (by show w.heap.size < _; rw [S2.out]; omega)).trans (cell_of_row _ _ _ _ _ _ HBX.out)
 have c2 : w3.cell? ⟨w.heap.size, 2, none⟩ = some (.slice A n c) := (hb3.cell (p := ⟨w.heap.size, 2, none⟩) (by show w.heap.size < _; rw [S2.out]; omega)).trans (cell_of_row _ _ _ _ _ _ HBX.out)
 have HK3 := qh (HK.out.then_ hb3)
 have HP3 := qh (HP.out.then_ hb3)
 have HB3 := qh (B2.out.trans (hb3.mono B2.out.size))
 have HE := qh (scores_any b A n c P p L pc w3 HK3.out.ok HK3.out.len HK3.out.nc HK3.out.cm HK3.out.t HP3.out.len HP3.out.nc HP3.out.cm HP3.out.t hl)
 rw [HSc.out] at HE
 unfold byV byA at HE
 clear hb3 HM HK HP
 go_wp2_with fail
 (with_reducible refine HE.out.mono ?_)
 rintro e w5 ⟨rfl, hb5⟩
 have HB5 := qh (HB3.out.trans (hb5.mono HB3.out.size))
 have g6 : GN (w5.alloc (.cells (aN z256) 203)) w5.heap.size z256 := GN.new w5 z256
 clear hb5 HE c0 c1 c2
 go_wp2_with (with_reducible refine wpList_store_n rfl (.tmp 7) (.tmp 15) rfl w5.heap.size (by with_unfolding_all rfl) z256 S g6 (by with_unfolding_all rfl) ?_; intro w7 G7 S7 R7)
 obtain ⟨s, hs⟩ : ∃ s, w5.heap.size = s := ⟨_, rfl⟩
 have s7 : w7.heap.size = s + 1 := by rw [S7, ← hs]; simp
 have hsw : w.heap.size ≤ s := by rw [← hs]; exact HB5.out.size
 have B7 : Below w.heap.size w w7 := (HB5.out.alloc HB5.out.size (.cells (aN z256) 203)).grown R7 (by simp; have := HB5.out.size; omega) (fun k e => by cases e; exact HB5.out.size)
 rw [hs] at G7 ⊢
 obtain ⟨w8, hw8⟩ : ∃ w8, w7.alloc (madeB 256) = w8 := ⟨_, rfl⟩
 have H8 : Hid (SO w8 w8 s (s + 1) S (upto 0)) := by
  refine ⟨?_, ?_, by omega, ⟨rfl, rfl, rfl, nl _, fun _ _ _ => rfl⟩⟩
  · rw [← hw8]; exact G7.alloc _
  · have h := ob_made w7 256 (by omega)
    rw [hw8, s7] at h
    unfold OF sV
    rw [upto_zero]
    exact h
 have B8 : Hid (Below w.heap.size w w8) := by rw [← hw8]; exact B7.alloc B7.size _
 have Z8 : Hid (w8.heap.size = s + 2) := by unfold Hid; rw [← hw8]; simp; omega
 rw [hw8]
 clear hs S7 R7 G7 hw8 B7 s7 g6 HB5 HB3 HK3 HP3 hz hmk S2 HBX B2 HW
 go_loopw [19] (fun v wr => ∃ i : Nat, v = .int .i64 i ∧ i ≤ 256 ∧ Hid (SO w8 wr s (s + 1) S (upto i))) (fun v _ => 256 - (intOf v).toNat)
 case atStart => exact ⟨0, rfl, by omega, H8⟩
 case round =>
  clear H8
  obtain ⟨i, rfl, hi, HG⟩ := hrel
  by_cases hlt : i < 256
  · have hltz : (i : Int) < 256 := by omega
    have cy := HG.out.of.cell i hlt
    have fy := HG.out.of.frozen i
    obtain ⟨y, hy⟩ : ∃ y, ((upto i i).toNat : Int) = y := ⟨_, rfl⟩
    rw [hy] at cy
    have HN : Hid (SO w8 (wr.setCell ⟨s + 1, i, none⟩ (.int .u8 (i : Int))) s (s + 1) S (upto (i + 1))) := by
     have h1 := HG.out.of.set i (id8 i)
     rw [id8_nat i hlt, upto_step] at h1
     exact ⟨HG.out.gn.other _ _ (by simp), h1, HG.out.ne, grown_trans_ HG.out.gr (fgrown_set wr (s + 1) i _)⟩
    clear HG hy
    go_wp2_with fail
    exact ⟨⟨i + 1, by go_num, by omega, HN⟩, by simp [intOf]; omega⟩
  · obtain rfl : i = 256 := by omega
    have HS : Hid (SO wr wr s (s + 1) S id8) := by
     have h := HG.out.self
     refine ⟨h.gn, ?_, h.ne, h.gr⟩
     have h2 := h.of
     unfold OF at h2 ⊢
     rw [← upto_all]; exact h2
    have HC := qh (sort_any wr s (s + 1) S HS.out)
    unfold sV cmpV at HC
    go_wp2_with fail
    (with_reducible refine HC.out.mono ?_)
    rintro e w9 ⟨rfl, F, hs9, hsr, hpm⟩
    have HB9 : Hid (Below w.heap.size w w9) := B8.out.grown (grown_trans_ HG.out.gr hs9.gr) (by have := B8.out.size; omega) (fun k e => by cases e; omega)
    have HR : Hid (RB w9 w9.heap.size (some ⟨s + 1, 0, none⟩) ((rk S).take m)) := by
     have h := hs9.of
     unfold OF sV at h
     rw [row_rk hsr hpm] at h
     exact OB.rb h m (rk_len S)
    have HL : Hid (w.heap.size ≤ s + 1) := by unfold Hid; omega
    have hmm := HMm.out
    clear hs9 hsr hpm HC HS HG HMm
    by_cases k0 : k < 0
    · obtain rfl : m = 0 := by omega
      clear hmm
      go_wp2_with fail
      go_ret
      exact ⟨⟨s + 1, rfl, HL.out, HR.out⟩, HB9.out⟩
    · by_cases k1 : 256 < k
      · obtain rfl : m = 256 := by omega
        clear hmm
        go_wp2_with fail
        go_ret
        exact ⟨⟨s + 1, rfl, HL.out, HR.out⟩, HB9.out⟩
      · obtain rfl : k = (m : Int) := by omega
        have hm0 : m ≤ 256 := by omega
        clear hmm
        go_wp2_with fail
        go_ret
        exact ⟨⟨s + 1, rfl, HL.out, HR.out⟩, HB9.out⟩
open Go.RowKit Go.Maps
def mset (mm : List UInt8 → Option UInt8) (e : List UInt8) (v : UInt8) : List UInt8 → Option UInt8 := fun x => if x = e then some v else mm x
def Memo (b : Kd) (p : List UInt8) (mm : List UInt8 → Option UInt8) : Prop :=
 (b.k = 1 → ∀ e v, mm e = some v → 0 < p.length ∧ lst p = v) ∧
 (b.k = 2 → ∀ e v, mm e = some v → e.length ≤ b.o ∧ (e.length < b.o → e.length < p.length) ∧ (e.length = b.o → ∀ u : UInt8, u ≠ v → wts b.o e p p.length u.toNat < wts b.o e p p.length v.toNat))
theorem memo_none (b : Kd) (p : List UInt8) : Memo b p (fun _ => none) := ⟨fun _ e v h => absurd h (by simp), fun _ e v h => absurd h (by simp)⟩
theorem endN_len (o : Nat) (p : List UInt8) : (endN o p).length = min o p.length := by unfold endN; rw [List.length_drop]; omega
theorem memo_hit {b : Kd} {p : List UInt8} {mm : List UInt8 → Option UInt8} (h : Memo b p mm) (hok : b.ok) (h3 : b.k ≠ 3) {v : UInt8} (hv : mm (endN b.o p) = some v) : nxt b p = v := by
 rcases hok with ⟨k1, _⟩ | ⟨k2, _⟩ | ⟨k3, _⟩
 · have := h.1 k1 _ _ hv
   rw [nxt_last k1 this.1, this.2]
 · obtain ⟨q1, q2, q3⟩ := h.2 k2 _ _ hv
   have hl := endN_len b.o p
   have e : (endN b.o p).length = b.o := by omega
   exact nxt_weight k2 (fun u hu => q3 e u hu)
 · exact absurd k3 h3
theorem lst_push (p : List UInt8) (x : UInt8) : lst (p ++ [x]) = x := by unfold lst; simp [List.getD]
theorem memo_push {b : Kd} {p : List UInt8} {mm : List UInt8 → Option UInt8} (h : Memo b p mm) (hok : b.ok) (mm' : List UInt8 → Option UInt8)
 (hm : mm' = mset mm (endN b.o p) (nxt b p) ∨ (mm' = mm ∧ b.k ≠ 3 ∧ mm (endN b.o p) = some (nxt b p))) : Memo b (p ++ [nxt b p]) mm' := by
 have hin : ∀ e v, mm' e = some v → (e = endN b.o p ∧ (mm e = none ∨ b.k = 3 ∨ mm e = some v) ∧ (v = nxt b p)) ∨ (e ≠ endN b.o p ∧ mm e = some v) := fun e v hv => by
  by_cases c : e = endN b.o p
  · left
    subst c
    have hvv : v = nxt b p := by
     rcases hm with rfl | ⟨rfl, _, h3⟩
     · unfold mset at hv; rw [if_pos rfl] at hv; exact (Option.some.inj hv).symm
     · rw [h3] at hv; exact (Option.some.inj hv).symm
    refine ⟨rfl, ?_, hvv⟩
    by_cases k3 : b.k = 3
    · exact .inr (.inl k3)
    · cases hq : mm (endN b.o p) with
      | none => exact .inl rfl
      | some x => exact .inr (.inr (by rw [hvv, memo_hit h hok k3 hq]))
  · right
    refine ⟨c, ?_⟩
    rcases hm with rfl | ⟨rfl, _, h3⟩
    · unfold mset at hv; rw [if_neg c] at hv; exact hv
    · exact hv
 refine ⟨fun k1 e v hv => ⟨by simp, ?_⟩, fun k2 e v hv => ?_⟩
 · rw [lst_push]
   rcases hin e v hv with ⟨_, _, hvv⟩ | ⟨_, h2⟩
   · exact hvv.symm
   · have := h.1 k1 e v h2
     rw [nxt_last k1 this.1, this.2]
 · have hP : ∀ u : UInt8, wts b.o e (p ++ [nxt b p]) (p ++ [nxt b p]).length u.toNat = wts b.o e p p.length u.toNat + (if b.o ≤ p.length ∧ endN b.o p = e ∧ (nxt b p).toNat = u.toNat then 1 else 0) := fun u => wts_push b.o e p (nxt b p) u.toNat
   rcases hin e v hv with ⟨c, _, hvv⟩ | ⟨c, h2⟩
   · have hl := endN_len b.o p
     rw [← c] at hl
     refine ⟨by omega, fun h4 => by simp; omega, fun h4 u hu => ?_⟩
     have hge : wts b.o e p p.length u.toNat ≤ wts b.o e p p.length v.toNat := by
      rw [c, hvv]; exact nxt_max k2 u
     rw [hP, hP, if_neg (fun hh => nat_ne hu (by rw [hvv]; exact hh.2.2)), if_pos ⟨by omega, c.symm, by rw [hvv]⟩]
     omega
   · obtain ⟨q1, q2, q3⟩ := h.2 k2 e v h2
     refine ⟨q1, fun h4 => by have := q2 h4; simp; omega, fun h4 u hu => ?_⟩
     rw [hP, hP, if_neg (fun hh => c hh.2.1.symm), if_neg (fun hh => c hh.2.1.symm)]
     have := q3 h4 u hu
     omega
def ks (e : List UInt8) : Lit := .string e
theorem ks_ne {e f : List UInt8} (h : e ≠ f) : ks e ≠ ks f := fun x => h (by unfold ks at x; injection x)
def MapS (w : World) (M n : Nat) (mm : List UInt8 → Option UInt8) : Prop :=
 ∃ D : DataW Nat, w.ownsMap Tryz.prog 9 (plainElem Tryz.prog 5) M n D ∧ (∀ e, mm e = none → has D (ks e) = false) ∧ (∀ e v, mm e = some v → has D (ks e) = true ∧ ∀ z, D.atKey (ks e) z = .lit (.int .u8 (v.toNat : Int)))
theorem MapS.lt {w : World} {M n : Nat} {mm : List UInt8 → Option UInt8} (h : MapS w M n mm) : M < w.heap.size := by obtain ⟨D, h1, _⟩ := h; exact h1.lt
theorem MapS.new (w : World) : MapS (w.alloc (.map #[] 0)) w.heap.size 0 (fun _ => none) :=
 ⟨.map [], World.ownsMap_made w _ _ _, fun e _ => rfl, fun e v h => absurd h (by simp)⟩
theorem MapS.kept {w w' : World} {M n : Nat} {mm : List UInt8 → Option UInt8} {row : Option Nat} (h : MapS w M n mm) (hg : w.grownBy w' row) (hne : some M ≠ row) : MapS w' M n mm := by
 obtain ⟨D, h1, h2, h3⟩ := h
 exact ⟨D, h1.kept hg hne, h2, h3⟩
theorem MapS.then_ {w w' : World} {M n : Nat} {mm : List UInt8 → Option UInt8} (h : MapS w M n mm) (hb : Below w.heap.size w w') : MapS w' M n mm := h.kept (only_of_below hb none) (by simp)
theorem key_str (e : List UInt8) (he : e.length ≤ 2000) : keyOf Tryz.prog 9 (.string (str e)) = some (ks e) :=
 WideMaps.keyOf_string_mk (P := Tryz.prog) Tryz.underlying9 (s := str e) (by rw [str_size]; unfold maxLen; omega)
theorem u8_wf (v : UInt8) : (Lit.int .u8 (v.toNat : Int)).wf = true := by
 have := v.toNat_lt
 have e0 : IntKind.u8.min = 0 := by decide
 have e1 : IntKind.u8.max = 255 := by decide
 show (decide (IntKind.u8.min ≤ (v.toNat : Int)) && decide ((v.toNat : Int) ≤ IntKind.u8.max)) = true
 rw [e0, e1]; simp; omega
theorem map_look {w : World} {M n : Nat} {mm : List UInt8 → Option UInt8} (h : MapS w M n mm) (e : List UInt8) (he : e.length ≤ 2000) :
 (Instr.lookup 231 (.map (some M)) (.string (str e)) true).run Tryz.prog w = .ok (.tuple #[.int .u8 (((mm e).getD 0).toNat : Int), .bool (mm e).isSome]) w := by
 obtain ⟨D, h1, h2, h3⟩ := h
 obtain ⟨v, ps, hr, hv⟩ := h1.look_ok (string_keyed Tryz.underlying9) Tryz.underlying231 (Tryz.zeroValue5 w) (zd := .lit (.int .u8 0)) (zp := []) (plainElem_int Tryz.underlying5 (by decide)) (key_str e he)
 obtain ⟨a, rfl, hz, hw⟩ := plainElem_int_inv Tryz.underlying5 hv
 have ha := congrArg Prod.fst hz
 cases hm : mm e with
 | none =>
   rw [atKey_of_not_has (h2 e hm)] at ha
   injection ha with ha
   injection ha with _ ha
   rw [h2 e hm, ← ha] at hr
   exact hr
 | some x =>
   obtain ⟨q1, q2⟩ := h3 e x hm
   rw [show D.atKey (ks e) _ = _ from q2 _] at ha
   injection ha with ha
   injection ha with _ ha
   rw [q1, ← ha] at hr
   exact hr
theorem wpList_map_put {w : World} {ops : Array Oper} {rest : List Oper} {o : Oper} {a : Act} {Q : Exit → Act → World → Prop} (hg : o.guard = none) (m x v : Operand) (hop : o.op = Op.mapUpdate 231 m x v)
 (M n : Nat) (mm : List UInt8 → Option UInt8) (hm : a.eval m = .map (some M)) (h : MapS w M n mm) (hn : n ≤ 2000) (e : List UInt8) (he : e.length ≤ 2000) (y : UInt8) (hx : a.eval x = .string (str e)) (hv : a.eval v = .int .u8 (y.toNat : Int))
 (hK : ∀ w', MapS w' M (n + 1) (mset mm e y) → w.grownBy w' (some M) → wpList Tryz.prog ops Q rest (a.put o.dst undef) w') : wpList Tryz.prog ops Q (o :: rest) a w := by
 obtain ⟨D, h1, h2, h3⟩ := h
 refine wpList_mapUpdate_in w hg m x v 231 hop 9 5 (string_keyed Tryz.underlying9) Tryz.underlying231 (plainElem Tryz.prog 5) M n D hm h1 (by unfold maxLen; omega) _ _ (ks e) hx hv (key_str e he)
  (.lit (.int .u8 (y.toNat : Int))) [] (plainElem_int Tryz.underlying5 (u8_wf y)) (fun w' hown ht => hK w' ⟨_, hown, fun f hf => ?_, fun f u hf => ?_⟩ ht.grown)
 · by_cases c : f = e
   · subst c; unfold mset at hf; rw [if_pos rfl] at hf; cases hf
   · unfold mset at hf; rw [if_neg c] at hf
     rw [has_put_other (ks_ne c)]; exact h2 f hf
 · by_cases c : f = e
   · subst c
     unfold mset at hf; rw [if_pos rfl] at hf
     injection hf with hf
     subst hf
     exact ⟨has_put_same h1.isMap (show WideAt.IsKeyLit (.string _) from trivial) _, fun z => atKey_put_same h1.isMap (show WideAt.IsKeyLit (.string _) from trivial) _ _⟩
   · unfold mset at hf; rw [if_neg c] at hf
     obtain ⟨q1, q2⟩ := h3 f u hf
     exact ⟨by rw [has_put_other (ks_ne c)]; exact q1, fun z => by rw [atKey_put_other (ks_ne c)]; exact q2 z⟩
open Go.RowKit Go.Maps
theorem ob_made0 (W : World) (k : Nat) (hk : k ≤ 3000) : OB (W.alloc (madeB k)) W.heap.size (.slice (some ⟨W.heap.size, 0, none⟩) 0 k) [] :=
 World.ownsRow_made W (madeCells #[.int .u8 0] k) k (nl _) (by unfold maxLen; omega) (by rw [size_madeCells, Nat.mul_one])
theorem make_0 (k : Nat) (hk : k ≤ 3000) (W : World) : (Instr.makeSlice 33 (.int .i64 0) (.int .i64 (k : Int))).run Tryz.prog W = .ok (.slice (some ⟨W.heap.size, 0, none⟩) 0 k) (W.alloc (madeB k)) := by
 obtain ⟨i, hi, hz, h1, h2⟩ := info_parts byte_info
 have hr := run_make (P := Tryz.prog) W 33 5 i (.int .u8 0) Tryz.underlying33 hi hz .i64 .i64 0 (k : Int) (Int.le_refl _) (by omega) (by rw [h2]; omega) (by omega)
 rw [h1, Int.toNat_natCast, Nat.mul_one] at hr
 exact hr
def FarC (v : Value) (M : Nat) : Prop := ∀ k, v.ownBlock = some k → k ≠ M
set_option maxHeartbeats 4000000 in
theorem chain_any (b : Kd) (A : Option Addr) (n c : Nat) (P : Option Addr) (p : List UInt8) (L pc : Nat) (k : Int) (w : World) (hk : KM w b A n c) (hp : PM w P p L pc) (hl : L ≤ 1000) (m : Nat) (hm : min (max k 0) 1000 = (m : Int)) :
 Calls Tryz.prog 144 #[byV b.k b.o A n c, .slice P L pc, .int .i64 k] w fun e w' => (∃ A' c', e = .returned (.slice A' m c') ∧ m ≤ c' ∧ c' ≤ maxLen ∧ RB w' w'.heap.size A' (chN b m p)) ∧ Below w.heap.size w w' := by
 have hmm := @run_makeMap Tryz.prog
 have hm1 : m ≤ 1000 := by omega
 obtain ⟨w2, hw2⟩ : ∃ w2, w.alloc (.cells #[.int .i64 b.k, .int .i64 b.o, .slice A n c] 146) = w2 := ⟨_, rfl⟩
 have b2 : Below w.heap.size w w2 := by rw [← hw2]; exact (bR _ _).alloc (nl _) _
 have hbox : w2.heap[w.heap.size]? = some (.cells (byA b.k b.o A n c) 146 (0, 0)) := by
  rw [← hw2]
  exact heap_alloc_last w (.cells #[.int .i64 b.k, .int .i64 b.o, .slice A n c] 146)
 have s2 : w2.heap.size = w.heap.size + 1 := by rw [← hw2]; simp
 have HM := qh (pmay_any b.k b.o A n c w2 hk.nm)
 rw [hk.may, ← hw2] at HM
 have HW := qh hw2
 have B2 := qh b2; have HBX := qh hbox; have S2 := qh s2
 have HK := qh (hk.then_ b2)
 have HP := qh (hp.then_ b2)
 have HMm := qh hm
 obtain ⟨N, hN⟩ : ∃ N : Nat, (L : Int) + (m : Int) = N := ⟨L + m, by omega⟩
 have hN2 : N ≤ 3000 := by omega
 have hmk := make_0 N hN2
 have HOK : Hid b.ok := hk.ok
 have HLp : Hid (p.length = L) := hp.len
 clear hw2 b2 hbox s2 hk hp hm
 unfold byV byA at HM ⊢
 go_enter Tryz.func144, Tryz.ntmps144
 go_wp2_with fail
 (with_reducible refine HM.out.mono ?_)
 rintro e w3 ⟨rfl, hb3⟩
 rw [HW.out] at hb3
 have B3 : Hid (Below (w.heap.size + 1) w2 w3) := hb3.mono (by rw [S2.out]; omega)
 have P3 := qh (HP.out.then_ hb3)
 have sz3 : w.heap.size + 1 ≤ w3.heap.size := by rw [← S2.out]; exact hb3.size
 clear hb3 HM
 go_upto_region 3 with fail
 go_cut [2] from 15 to 17 (fun s2 wx => s2 = .int .i64 m ∧ w3 = wx)
 case first =>
  have hmm := HMm.out
  by_cases k0 : k < 0
  · obtain rfl : m = 0 := by omega
    clear hmm
    go_wp2_with fail
    go_meet
    exact ⟨rfl, rfl⟩
  · by_cases k1 : 1000 < k
    · obtain rfl : m = 1000 := by omega
      clear hmm
      go_wp2_with fail
      go_meet
      exact ⟨rfl, rfl⟩
    · obtain rfl : k = (m : Int) := by omega
      clear hmm
      go_wp2_with fail
      go_meet
      exact ⟨rfl, rfl⟩
 case rest =>
  obtain ⟨rfl, rfl⟩ := hcut
  have hO0 := ob_made0 w3 N hN2
  have P4 := P3.out.t.below ((bR w3.heap.size w3).alloc (nl _) (madeB N))
  have hsz4 : (w3.alloc (madeB N)).heap.size = w3.heap.size + 1 := by simp
  have HLn : ([] : List UInt8).length + p.length ≤ 140737488355328 := by rw [HLp.out]; simp; omega
  have hPsl : Hid (Value.slice P L pc = .slice P p.length pc) := by rw [HLp.out]; rfl
  go_wp2_with (refine wpList_append_bytes rfl (.tmp 22) (.tmp 23) rfl w3.heap.size _ [] p (by with_unfolding_all rfl) hO0 w3.heap.size P pc hPsl.out P4 HLn (by rw [hsz4]; omega) ?_; intro v5 w5 O5 R5 E5)
  obtain ⟨M, hM⟩ : ∃ M, w5.heap.size = M := ⟨_, rfl⟩
  obtain ⟨w6, hw6⟩ : ∃ w6, w5.alloc (.map #[] 0) = w6 := ⟨_, rfl⟩
  have hsz5 : w3.heap.size + 1 ≤ w5.heap.size := by rw [← hsz4]; exact R5.size
  have b5 : Below (w.heap.size + 1) w2 w5 := (B3.out.trans ((bR _ _).alloc (by omega) (madeB N))).grown R5 (by omega) (fun k e => by cases e; omega)
  have B6 : Hid (Below (w.heap.size + 1) w2 w6) := by rw [← hw6]; exact b5.alloc (by omega) _
  have M6 : Hid (MapS w6 M 0 (fun _ => none)) := by rw [← hw6, ← hM]; exact MapS.new w5
  have O6 : Hid (OB w6 (w.heap.size + 1) v5 (p ++ chN b 0 p)) := by
   have h := (O5.less (b' := w.heap.size + 1) (by omega)).below ((bR w5.heap.size w5).alloc (nl _) (.map #[] 0)) (nl _)
   rw [hw6] at h
   simpa [Hid, chN] using h
  have F6 : Hid (FarC v5 M) := fun k hk => by have := O5.low k hk; omega
  have ME6 : Hid (Memo b (p ++ chN b 0 p) (fun _ => none)) := memo_none _ _
  have HMge : Hid (w.heap.size + 1 ≤ M) := by unfold Hid; omega
  rw [hw6, hM]
  clear hM hw6 hsz5 b5 O5 R5 E5 hO0 P4 hsz4 HLn hPsl P3 B3 sz3 hmk hmm HMm hN
  go_loopw [7, 27] (fun s7 s27 wr => ∃ (j : Nat) (v : Value) (mm : List UInt8 → Option UInt8), s7 = v ∧ s27 = .int .i64 j ∧ j ≤ m ∧ Hid (OB wr (w.heap.size + 1) v (p ++ chN b j p)) ∧ Hid (FarC v M) ∧ Hid (MapS wr M j mm) ∧ Hid (Memo b (p ++ chN b j p) mm) ∧ Hid (Below (w.heap.size + 1) w2 wr)) (fun _ v _ => m - (intOf v).toNat)
  case atStart => exact ⟨0, v5, _, rfl, rfl, Nat.zero_le _, O6, F6, M6, ME6, B6⟩
  case round =>
   clear O6 F6 M6 ME6 B6
   obtain ⟨j, v, mm, rfl, rfl, hj, HO, HF, HMS, HME, HB⟩ := hrel
   obtain ⟨q, hq⟩ : ∃ q, p ++ chN b j p = q := ⟨_, rfl⟩
   obtain ⟨Q, hQ⟩ : ∃ Q, q.length = Q := ⟨_, rfl⟩
   have hQ2 : Q = L + j := by rw [← hQ, ← hq, List.length_append, chN_len, HLp.out]
   rw [hq] at HO HME
   obtain ⟨A7, c7, rfl, hc7, hm7, hr7⟩ := HO.out.form_n Q hQ
   have BX : Hid (∀ wx, Below (w.heap.size + 1) w2 wx → wx.cell? ⟨w.heap.size, 0, none⟩ = some (.int .i64 b.k) ∧ wx.cell? ⟨w.heap.size, 1, none⟩ = some (.int .i64 b.o) ∧ wx.cell? ⟨w.heap.size, 2, none⟩ = some (.slice A n c)) := fun wx hx =>
    ⟨(hx.cell (p := ⟨w.heap.size, 0, none⟩) (by show w.heap.size < _; omega)).trans (cell_of_row _ _ _ _ _ _ HBX.out),
     (hx.cell (p := ⟨w.heap.size, 1, none⟩) (by show w.heap.size < _; omega)).trans (cell_of_row _ _ _ _ _ _ HBX.out),
     (hx.cell (p := ⟨w.heap.size, 2, none⟩) (by show w.heap.size < _; omega)).trans (cell_of_row _ _ _ _ _ _ HBX.out)⟩
   have hm72 := hm7
   unfold maxLen at hm72
   have hcs : Hid (m ≤ 1000 ∧ L ≤ 1000 ∧ Q = L + j) := ⟨hm1, hl, hQ2⟩
   by_cases hlt : j < m
   · have hltz : (j : Int) < (m : Int) := by omega
     obtain ⟨E, hE⟩ : ∃ E, endN b.o q = E := ⟨_, rfl⟩
     obtain ⟨el, hel⟩ : ∃ el, E.length = el := ⟨_, rfl⟩
     have HEl : Hid (E.length ≤ 2000) := by
      have := endN_len b.o q
      rw [hE] at this
      unfold Hid; rw [this, hQ]; omega
     have HC := ending_any b.k b.o A n c A7 q Q c7 wr.heap.size wr hQ hc7 hm7 hr7 (nl _) (by have := HOK.out; unfold Kd.ok at this; omega) el (by rw [hE]; exact hel)
     rw [hE] at HC
     replace HC := qh HC
     unfold byV byA at HC
     have c0 := (BX.out wr HB.out).1
     have c1 := (BX.out wr HB.out).2.1
     have c2 := (BX.out wr HB.out).2.2
     have HQ := qh hQ; have HQ2 := qh hQ2; have HEE := qh hE; have HELN := qh hel; have HC7 := qh hc7; have HM7 := qh hm7
     have HQQ := qh hq
     clear hr7 hQ hQ2 hE hel hc7 hm7 hq
     go_wp2_with fail
     (with_reducible refine HC.out.mono ?_)
     rintro e w8 ⟨A8, c8, rfl, hr8, hb8⟩
     have hcv := conv_rb hr8 el c8 HELN.out
     have HMS8 := qh (HMS.out.then_ hb8)
     have HO8 : Hid (OB w8 (w.heap.size + 1) (.slice A7 Q c7) q) := HO.out.below hb8 (nl _)
     have HB8 : Hid (Below (w.heap.size + 1) w2 w8) := HB.out.trans (hb8.mono (by have := HB.out.size; have := S2.out; omega))
     obtain ⟨x0, hx0⟩ : ∃ x0, (mm E).getD 0 = x0 := ⟨_, rfl⟩
     obtain ⟨sb, hsb⟩ : ∃ sb, (mm E).isSome = sb := ⟨_, rfl⟩
     have hlk := map_look HMS8.out E HEl.out
     rw [hx0, hsb] at hlk
     have HX0 := qh hx0
     have HSB := qh hsb
     have c08 := (BX.out w8 HB8.out).1
     clear hr8 hb8 HO HMS HB HC c0 c1 c2 hx0 hsb
     obtain ⟨bb, hbb⟩ : ∃ bb, (!sb || decide (b.k = 3)) = bb := ⟨_, rfl⟩
     have HBB := qh hbb
     clear hbb
     go_upto_region 10 with fail
     go_cut [45] from 39 to 45 (fun s45 wx => s45 = .bool bb ∧ w8 = wx)
     case first =>
      cases sb with
      | false =>
        obtain rfl : bb = true := by rw [← HBB.out]; rfl
        clear HBB
        go_wp2_with fail
        go_meet
        exact ⟨rfl, rfl⟩
      | true =>
        by_cases h3 : b.k = 3
        · have hkz : ((b.k : Int) == 3) = true := by rw [h3]; rfl
          have hkz2 : (b.k : Int) = 3 := by omega
          obtain rfl : bb = true := by rw [← HBB.out]; simp [h3]
          clear HBB h3
          go_wp2_with fail
          go_meet
          exact ⟨rfl, rfl⟩
        · have hkz : ((b.k : Int) == 3) = false := by simp; omega
          obtain rfl : bb = false := by rw [← HBB.out]; simp [h3]
          clear HBB h3
          go_wp2_with fail
          go_meet
          exact ⟨rfl, rfl⟩
     case rest =>
      obtain ⟨rfl, rfl⟩ := hcut
      clear hlk hcv
      go_upto_if 45 with fail
      go_cut [10] from 46 to 51 (fun s10 wx => s10 = .int .u8 ((nxt b q).toNat : Int) ∧ Hid (∃ mm', MapS wx M (j + 1) mm' ∧ Memo b (q ++ [nxt b q]) mm') ∧ Hid (OB wx (w.heap.size + 1) (.slice A7 Q c7) q) ∧ Hid (Below (w.heap.size + 1) w2 wx))
      case first =>
       cases bb with
       | true =>
         have c18 := (BX.out w8 HB8.out).2.1
         have c28 := (BX.out w8 HB8.out).2.2
         have HK8 : KM w8 b A n c := by
          have h := HK.out
          exact ⟨h.ok, h.len, h.nc, h.cm, RB.more (h.t.below (HB8.out.mono (by rw [S2.out]; exact nl _))) (by have := HB8.out.size; omega)⟩
         have HFi := qh (pfirst_any b A n c A7 q Q c7 w8 HK8.ok HK8.len HK8.nc HK8.cm HK8.t HQ.out HC7.out HM7.out (by obtain ⟨A9, c9, e9, _, _, r9⟩ := HO8.out.form_n Q HQ.out; cases e9; exact r9) (by have := hcs.out; omega))
         unfold byV byA at HFi
         clear HK8
         go_wp2_with fail
         (with_reducible refine HFi.out.mono ?_)
         rintro e w9 ⟨rfl, hb9⟩
         have HMS9 := HMS8.out.then_ hb9
         have HO9 : Hid (OB w9 (w.heap.size + 1) (.slice A7 Q c7) q) := HO8.out.below hb9 (nl _)
         have HB9 : Hid (Below (w.heap.size + 1) w2 w9) := HB8.out.trans (hb9.mono (by have := HB8.out.size; have := S2.out; omega))
         have HPU : Hid (Memo b (q ++ [nxt b q]) (mset mm E (nxt b q))) := memo_push HME.out HOK.out _ (.inl (by rw [HEE.out]))
         clear hb9 HFi HO8 HB8
         go_wp2_with (refine wpList_map_put rfl (.tmp 49) (.tmp 50) (.tmp 51) rfl M j mm (by with_unfolding_all rfl) HMS9 (by have := hcs.out; omega) E HEl.out (nxt b q) (by with_unfolding_all rfl) (by with_unfolding_all rfl) ?_; intro w10 MS10 R10)
         go_meet
         refine ⟨rfl, ⟨_, MS10, HPU.out⟩, ?_, ?_⟩
         · refine World.ownsRow.kept HO9.out R10 ?_
           right
           intro e
           exact HF.out M e rfl
         · exact HB9.out.grown R10 (by have := HB9.out.size; have := S2.out; omega) (fun k e => by cases e; exact HMge.out)
       | false =>
         have h0 := HBB.out
         have h3 : b.k ≠ 3 := by intro h; rw [h] at h0; simp at h0
         have h4 : sb = true := by cases sb with
          | true => rfl
          | false => simp at h0
         have h5 : mm E = some x0 := by
          have h6 := HSB.out
          have h7 := HX0.out
          rw [h4] at h6
          cases hmE : mm E with
          | none => rw [hmE] at h6; cases h6
          | some y => rw [hmE] at h7; simp at h7; rw [h7]
         have h6 : nxt b q = x0 := memo_hit HME.out HOK.out h3 (by rw [HEE.out]; exact h5)
         have HPU : Hid (Memo b (q ++ [nxt b q]) mm) := memo_push HME.out HOK.out mm (.inr ⟨rfl, h3, by rw [HEE.out, h5, h6]⟩)
         have HMS9 : Hid (MapS w8 M (j + 1) mm) := by
          obtain ⟨D, d1, d2⟩ := HMS8.out
          exact ⟨D, d1.mono (by omega), d2⟩
         have H6 := qh h6
         clear h0 h3 h4 h5 h6
         go_wp2_with fail
         go_meet
         exact ⟨by rw [H6.out], ⟨mm, HMS9.out, HPU.out⟩, HO8, HB8⟩
      case rest =>
       obtain ⟨rfl, HX, HO9, HB9⟩ := hcut
       obtain ⟨mm', MS9, ME9⟩ := HX.out
       have HMS9 := qh MS9
       have HME9 := qh ME9
       obtain ⟨w9, hw9⟩ : ∃ w9, wc = w9 := ⟨_, rfl⟩
       rw [hw9] at HO9 HB9 HMS9 ⊢
       clear HX MS9 ME9 hw9 HMS8 HO8 HB8 c08 HME HBB HSB HX0
       have hw10 : Below w9.heap.size w9 (w9.alloc (.cells #[.int .u8 ((nxt b q).toNat : Int)] 5)) := (bR _ _).alloc (nl _) _
       have O10 : OB (w9.alloc (.cells #[.int .u8 ((nxt b q).toNat : Int)] 5)) (w.heap.size + 1) (.slice A7 Q c7) q := HO9.out.below hw10 (nl _)
       have R10 : RB (w9.alloc (.cells #[.int .u8 ((nxt b q).toNat : Int)] 5)) (w9.heap.size + 1) (some ⟨w9.heap.size, 0, none⟩) [nxt b q] := rb_cells w9 [nxt b q] 5 (w9.heap.size + 1) (by omega)
       have hl10 : q.length + [nxt b q].length ≤ 140737488355328 := by rw [HQ.out]; have := hcs.out; simp; omega
       have hs10 : w.heap.size + 1 ≤ (w9.alloc (.cells #[.int .u8 ((nxt b q).toNat : Int)] 5)).heap.size := by have := HB9.out.size; have := S2.out; simp; omega
       have M10 := HMS9.out.then_ hw10
       clear hw10
       go_wp2_with (refine wpList_append_bytes rfl (.tmp 52) (.tmp 54) rfl (w.heap.size + 1) (.slice A7 Q c7) q [nxt b q] (by with_unfolding_all rfl) O10 (w9.heap.size + 1) (some ⟨w9.heap.size, 0, none⟩) 1 (by with_unfolding_all rfl) R10 hl10 hs10 ?_; intro v11 w11 O11 G11 E11)
       have hjj : chN b (j + 1) p = chN b j p ++ [nxt b q] := by rw [chN_snoc, HQQ.out]
       have hq2 : p ++ chN b (j + 1) p = q ++ [nxt b q] := by rw [hjj, ← List.append_assoc, HQQ.out]
       have hMlt := HMS9.out.lt
       refine ⟨⟨j + 1, v11, mm', rfl, by go_num, by omega, ?_, ?_, ?_, ?_, ?_⟩, by simp [intOf]; omega⟩
       · rw [hq2]; exact O11
       · intro k hk
         rcases E11 with e | e
         · rw [e] at hk; exact HF.out k hk
         · rw [e] at hk
           have : k = w9.heap.size + 1 := by
            have := Option.some.inj hk
            rw [← this]; simp
           omega
       · exact M10.kept G11 (fun e => HF.out M e.symm rfl)
       · rw [hq2]; exact HME9.out
       · exact (HB9.out.alloc (by have := HB9.out.size; have := S2.out; omega) _).grown G11 (by have := HB9.out.size; have := S2.out; simp; omega) HO9.out.ge
   · obtain rfl : j = m := by omega
     have hltz : ¬ (j : Int) < (j : Int) := by omega
     have hcut2 := hr7.cut L c7 (by rw [hQ]; omega) (by rw [hQ]; exact hc7)
     have hd : q.drop L = chN b j p := by rw [← hq, ← HLp.out]; simp
     rw [hd] at hcut2
     have HB9 : Hid (Below w.heap.size w wr) := B2.out.trans (HB.out.mono (by omega))
     have hLQ : L ≤ Q := by omega
     have hQL : Q - L = j := by omega
     have hLc : L ≤ c7 := by omega
     by_cases hcL : c7 = L
     · rw [if_pos hcL] at hcut2
       have HCU := qh hcut2
       subst hcL
       obtain rfl : j = 0 := by omega
       obtain rfl : Q = c7 := by omega
       clear hq hQ hd hr7 hcut2 hQ2 hQL
       go_wp2_with fail
       go_ret
       exact ⟨⟨_, _, rfl, by unfold maxLen; omega, HCU.out⟩, HB9.out⟩
     · rw [if_neg hcL] at hcut2
       have HCU := qh hcut2
       have HQL := qh hQL
       clear hq hQ hd hr7 hcut2 hQ2
       go_wp2_with fail
       go_ret
       exact ⟨⟨_, _, rfl, by omega, by unfold maxLen; omega, HCU.out⟩, HB9.out⟩
open Go.RowKit Go.Maps
def kL : Kd := ⟨1, 0, []⟩
theorem RB.then_ {w w' : World} {B : Nat} {A : Option Addr} {l : List UInt8} (h : RB w B A l) (hB : B ≤ w.heap.size) (hb : Below w.heap.size w w') : RB w' w'.heap.size A l := RB.more (h.below (hb.mono hB)) (Nat.le_trans hB hb.size)
theorem rank_at (b : Kd) (z o : Int) (hz : z = (b.k : Int)) (ho : o = (b.o : Int)) (A : Option Addr) (n c : Nat) (P : Option Addr) (p : List UInt8) (L pc : Nat) (k : Int) (w : World) (hk : KM w b A n c) (hp : PM w P p L pc) (hl : L ≤ 2000) (m : Nat) (hm : min (max k 0) 256 = (m : Int)) (r : List UInt8) (hr : (rk (sc b p)).take m = r) :
 Calls Tryz.prog 169 #[.agg #[.int .i64 z, .int .i64 o, .slice A n c], .slice P L pc, .int .i64 k] w fun e w' => (∃ g, e = .returned (.slice (some ⟨g, 0, none⟩) m 256) ∧ w.heap.size ≤ g ∧ RB w' w'.heap.size (some ⟨g, 0, none⟩) r) ∧ Below w.heap.size w w' := by
 subst hz ho hr
 exact rank_any b A n c P p L pc k w hk hp hl m hm
theorem chain_at (b : Kd) (z o : Int) (hz : z = (b.k : Int)) (ho : o = (b.o : Int)) (A : Option Addr) (n c : Nat) (P : Option Addr) (p : List UInt8) (L pc : Nat) (k : Int) (w : World) (hk : KM w b A n c) (hp : PM w P p L pc) (hl : L ≤ 1000) (m : Nat) (hm : min (max k 0) 1000 = (m : Int)) (r : List UInt8) (hr : chN b m p = r) :
 Calls Tryz.prog 144 #[.agg #[.int .i64 z, .int .i64 o, .slice A n c], .slice P L pc, .int .i64 k] w fun e w' => (∃ A' c', e = .returned (.slice A' m c') ∧ m ≤ c' ∧ c' ≤ maxLen ∧ RB w' w'.heap.size A' r) ∧ Below w.heap.size w w' := by
 subst hz ho hr
 exact chain_any b A n c P p L pc k w hk hp hl m hm
theorem may_at (z o : Int) (A : Option Addr) (n c : Nat) (w : World) (hn : n ≤ maxLen) (r : Bool) (hr : mayB z o n = r) : Calls Tryz.prog 95 #[.agg #[.int .i64 z, .int .i64 o, .slice A n c]] w fun e w' => e = .returned (.bool r) ∧ Below w.heap.size w w' := by
 subst hr
 exact pmay_any z o A n c w hn
open Go.RowKit Go.Maps
def Box3 (w2 : World) (bx : Nat) (z o : Int) (A : Option Addr) (n c : Nat) : Prop := ∀ wx, Below (bx + 1) w2 wx → wx.cell? ⟨bx, 0, none⟩ = some (.int .i64 z) ∧ wx.cell? ⟨bx, 1, none⟩ = some (.int .i64 o) ∧ wx.cell? ⟨bx, 2, none⟩ = some (.slice A n c)
theorem box3 {w2 : World} {bx : Nat} {z o : Int} {A : Option Addr} {n c : Nat} {t : TypeId} (h : w2.heap[bx]? = some (.cells #[.int .i64 z, .int .i64 o, .slice A n c] t (0, 0))) : Box3 w2 bx z o A n c := fun wx hx =>
 ⟨(hx.cell (p := ⟨bx, 0, none⟩) (by show bx < _; omega)).trans (cell_of_row _ _ _ _ _ _ h), (hx.cell (p := ⟨bx, 1, none⟩) (by show bx < _; omega)).trans (cell_of_row _ _ _ _ _ _ h), (hx.cell (p := ⟨bx, 2, none⟩) (by show bx < _; omega)).trans (cell_of_row _ _ _ _ _ _ h)⟩
theorem mayBy_at (z o : Int) (A : Option Addr) (n c : Nat) (w : World) (hn : n ≤ maxLen) (r : Bool) (hr : mayB z o n = r) : Calls Tryz.prog 100 #[.agg #[.int .i64 z, .int .i64 o, .slice A n c]] w fun e w' => e = .returned (.bool r) ∧ Below w.heap.size w w' := by
 subst hr
 exact mayBy_any z o A n c w hn
open Go.RowKit Go.Maps
open Go.RowKit Go.Maps
def bL (S : Nat → Bool) : List Value := (List.range 256).map fun i => .bool (S i)
def bN (S : Nat → Bool) : Array Value := (bL S).toArray
theorem bL_get (S : Nat → Bool) (k : Nat) (hk : k < 256) : (bL S)[k]? = some (.bool (S k)) := by
 unfold bL; simp [hk]
theorem bN_get (S : Nat → Bool) (k : Nat) (hk : k < 256) : (bN S)[k]? = some (.bool (S k)) := by
 unfold bN; simpa using bL_get S k hk
def putB (S : Nat → Bool) (k : Nat) (x : Bool) : Nat → Bool := fun j => if j = k then x else S j
def GB (w : World) (b : Nat) (S : Nat → Bool) : Prop := w.heap[b]? = some (.cells (bN S) 205 (0, 0))
theorem GB.cell {w : World} {b : Nat} {S : Nat → Bool} (h : GB w b S) (k : Nat) (hk : k < 256) : w.cell? ⟨b, k, none⟩ = some (.bool (S k)) := by
 rw [cell_of_row w b k _ _ _ h, bN_get S k hk]
theorem GB.lt {w : World} {b : Nat} {S : Nat → Bool} (h : GB w b S) : b < w.heap.size := (Array.getElem?_eq_some_iff.1 h).1
theorem GB.frozen {w : World} {b : Nat} {S : Nat → Bool} (h : GB w b S) (k : Nat) : w.frozen? ⟨b, k, none⟩ = false := by
 unfold GB at h
 simp [World.frozen?, h]
theorem GB.new (w : World) (S : Nat → Bool) : GB (w.alloc (.cells (bN S) 205)) w.heap.size S := heap_alloc_last w _
theorem GB.alloc {w : World} {b : Nat} {S : Nat → Bool} (h : GB w b S) (o : Obj) : GB (w.alloc o) b S := (Below.heap_alloc w o b h.lt).trans h
theorem GB.below {w w' : World} {b B : Nat} {S : Nat → Bool} (h : GB w b S) (hb : Below B w w') (hB : b < B) : GB w' b S := (hb.block b hB).trans h
theorem GB.then_ {w w' : World} {b : Nat} {S : Nat → Bool} (h : GB w b S) (hb : Below w.heap.size w w') : GB w' b S := h.below hb h.lt
theorem GB.other {w : World} {b : Nat} {S : Nat → Bool} (h : GB w b S) (a : Addr) (v : Value) (hne : b ≠ a.block) : GB (w.setCell a v) b S := (Below.heap_setCell w a v b hne).trans h
theorem GB.set {w : World} {b : Nat} {S : Nat → Bool} (h : GB w b S) (k : Nat) (x : Bool) : GB (w.setCell ⟨b, k, none⟩ (.bool x)) b (putB S k x) := by
 unfold GB at *
 have hs : bN (putB S k x) = (bN S).setIfInBounds k (.bool x) := by
  unfold bN bL
  apply Array.ext'
  simp only [Array.toList_setIfInBounds]
  apply List.ext_getElem
  · simp
  · intro i h1 h2
    rw [List.getElem_set]
    simp [putB]
    by_cases e : k = i
    · simp [e]
    · simp [e, Ne.symm e]
 rw [hs]
 simp [World.setCell, Array.getElem?_modify, h]
open Go.RowKit Go.Maps
end Go.Proofs.YtpnobpligchpiaaGreatDoor
