/- texts of YpMb -/
import Derived.Deep.CutRange
import Derived.Deep.DeepCutAuto
import Derived.Deep.RegionLaw
import Derived.Deep.RegionWith
import Derived.Defers
import Derived.Recover
import Derived.Test.YtpnobpligchpiaaGreatDoorYpEa
import Derived.Test.YtpnobpligchpiaaGreatDoorYpGa
import Derived.Test.YtpnobpligchpiaaGreatDoorYpK
import Derived.Test.YtpnobpligchpiaaGreatDoorYpMa
import Derived.Test.YtpnobpligchpiaaGreatDoorYpOa
namespace Go.Proofs.YtpnobpligchpiaaGreatDoor
set_option maxRecDepth 100000
open Go.RowKit
set_option linter.unusedVariables false
theorem clone_any (A : Option Addr) (os : List O4) (cap B : Nat) (w : World) (hr : RO w B A os) (hB : B ≤ w.heap.size) (hc : os.length ≤ cap) (h1 : 1 ≤ os.length) (h2 : os.length ≤ 64) :
 Calls Tryz.prog 96 #[.slice A os.length cap] w fun e w' => ∃ v, e = .returned v ∧ OO w' w.heap.size v os ∧ Below w.heap.size w w' := by
 obtain ⟨b, off, rfl, hbB, -⟩ := hr (by omega)
 have hn : ∀ (a : Addr) (n c : Nat) (W : World), (binOp .eql 59 (.slice (some a) n c) (.slice none 0 0)).run Tryz.prog W = .ok (.bool false) W := fun a n c W => Lib.run_eql_slice_nil W _ _ _ _ _ _ _ Tryz.underlying59
 go_enter Tryz.func96, Tryz.ntmps96
 have hown : OO (w.alloc (.cells #[] 151)) w.heap.size (.slice (some ⟨w.heap.size, 0, none⟩) 0 0) [] :=
  ⟨by simp [opsL], .inr ⟨w.heap.size, 0, _, rfl, nl _, heap_alloc_new w _, nl _, by unfold maxLen; omega, by rfl, by rfl⟩⟩
 have hr1 : RO (w.alloc (.cells #[] 151)) B (some ⟨b, off, none⟩) os := hr.below (((bR _ _).alloc (nl _) _).mono hB)
 have HW := qh hown; have HR := qh hr1; clear hown hr1 hr
 go_wp2_with (at_builtin; refine wpList_append_ops rfl _ _ rfl w.heap.size _ [] os rfl HW.out B _ cap rfl HR.out (by simp; omega) (by simp) ?_; intro v' w2 hown2 hg2 _)
 go_ret
 have hge : ∀ k, (Value.slice (some ⟨w.heap.size, 0, none⟩) 0 0).ownBlock = some k → w.heap.size ≤ k := HW.out.ge
 exact ⟨_, rfl, by simpa using hown2, ((bR w.heap.size w).alloc (nl _) _).grown hg2 (by simp) hge⟩
theorem caught_none (p : Addr) (w : World) :
 CallsD Tryz.prog 194 #[.pointer (some p)] .returning w fun e u' w' => e = .returned (.tuple #[]) ∧ u' = .returning ∧ w' = w := by
 refine callsD_of_wpS Tryz.func194 rfl fun c₀ cs hu => ?_
 apply wpS_seq
 apply wpS_region
 simp [wpOpsS, go_sem, recoverD, hu, Tryz.ntmps194, Exit.thenS]
 refine wpS_cond (t := false) (by simp [Act.eval, Array.replicate]) ?_
 simp only [Bool.false_eq_true, if_false]
 refine wpS_of_wp (wp_skip ?_)
 cases c₀
 simp_all [bodyPostS, results, Tryz.results194]
theorem eql_mem (T : TypeId) (v : Value) (w : World) : (binOp .eql 264 (.iface T v) .nilIface).run Tryz.prog w = .ok (.bool false) w := by kernel_rfl
theorem results_run {tmps : Array Value} {D : Nat} {w : World} {z : Int} (hp : tmps[8]?.getD undef = .pointer (some ⟨D, 0, none⟩)) (hc : w.cell? ⟨D, 0, none⟩ = some (.int .i64 z)) :
 (results Tryz.f183 tmps).run Tryz.prog w = .ok (.int .i64 z) w := by
 simp [results, Tryz.results183, go_sem, hp, hc]
theorem run_not (K : MemK) (w : World) (b : Nat) (g : List Int) (E : Env) (A : Option Addr) (os : List O4) (cap B : Nat) (PV : Value) (hr : RO w B A os) (hB : B ≤ w.heap.size) (hc : os.length ≤ cap) (hm : cap ≤ maxLen) (ht : E.t.size ≤ 549755813888)
 (hf : (faultN (titB E.t) os == -1) = false) :
 Calls Tryz.prog 183 #[progV E.t A os.length cap, .iface K.T (.pointer (some ⟨b, 0, none⟩)), .int .i64 E.fr, PV] w fun e w' => e = .returned (.int .i64 0) ∧ Below w.heap.size w w' := by
 have he := fun W => eql_mem K.T (.pointer (some ⟨b, 0, none⟩)) W
 have bw : Below w.heap.size w ((w.alloc (.cells #[.string E.t, .slice A os.length cap] 61)).alloc (.cells #[.int .i64 0] 3)) := ((bR _ _).alloc (nl _) _).alloc (by simp) _
 have HM := qh (emay_any E.t A os cap B _ (hr.below (bw.mono hB)) (Nat.le_trans hB bw.size) hc hm ht)
 rw [hf] at HM
 unfold progV at HM ⊢
 clear hr hf
 have hz : ((w.alloc (.cells #[.string E.t, .slice A os.length cap] 61)).alloc (.cells #[.int .i64 0] 3)).cell? ⟨w.heap.size + 1, 0, none⟩ = some (.int .i64 0) := by simp [go_sem]
 have hzf : ((w.alloc (.cells #[.string E.t, .slice A os.length cap] 61)).alloc (.cells #[.int .i64 0] 3)).frozen? ⟨w.heap.size + 1, 0, none⟩ = false := by simp [go_sem]
 go_enter_defers Tryz.func183, Tryz.ntmps183
 go_wp2_with (go_at_call 94; refine HM.out.mono ?_; rintro e w1 ⟨rfl, hb1⟩; have hq := (hb1.cell (p := ⟨w.heap.size + 1, 0, none⟩) (cell_lt hz)).trans hz; have hqf := (hb1.frozen (p := ⟨w.heap.size + 1, 0, none⟩) (cell_lt hz)).trans hzf)
 refine ⟨_, results_run (D := w.heap.size + 1) (z := 0) rfl ?_, rfl, ?_⟩
 · go_simp
 · exact (bw.trans (hb1.mono bw.size)).setCell (by simp) _
theorem OO.some_ {w : World} {base : Nat} {v : Value} {os : List O4} (h : OO w base v os) (h1 : 1 ≤ os.length) : ∃ g cap, v = .slice (some ⟨g, 0, none⟩) os.length cap ∧ base ≤ g ∧ g < w.heap.size ∧ RO w w.heap.size (some ⟨g, 0, none⟩) os := by
 obtain ⟨A, cap, rfl, h2, h3, hr⟩ := h.form
 obtain ⟨g, off, rfl, hlt, -⟩ := hr (by omega)
 rcases h.2 with ⟨e, hn⟩ | ⟨g', cap', cur, e, hg, hh, _⟩
 · cases e
 · injection e with e1 e2 e3
   injection e1 with e1
   injection e1 with e4 e5
   subst e4 e5
   exact ⟨_, _, rfl, hg, hlt, hr⟩
theorem GH.kinds {w : World} {b : Nat} {t : TypeId} {g : List Int} {rs : List Value} (h : GH w b t g rs) {k : Nat} {v : Value} (hc : w.cell? ⟨b, k, none⟩ = some v) : (∃ x, v = .int .i32 x) ∨ v ∈ rs := by
 rw [cell_of_row w b k _ _ _ h] at hc
 have hm : v ∈ g.map vi ++ rs := by
  have : (g.map vi ++ rs)[k]? = some v := by simpa using hc
  exact List.mem_of_getElem? this
 rcases List.mem_append.1 hm with h1 | h1
 · obtain ⟨x, _, rfl⟩ := List.mem_map.1 h1
   exact .inl ⟨x, rfl⟩
 · exact .inr h1
def noNum (rs : List Value) : Prop := ∀ k z, Value.int k z ∉ rs
theorem noC : noNum mkC.rs := fun k z h => by cases h
theorem GH.ne_bytes {w : World} {b b' : Nat} {t : TypeId} {g : List Int} {rs : List Value} (h : GH w b t g rs) (hn : noNum rs) {k : Nat} {x : UInt8} (hc : w.cell? ⟨b', k, none⟩ = some (vb x)) : b' ≠ b := fun e => by
 subst e
 rcases h.kinds hc with ⟨y, e⟩ | e
 · unfold vb at e; injection e with e1 e2; cases e1
 · exact hn _ _ e
theorem RB.grown {w w' : World} {B b : Nat} {A : Option Addr} {l : List UInt8} (h : RB w B A l) (hB : B ≤ w.heap.size) {t : TypeId} {g : List Int} {rs : List Value} (hg : GH w b t g rs) (hn : noNum rs) (hw : w.grownBy w' (some b)) : RB w' B A l := fun h0 => by
 obtain ⟨b', off, e, hlt, hc⟩ := h h0
 have hne := hg.ne_bytes hn (hc 0 h0)
 refine ⟨b', off, e, hlt, fun j hj => ?_⟩
 exact grown_cell hw (hc j hj) (by simp; exact hne)
theorem RO.grown {w w' : World} {B ob oo b : Nat} {os : List O4} (h : RO w B (some ⟨ob, oo, none⟩) os) (hne : ob ≠ b) (hw : w.grownBy w' (some b)) (hs : w.heap.size ≤ w'.heap.size) : RO w' B (some ⟨ob, oo, none⟩) os := fun h0 => by
 obtain ⟨b', off, e, hlt, hc⟩ := h h0
 injection e with e
 injection e with e1 e2
 subst e1 e2
 refine ⟨_, _, rfl, hlt, fun j hj => ?_⟩
 obtain ⟨c1, c2, c3, c4⟩ := hc j hj
 exact ⟨grown_cell hw c1 (by simp; exact hne), grown_cell hw c2 (by simp; exact hne), grown_cell hw c3 (by simp; exact hne), grown_cell hw c4 (by simp; exact hne)⟩
theorem RO.other {w : World} {B ob oo : Nat} {os : List O4} (h : RO w B (some ⟨ob, oo, none⟩) os) {a : Addr} (hne : ob ≠ a.block) (v : Value) : RO (w.setCell a v) B (some ⟨ob, oo, none⟩) os := fun h0 => by
 obtain ⟨b', off, e, hlt, hc⟩ := h h0
 injection e with e
 injection e with e1 e2
 subst e1 e2
 have hw := grown_set w a v
 refine ⟨_, _, rfl, hlt, fun j hj => ?_⟩
 obtain ⟨c1, c2, c3, c4⟩ := hc j hj
 exact ⟨grown_cell hw c1 (by simp; exact hne), grown_cell hw c2 (by simp; exact hne), grown_cell hw c3 (by simp; exact hne), grown_cell hw c4 (by simp; exact hne)⟩
theorem grown_frozen {w w' : World} {r : Option Nat} (h : w.grownBy w' r) {p : Addr} (hp : p.block < w.heap.size) (hr : some p.block ≠ r) : w'.frozen? p = w.frozen? p :=
 World.frozen?_of_block (w := w) (h.block p.block hp hr)
theorem grown_new {w w' : World} {r : Option Nat} (h : w.grownBy w' r) {a : Addr} (ha : w.heap.size ≤ a.block) (v : Value) : w.grownBy (w'.setCell a v) r :=
 ⟨h.os, h.tape, h.output, by rw [show (w'.setCell a v).heap.size = w'.heap.size by simp [World.setCell]]; exact h.size, fun k hk hne => (Below.heap_setCell _ _ _ _ (by omega)).trans (h.block k hk hne)⟩
theorem XM.sets {w : World} {X : Nat} {z0 z1 z2 z3 z4 : Value} (h : w.heap[X]? = some (.cells #[z0, z1, z2, z3, z4] 266 (0, 0))) (t : ByteArray) (A : Option Addr) (n c : Nat) (mv : Value) (fr : Int) (PA : Option Addr) (pn pc : Nat) :
 XM (((((w.setCell ⟨X, 0, none⟩ (.string t)).setCell ⟨X, 1, none⟩ (.slice A n c)).setCell ⟨X, 2, none⟩ mv).setCell ⟨X, 3, none⟩ (.int .i64 fr)).setCell ⟨X, 4, none⟩ (.slice PA pn pc)) X t A n c mv fr PA pn pc := by
 unfold XM
 simp [World.setCell, Array.getElem?_modify, h]
theorem row5 {w : World} {X : Nat} {z0 z1 z2 z3 z4 : Value} {T : TypeId} (h : w.heap[X]? = some (.cells #[z0, z1, z2, z3, z4] T (0, 0))) :
 (w.cell? ⟨X, 0, none⟩ = some z0 ∧ w.cell? ⟨X, 1, none⟩ = some z1 ∧ w.cell? ⟨X, 2, none⟩ = some z2 ∧ w.cell? ⟨X, 3, none⟩ = some z3 ∧ w.cell? ⟨X, 4, none⟩ = some z4) ∧
 (w.frozen? ⟨X, 0, none⟩ = false ∧ w.frozen? ⟨X, 1, none⟩ = false ∧ w.frozen? ⟨X, 2, none⟩ = false ∧ w.frozen? ⟨X, 3, none⟩ = false ∧ w.frozen? ⟨X, 4, none⟩ = false) := by
 refine ⟨⟨?_, ?_, ?_, ?_, ?_⟩, ⟨?_, ?_, ?_, ?_, ?_⟩⟩
 all_goals first | (rw [cell_of_row _ _ _ _ _ _ h]; rfl) | simp [World.frozen?, h]
def cntOf : Option Value → Nat
 | some (.int _ k) => k.toNat
 | _ => 0
def RunCut (w1 : World) (E : Env) (mv : Value) (os : List O4) (PA : Option Addr) (pc : Nat) (s9 : Value) (wx : World) : Prop :=
 ∃ X oB oo c', s9 = .pointer (some ⟨X, 0, none⟩) ∧ Hid (XM wx X E.t (some ⟨oB, oo, none⟩) os.length c' mv E.fr PA E.l.length pc) ∧ Hid (RO wx wx.heap.size (some ⟨oB, oo, none⟩) os) ∧ Below w1.heap.size w1 wx ∧ w1.heap.size ≤ X ∧ w1.heap.size ≤ oB ∧ oB ≠ X
theorem runCut_one {w1 w4 : World} {E : Env} {mv : Value} {os : List O4} {PA : Option Addr} {pc oB c' : Nat} (hbv : Below w1.drew.heap.size w1.drew w4) (ho1 : w1.drew.heap.size ≤ oB) (ho2 : oB < w4.heap.size) (ho3 : RO w4 w4.heap.size (some ⟨oB, 0, none⟩) os) :
 RunCut w1 E mv os PA pc (.pointer (some ⟨w4.heap.size, 0, none⟩)) (w4.alloc (.cells #[.string E.t, .slice (some ⟨oB, 0, none⟩) os.length c', mv, .int .i64 E.fr, .slice PA E.l.length pc] 266)) :=
 ⟨w4.heap.size, oB, 0, c', rfl, heap_alloc_new w4 _, (ho3.below ((bR w4.heap.size w4).alloc (nl _) _)).more (by simp), (((bR w1.heap.size w1).drew).trans hbv).alloc hbv.size _, hbv.size, ho1, Nat.ne_of_lt ho2⟩
theorem runCut_two {w1 w4 : World} {E : Env} {mv : Value} {os : List O4} {PA : Option Addr} {pc oB c' : Nat} (hbv : Below (w1.alloc (.cells #[.string ⟨#[]⟩, .slice none 0 0, .nilIface, .int .i64 0, .slice none 0 0] 266)).drew.heap.size (w1.alloc (.cells #[.string ⟨#[]⟩, .slice none 0 0, .nilIface, .int .i64 0, .slice none 0 0] 266)).drew w4) (ho1 : (w1.alloc (.cells #[.string ⟨#[]⟩, .slice none 0 0, .nilIface, .int .i64 0, .slice none 0 0] 266)).drew.heap.size ≤ oB) (ho3 : RO w4 w4.heap.size (some ⟨oB, 0, none⟩) os)
 (HXL : w1.heap.size < (w1.alloc (.cells #[.string ⟨#[]⟩, .slice none 0 0, .nilIface, .int .i64 0, .slice none 0 0] 266)).drew.heap.size) (HX : w4.heap[w1.heap.size]? = some (.cells #[.string ⟨#[]⟩, .slice none 0 0, .nilIface, .int .i64 0, .slice none 0 0] 266)) :
 RunCut w1 E mv os PA pc (.pointer (some ⟨w1.heap.size, 0, none⟩)) (((((w4.setCell ⟨w1.heap.size, 0, none⟩ (.string E.t)).setCell ⟨w1.heap.size, 1, none⟩ (.slice (some ⟨oB, 0, none⟩) os.length c')).setCell ⟨w1.heap.size, 2, none⟩ mv).setCell ⟨w1.heap.size, 3, none⟩ (.int .i64 E.fr)).setCell ⟨w1.heap.size, 4, none⟩ (.slice PA E.l.length pc)) := by
 have hne : oB ≠ w1.heap.size := fun e => by
  have h2 := Nat.lt_of_lt_of_le HXL ho1
  rw [e] at h2
  exact Nat.lt_irrefl _ h2
 have h1 : Below w1.heap.size w1 (w1.alloc (.cells #[.string ⟨#[]⟩, .slice none 0 0, .nilIface, .int .i64 0, .slice none 0 0] 266)).drew := ((bR w1.heap.size w1).alloc (nl _) _).drew
 have h2 := h1.trans (hbv.mono (Nat.le_of_lt HXL))
 refine ⟨w1.heap.size, oB, 0, c', rfl, XM.sets HX _ _ _ _ _ _ _ _ _, ?_, ?_, nl _, Nat.le_of_lt (Nat.lt_of_lt_of_le HXL ho1), hne⟩
 · have h5 := ((((ho3.other (a := ⟨w1.heap.size, 0, none⟩) hne (.string E.t)).other (a := ⟨w1.heap.size, 1, none⟩) hne (.slice (some ⟨oB, 0, none⟩) os.length c')).other (a := ⟨w1.heap.size, 2, none⟩) hne mv).other (a := ⟨w1.heap.size, 3, none⟩) hne (.int .i64 E.fr)).other (a := ⟨w1.heap.size, 4, none⟩) hne (.slice PA E.l.length pc)
   exact h5.more (by simp)
 · exact ((((h2.setCell (nl _) _).setCell (nl _) _).setCell (nl _) _).setCell (nl _) _).setCell (nl _) _
set_option maxHeartbeats 2000000 in
theorem run_may (K : MemK) (hK : MemOK K) (hnn : noNum K.rs) (w : World) (b : Nat) (g : List Int) (E : Env) (A : Option Addr) (os : List O4) (cap B : Nat) (PA : Option Addr) (pc : Nat) (hr : RO w B A os) (hB : B ≤ w.heap.size) (hc : os.length ≤ cap) (hm : cap ≤ maxLen) (ht : E.t.size ≤ 549755813888)
 (hG : GH w b K.t g K.rs) (hg : gam g) (hl : RB w w.heap.size PA E.l) (hpl : E.l.length ≤ pc) (hpm : pc ≤ maxLen) (hf : faultN (titB E.t) os = -1) :
 Calls Tryz.prog 183 #[progV E.t A os.length cap, .iface K.T (.pointer (some ⟨b, 0, none⟩)), .int .i64 E.fr, .slice PA E.l.length pc] w fun e w' => e = .returned (.int .i64 ((goN E os 200 0 g).2 : Nat)) ∧ GH w' b K.t (goN E os 200 0 g).1 K.rs ∧ w.grownBy w' (some b) := by
 obtain ⟨hfit, hmay⟩ := may_all hf
 obtain ⟨-, hl1, hl64, hsm⟩ := (fitsB_iff _ _).1 hfit
 have hmf : ∀ (fn : Fn) (first cap : Array Value) (w : World), (Instr.makeFunc fn first cap).run Tryz.prog w = .ok (.func fn first cap) w := fun _ _ _ _ => rfl
 have he := fun W => eql_mem K.T (.pointer (some ⟨b, 0, none⟩)) W
 have bw : Below w.heap.size w ((w.alloc (.cells #[.string E.t, .slice A os.length cap] 61)).alloc (.cells #[.int .i64 0] 3)) := ((bR _ _).alloc (nl _) _).alloc (by simp) _
 have HM := qh (emay_any E.t A os cap B _ (hr.below (bw.mono hB)) (Nat.le_trans hB bw.size) hc hm ht)
 rw [hf] at HM
 unfold progV at HM ⊢
 have hz : ((w.alloc (.cells #[.string E.t, .slice A os.length cap] 61)).alloc (.cells #[.int .i64 0] 3)).cell? ⟨w.heap.size + 1, 0, none⟩ = some (.int .i64 0) := by simp [go_sem]
 have hzf : ((w.alloc (.cells #[.string E.t, .slice A os.length cap] 61)).alloc (.cells #[.int .i64 0] 3)).frozen? ⟨w.heap.size + 1, 0, none⟩ = false := by simp [go_sem]
 have hp0 : ((w.alloc (.cells #[.string E.t, .slice A os.length cap] 61)).alloc (.cells #[.int .i64 0] 3)).cell? ⟨w.heap.size, 0, none⟩ = some (.string E.t) := by simp [go_sem]
 have hp1 : ((w.alloc (.cells #[.string E.t, .slice A os.length cap] 61)).alloc (.cells #[.int .i64 0] 3)).cell? ⟨w.heap.size, 1, none⟩ = some (.slice A os.length cap) := by simp [go_sem]
 have HZ := qh hz; have HZF := qh hzf; have HP0 := qh hp0; have HP1 := qh hp1; have HR := qh hr; have HL := qh hl; have HG := qh hG
 have HMY := qh hmay; have HSM := qh hsm
 have hbl := hG.lt
 clear hr hf hz hzf hp0 hp1 hl hG hmay hsm hfit
 go_enter_defers Tryz.func183, Tryz.ntmps183
 go_upto_region 4 with (go_at_call 94; refine HM.out.mono ?_; rintro e w1 ⟨rfl, hb1⟩)
 have hcD := (hb1.cell (p := ⟨w.heap.size + 1, 0, none⟩) (cell_lt HZ.out)).trans HZ.out
 have hfD := (hb1.frozen (p := ⟨w.heap.size + 1, 0, none⟩) (cell_lt HZ.out)).trans HZF.out
 have hc0 := (hb1.cell (p := ⟨w.heap.size, 0, none⟩) (cell_lt HP0.out)).trans HP0.out
 have hc1 := (hb1.cell (p := ⟨w.heap.size, 1, none⟩) (cell_lt HP1.out)).trans HP1.out
 have hsz1 := hb1.size
 simp only [World.size_alloc] at hsz1
 have hb := bw.trans (hb1.mono bw.size)
 clear bw hb1 HM
 go_cut [9] from 19 to 27 (fun s9 wx => RunCut w1 E (.iface K.T (.pointer (some ⟨b, 0, none⟩))) os PA pc s9 wx)
 case first =>
  have hZb : Below w1.heap.size w1.drew (w1.alloc (.cells #[.string ⟨#[]⟩, .slice none 0 0, .nilIface, .int .i64 0, .slice none 0 0] 266)).drew := ((bR _ w1.drew).alloc (nl w1.heap.size) (.cells #[.string ⟨#[]⟩, .slice none 0 0, .nilIface, .int .i64 0, .slice none 0 0] 266))
  have d0 : w1.drew.cell? ⟨w.heap.size, 0, none⟩ = some (.string E.t) := hc0
  have d1 : w1.drew.cell? ⟨w.heap.size, 1, none⟩ = some (.slice A os.length cap) := hc1
  have e0 : (w1.alloc (.cells #[.string ⟨#[]⟩, .slice none 0 0, .nilIface, .int .i64 0, .slice none 0 0] 266)).drew.cell? ⟨w.heap.size, 0, none⟩ = some (.string E.t) := (hZb.cell (p := ⟨w.heap.size, 0, none⟩) (show w.heap.size < w1.heap.size by omega)).trans hc0
  have e1 : (w1.alloc (.cells #[.string ⟨#[]⟩, .slice none 0 0, .nilIface, .int .i64 0, .slice none 0 0] 266)).drew.cell? ⟨w.heap.size, 1, none⟩ = some (.slice A os.length cap) := (hZb.cell (p := ⟨w.heap.size, 1, none⟩) (show w.heap.size < w1.heap.size by omega)).trans hc1
  have RD : RO w1.drew B A os := HR.out.below (hb.drew.mono hB)
  have RA : RO (w1.alloc (.cells #[.string ⟨#[]⟩, .slice none 0 0, .nilIface, .int .i64 0, .slice none 0 0] 266)).drew B A os := RD.below (hZb.mono (show B ≤ w1.heap.size by omega))
  have HC1 := qh (clone_any A os cap B w1.drew RD (show B ≤ w1.heap.size by omega) hc hl1 hl64)
  have HC2 := qh (clone_any A os cap B (w1.alloc (.cells #[.string ⟨#[]⟩, .slice none 0 0, .nilIface, .int .i64 0, .slice none 0 0] 266)).drew RA (show B ≤ (w1.alloc (.cells #[.string ⟨#[]⟩, .slice none 0 0, .nilIface, .int .i64 0, .slice none 0 0] 266)).heap.size by rw [World.size_alloc]; omega) hc hl1 hl64)
  have HXZ : Hid ((w1.alloc (.cells #[.string ⟨#[]⟩, .slice none 0 0, .nilIface, .int .i64 0, .slice none 0 0] 266)).drew.heap[w1.heap.size]? = some (.cells #[.string ⟨#[]⟩, .slice none 0 0, .nilIface, .int .i64 0, .slice none 0 0] 266)) := heap_alloc_new w1 _
  have HXL : Hid (w1.heap.size < (w1.alloc (.cells #[.string ⟨#[]⟩, .slice none 0 0, .nilIface, .int .i64 0, .slice none 0 0] 266)).drew.heap.size) := by show w1.heap.size < (w1.alloc (.cells #[.string ⟨#[]⟩, .slice none 0 0, .nilIface, .int .i64 0, .slice none 0 0] 266)).heap.size; rw [World.size_alloc]; exact Nat.lt_succ_self _
  clear RD RA
  refine wp_region_noPanic ?_
  go_region_with
   (first
     | (go_at_call 96; with_reducible refine HC1.out.mono ?_; rintro e w4 ⟨v, rfl, hov, hbv⟩; obtain ⟨oB, c', rfl, ho1, ho2, ho3⟩ := hov.some_ hl1; have k0 := (hbv.cell (p := ⟨w.heap.size, 0, none⟩) (cell_lt d0)).trans d0; have k1 := (hbv.cell (p := ⟨w.heap.size, 1, none⟩) (cell_lt d1)).trans d1; have a0 : (w4.alloc (.cells #[.string ⟨#[]⟩, .slice none 0 0, .nilIface, .int .i64 0, .slice none 0 0] 266)).cell? ⟨w.heap.size, 0, none⟩ = some (.string E.t) := (((bR w4.heap.size w4).alloc (nl _) (.cells #[.string ⟨#[]⟩, .slice none 0 0, .nilIface, .int .i64 0, .slice none 0 0] 266)).cell (p := ⟨w.heap.size, 0, none⟩) (cell_lt k0)).trans k0; have a1 : (w4.alloc (.cells #[.string ⟨#[]⟩, .slice none 0 0, .nilIface, .int .i64 0, .slice none 0 0] 266)).cell? ⟨w.heap.size, 1, none⟩ = some (.slice A os.length cap) := (((bR w4.heap.size w4).alloc (nl _) (.cells #[.string ⟨#[]⟩, .slice none 0 0, .nilIface, .int .i64 0, .slice none 0 0] 266)).cell (p := ⟨w.heap.size, 1, none⟩) (cell_lt k1)).trans k1)
     | (go_at_call 96; with_reducible refine HC2.out.mono ?_; rintro e w4 ⟨v, rfl, hov, hbv⟩; obtain ⟨oB, c', rfl, ho1, ho2, ho3⟩ := hov.some_ hl1; have k0 := (hbv.cell (p := ⟨w.heap.size, 0, none⟩) (cell_lt e0)).trans e0; have k1 := (hbv.cell (p := ⟨w.heap.size, 1, none⟩) (cell_lt e1)).trans e1; have HX := qh ((hbv.block w1.heap.size HXL.out).trans HXZ.out); obtain ⟨⟨y0, y1, y2, y3, y4⟩, ⟨f0, f1, f2, f3, f4⟩⟩ := row5 HX.out))
  all_goals
   refine NoPanic.normal ?_
   go_wp2_with fail
   go_meet
   first
    | (have q := HX; exact runCut_two hbv ho1 ho3 HXL.out HX.out)
    | (have q := a0; exact runCut_one hbv ho1 ho2 ho3)
 case rest =>
  obtain ⟨X, oB, oo, c', rfl, hx, ho, hbx, hX, hO, hne⟩ := hcut
  have hbw := hb.trans (hbx.mono (by omega))
  have hD1 := (hbx.cell (p := ⟨w.heap.size + 1, 0, none⟩) (show w.heap.size + 1 < w1.heap.size by omega)).trans hcD
  have hD2 := (hbx.frozen (p := ⟨w.heap.size + 1, 0, none⟩) (show w.heap.size + 1 < w1.heap.size by omega)).trans hfD
  have D1 := qh hD1
  have D2 := qh hD2
  have H0 := qh (HG.out.below hbw hbl)
  have L0 := qh (HL.out.below hbw)
  have W0 := qh (grown_below (r := some b) hbw)
  have hs0 := hbx.size
  clear hD1 hD2 hbx hbw hcD hfD hc0 hc1 HZ HZF HP0 HP1 hb
  go_wp2_with fail
  go_loopw [10] (fun s wr => ∃ (p k : Nat) (g' : List Int), s = .int .i64 p ∧ p ≤ os.length ∧ k ≤ 200 ∧ Hid (gam g') ∧ Hid (XM wr X E.t (some ⟨oB, oo, none⟩) os.length c' (.iface K.T (.pointer (some ⟨b, 0, none⟩))) E.fr PA E.l.length pc) ∧ Hid (RO wr wr.heap.size (some ⟨oB, oo, none⟩) os) ∧ Hid (GH wr b K.t g' K.rs) ∧ Hid (RB wr w.heap.size PA E.l) ∧ Hid (wr.cell? ⟨w.heap.size + 1, 0, none⟩ = some (.int .i64 k)) ∧ Hid (wr.frozen? ⟨w.heap.size + 1, 0, none⟩ = false) ∧ Hid ((goN E os (200 - k) p g').1 = (goN E os 200 0 g).1 ∧ (goN E os (200 - k) p g').2 + k = (goN E os 200 0 g).2) ∧ Hid (w.grownBy wr (some b)) ∧ w1.heap.size ≤ wr.heap.size) (fun _ w' => 200 - cntOf (w'.cell? ⟨w.heap.size + 1, 0, none⟩))
  case atStart => exact ⟨0, 0, g, rfl, by omega, by omega, hg, hx, ho, H0, L0, D1, D2, ⟨rfl, rfl⟩, W0, hs0⟩
  case round =>
   obtain ⟨p, k, g', rfl, hp, hk, Hg, Hx, Ho, Hh, Hl, Hc, Hf, He, Hw, hs⟩ := hrel
   clear hx ho H0 L0 D1 D2 W0 hs0
   have x1 := Hx.out.c1
   have cD := Hc.out
   have fD := Hf.out
   by_cases h1 : p < os.length
   · have h1c : (p : Int) < (os.length : Int) := by omega
     by_cases h2 : k < 200
     · have h2c : (k : Int) < 200 := by omega
       have HD := qh (do_any K wr X b g' E (some ⟨oB, oo, none⟩) c' PA pc os ⟨hK, Hx.out, Hh.out, Hg.out, Hl.out.more (by omega), hpl, hpm, by unfold maxLen; omega, by omega⟩ Ho.out hl64 p h1 (HMY.out p h1) (HSM.out _ (List.getElem_mem h1)).2.2.1)
       go_wp2_with (go_at_call 195; refine HD.out.mono ?_; rintro e w2 ⟨rfl, Hh2, Hw2⟩; have cD2 := grown_cell Hw2 Hc.out (by simp; omega); have fD2 := (grown_frozen Hw2 (p := ⟨w.heap.size + 1, 0, none⟩) (show w.heap.size + 1 < wr.heap.size by omega) (by simp; omega)).trans Hf.out)
       have hsz2 := Hw2.size
       have hwc : w.heap.size + 1 < w2.heap.size := by omega
       have hcast : ((k : Int) + 1) = ((k + 1 : Nat) : Int) := by omega
       have hst := goN_step E os (200 - (k + 1)) p g' h1
       rw [show 200 - (k + 1) + 1 = 200 - k by omega] at hst
       go_roundw
       case rel =>
        have Ho2 := Ho.out.grown (b := b) (by omega) Hw2 hsz2
        have Hl2 := Hl.out.grown (by omega) Hh.out hnn Hw2
        refine ⟨nxtN os.length g' p os[p], k + 1, gmN E g' os[p], rfl, (HMY.out p h1).nxt g' p h1, by omega, (HMY.out p h1).gm (HSM.out _ (List.getElem_mem h1)).2.2.1 E Hg.out, ?_, ?_, ?_, ?_, ?_, ?_, ?_, ?_, ?_⟩
        · exact (Hx.out.at_ (Hw2.block X Hx.out.lt (by simp; omega))).at_ (Below.heap_setCell _ _ _ _ (show X ≠ w.heap.size + 1 by omega))
        · exact (Ho2.other (a := ⟨w.heap.size + 1, 0, none⟩) (show oB ≠ w.heap.size + 1 by omega) _).more (by simp; omega)
        · exact Hh2.at_ (Below.heap_setCell _ _ _ _ (show b ≠ w.heap.size + 1 by omega))
        · exact Hl2.below ((bR w.heap.size w2).setCell (show w.heap.size ≤ w.heap.size + 1 by omega) _)
        · unfold Hid; rw [← hcast]; exact World.cell?_setCell_same w2 _ _ cD2
        · unfold Hid; rw [World.frozen?_setCell]; exact fD2
        · refine ⟨?_, ?_⟩
          · rw [← He.out.1, hst]
          · rw [← He.out.2, hst]; omega
        · exact grown_new (grown_trans Hw.out Hw2) (show w.heap.size ≤ w.heap.size + 1 by omega) _
        · simp; omega
       case measure =>
        rw [cD]
        have : (w2.setCell ⟨w.heap.size + 1, 0, none⟩ (.int .i64 ((k : Int) + 1))).cell? ⟨w.heap.size + 1, 0, none⟩ = some (.int .i64 ((k : Int) + 1)) := World.cell?_setCell_same w2 _ _ cD2
        rw [this]
        simp [cntOf]
        omega
     · obtain rfl : k = 200 := by omega
       have hend := goN_end E os (200 - 200) p g' (.inl rfl)
       rw [hend] at He
       go_wp2
       refine leaves_cons (f := 194) (args := #[.pointer (some ⟨w.heap.size + 1, 0, none⟩)]) (by simp) (by simp [go_sem]) ?_
       refine (caught_none ⟨w.heap.size + 1, 0, none⟩ _).mono ?_
       rintro e u' w'' ⟨rfl, rfl, rfl⟩
       refine ⟨_, results_run (D := w.heap.size + 1) (z := 200) rfl ?_, ?_, ?_, ?_⟩
       · exact World.cell?_setCell_same wr _ _ cD
       · have h2 : 0 + 200 = (goN E os 200 0 g).2 := He.out.2; rw [← h2]; rfl
       · have h2 : g' = (goN E os 200 0 g).1 := He.out.1; rw [← h2]; exact Hh.out.at_ (Below.heap_setCell _ _ _ _ (show b ≠ w.heap.size + 1 by omega))
       · exact grown_new Hw.out (show w.heap.size ≤ w.heap.size + 1 by omega) _
   · have h1c : ¬ (p : Int) < (os.length : Int) := by omega
     have hend := goN_end E os (200 - k) p g' (.inr (by omega))
     rw [hend] at He
     go_wp2
     refine leaves_cons (f := 194) (args := #[.pointer (some ⟨w.heap.size + 1, 0, none⟩)]) (by simp) (by simp [go_sem]) ?_
     refine (caught_none ⟨w.heap.size + 1, 0, none⟩ _).mono ?_
     rintro e u' w'' ⟨rfl, rfl, rfl⟩
     refine ⟨_, results_run (D := w.heap.size + 1) (z := k) rfl ?_, ?_, ?_, ?_⟩
     · exact World.cell?_setCell_same wr _ _ cD
     · have h2 : 0 + k = (goN E os 200 0 g).2 := He.out.2; rw [← h2, Nat.zero_add]
     · have h2 : g' = (goN E os 200 0 g).1 := He.out.1; rw [← h2]; exact Hh.out.at_ (Below.heap_setCell _ _ _ _ (show b ≠ w.heap.size + 1 by omega))
     · exact grown_new Hw.out (show w.heap.size ≤ w.heap.size + 1 by omega) _
theorem run_any (K : MemK) (hK : MemOK K) (hnn : noNum K.rs) (w : World) (b : Nat) (g : List Int) (E : Env) (A : Option Addr) (os : List O4) (cap B : Nat) (PA : Option Addr) (pc : Nat) (hr : RO w B A os) (hB : B ≤ w.heap.size) (hc : os.length ≤ cap) (hm : cap ≤ maxLen) (ht : E.t.size ≤ 549755813888)
 (hG : GH w b K.t g K.rs) (hg : gam g) (hl : RB w w.heap.size PA E.l) (hpl : E.l.length ≤ pc) (hpm : pc ≤ maxLen) :
 Calls Tryz.prog 183 #[progV E.t A os.length cap, .iface K.T (.pointer (some ⟨b, 0, none⟩)), .int .i64 E.fr, .slice PA E.l.length pc] w fun e w' => e = .returned (.int .i64 ((frameN E os g).2 : Nat)) ∧ GH w' b K.t (frameN E os g).1 K.rs ∧ w.grownBy w' (some b) := by
 by_cases hf : faultN (titB E.t) os = -1
 · have e : frameN E os g = goN E os 200 0 g := by unfold frameN; rw [if_pos hf]
   rw [e]
   exact run_may K hK hnn w b g E A os cap B PA pc hr hB hc hm ht hG hg hl hpl hpm hf
 · have e : frameN E os g = (g, 0) := by unfold frameN; rw [if_neg hf]
   rw [e]
   refine (run_not K w b g E A os cap B (.slice PA E.l.length pc) hr hB hc hm ht (by rw [beq_eq_false_iff_ne]; exact hf)).mono ?_
   rintro e w' ⟨rfl, hb⟩
   exact ⟨rfl, hG.below hb hG.lt, grown_below hb⟩
theorem infoCells : (Tryz.prog.info? 247).map (·.size) = some 32 := by kernel_rfl
theorem zeroCells (w : World) : (zeroValue 247).run Tryz.prog w = .ok (.agg (gC (zG 32))) w :=
 (zero_of_info (P := Tryz.prog) (t := 247) (v := .agg (gC (zG 32))) (n := 32) (by kernel_rfl)).1 w
theorem run_c (w : World) (b : Nat) (g : List Int) (E : Env) (A : Option Addr) (os : List O4) (cap B : Nat) (PA : Option Addr) (pc : Nat) (hr : RO w B A os) (hB : B ≤ w.heap.size) (hc : os.length ≤ cap) (hm : cap ≤ maxLen) (ht : E.t.size ≤ 549755813888)
 (hG : GA w b 247 g) (hg : gam g) (hl : RB w w.heap.size PA E.l) (hpl : E.l.length ≤ pc) (hpm : pc ≤ maxLen) :
 Calls Tryz.prog 183 #[.agg #[.string E.t, .slice A os.length cap], .iface 249 (.pointer (some ⟨b, 0, none⟩)), .int .i64 E.fr, .slice PA E.l.length pc] w fun e w' => e = .returned (.int .i64 ((frameN E os g).2 : Nat)) ∧ GA w' b 247 (frameN E os g).1 ∧ w.grownBy w' (some b) :=
 (run_any mkC okC noC w b g E A os cap B PA pc hr hB hc hm ht (GH.of hG) hg hl hpl hpm).mono fun e w' ⟨h1, h2, h3⟩ => ⟨h1, GH.to h2, h3⟩
set_option maxHeartbeats 1000000 in
theorem step_any (w : World) (g : List Int) (E : Env) (A : Option Addr) (os : List O4) (cap B : Nat) (PA : Option Addr) (pc : Nat) (hr : RO w B A os) (hB : B ≤ w.heap.size) (hc : os.length ≤ cap) (hm : cap ≤ maxLen) (ht : E.t.size ≤ 549755813888)
 (hg : gam g) (hl : RB w w.heap.size PA E.l) (hpl : E.l.length ≤ pc) (hpm : pc ≤ maxLen) :
 Calls Tryz.prog 165 #[progV E.t A os.length cap, .agg (gC g), .int .i64 E.fr, .slice PA E.l.length pc] w fun e w' => e = .returned (.agg (gC (frameN E os g).1)) ∧ Below w.heap.size w w' := by
 have hz := zeroState
 have hz2 := zeroCells
 have HR := qh hr; have HL := qh hl; have HG := qh hg
 have HGL := qh hg.1
 have HGZ := qh (gam_len hg)
 have HF := qh (gam_len (frameN_gam E os hg))
 have HF1 := qh (frameN_gam E os hg).1
 clear hr hl hg
 have bw : Below w.heap.size w ((((w.alloc (.cells #[.string E.t, .slice A os.length cap] 61)).alloc (.cells (gC g) 152)).alloc (.cells (gC (zG 32)) 152)).alloc (.cells (gC (zG 32)) 247)) := ((((bR _ _).alloc (nl _) _).alloc (by simp) _).alloc (by simp; omega) _).alloc (by simp; omega) _
 have G5 := qh ((GA.new (w.alloc (.cells #[.string E.t, .slice A os.length cap] 61)) 152 g).alloc (.cells (gC (zG 32)) 152))
 have G8 := qh ((GA.new ((w.alloc (.cells #[.string E.t, .slice A os.length cap] 61)).alloc (.cells (gC g) 152)) 152 (zG 32)).alloc (.cells (gC (zG 32)) 247))
 have G9 := qh (GA.new (((w.alloc (.cells #[.string E.t, .slice A os.length cap] 61)).alloc (.cells (gC g) 152)).alloc (.cells (gC (zG 32)) 152)) 247 (zG 32))
 simp only [World.size_alloc] at G5 G8 G9
 have P0 : Hid (((((w.alloc (.cells #[.string E.t, .slice A os.length cap] 61)).alloc (.cells (gC g) 152)).alloc (.cells (gC (zG 32)) 152)).alloc (.cells (gC (zG 32)) 247)).cell? ⟨w.heap.size, 0, none⟩ = some (.string E.t)) := by unfold Hid; simp [go_sem]
 have P1 : Hid (((((w.alloc (.cells #[.string E.t, .slice A os.length cap] 61)).alloc (.cells (gC g) 152)).alloc (.cells (gC (zG 32)) 152)).alloc (.cells (gC (zG 32)) 247)).cell? ⟨w.heap.size, 1, none⟩ = some (.slice A os.length cap)) := by unfold Hid; simp [go_sem]
 unfold progV
 go_enter Tryz.func165, Tryz.ntmps165
 go_wp2_with (first
  | (with_reducible refine wpList_load_g rfl 152 (.tmp 5) rfl (w.heap.size + 1) (by with_unfolding_all rfl) 152 g G5.out Tryz.underlying152 (by rw [HGL.out]; exact infoState) ?_)
  | (with_reducible refine wpList_store_g rfl 247 (.tmp 9) (.tmp 10) rfl (w.heap.size + 1 + 1 + 1) (by with_unfolding_all rfl) 247 (zG 32) g G9.out (by with_unfolding_all rfl) HGZ.out (by rw [HGL.out]; exact infoCells) ?_; intro w3 G3 S3 R3; have p0 := grown_cell R3 P0.out (by simp; omega); have p1 := grown_cell R3 P1.out (by simp; omega); have H3 := qh G3; have SS := qh S3; have RR := qh R3; clear G3 S3 R3))
 have b3 := bw.grown RR.out bw.size (by simp; omega)
 have hs3 := SS.out
 simp only [World.size_alloc] at hs3
 have H8 := qh (G8.out.grown RR.out (by simp))
 refine (run_c w3 (w.heap.size + 1 + 1 + 1) g E A os cap B PA pc (HR.out.below (b3.mono hB)) (by omega) hc hm ht H3.out HG.out ((HL.out.below b3).more (by omega)) hpl hpm).mono ?_
 rintro e w6 ⟨rfl, g6, r6⟩
 have G6 := qh g6
 have K8 := qh (H8.out.grown r6 (by simp))
 have b6 := b3.grown r6 (by omega) (by simp; omega)
 have hs6 := r6.size
 clear g6 r6 b3 bw H3 SS RR p0 p1
 go_wp2_with (first
  | (with_reducible refine wpList_load_g rfl 247 (.tmp 9) rfl (w.heap.size + 1 + 1 + 1) (by with_unfolding_all rfl) 247 (frameN E os g).1 G6.out Tryz.underlying247 (by rw [HF1.out]; exact infoCells) ?_)
  | (with_reducible refine wpList_store_g rfl 152 (.tmp 8) (.tmp 16) rfl (w.heap.size + 1 + 1) (by with_unfolding_all rfl) 152 (zG 32) (frameN E os g).1 K8.out (by with_unfolding_all rfl) HF.out (by rw [HF1.out]; exact infoState) ?_; intro w7 G7 S7 R7))
 exact bodyPost_ret (results_g rfl G7 rfl Tryz.underlying152 (by rw [HF1.out]; exact infoState)) rfl ⟨rfl, b6.grown R7 (by omega) (by simp; omega)⟩
end Go.Proofs.YtpnobpligchpiaaGreatDoor
