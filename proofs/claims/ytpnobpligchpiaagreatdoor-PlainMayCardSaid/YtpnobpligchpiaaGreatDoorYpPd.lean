/- texts of YpPd -/
import Derived.Test.YtpnobpligchpiaaGreatDoorYpK
import Derived.Test.YtpnobpligchpiaaGreatDoorYpPc
namespace Go.Proofs.YtpnobpligchpiaaGreatDoor
set_option maxRecDepth 100000
open Go.RowKit
set_option linter.unusedVariables false
set_option linter.unusedSimpArgs false
theorem core_press_nil (w : World) (b : Int) : Calls Tryz.prog 16 #[.pointer none, .int .u8 b] w fun e w' => e = .returned (.int .i64 6) ∧ w = w' := by
 have HC := qh (core_closed_nil w)
 go_enter Tryz.func16, Tryz.ntmps16
 go_wp2_with (go_at_call 61; (refine HC.out.mono ?_); rintro en w1 ⟨rfl, rfl⟩)
 go_ret
 exact ⟨rfl, rfl⟩
theorem core_recv_nil (w : World) : Calls Tryz.prog 24 #[.pointer none, .slice none 0 0] w fun e w' => e = .returned (.int .i64 6) ∧ w = w' := by
 have HC := qh (core_closed_nil w)
 go_enter Tryz.func24, Tryz.ntmps24
 go_wp2_with (go_at_call 61; (refine HC.out.mono ?_); rintro en w1 ⟨rfl, rfl⟩)
 go_ret
 exact ⟨rfl, rfl⟩
theorem pmark_nil (w : World) : Calls Tryz.prog 98 #[.pointer none] w fun e w' => e = .returned (.tuple #[]) ∧ w = w' := by
 go_enter Tryz.func98, Tryz.ntmps98
 go_wp2_with (first
  | (go_at_call 54; (with_reducible refine (plain_core_nil _).mono ?_); rintro e w1 ⟨rfl, rfl⟩))
 go_loopw [3] (fun v3 wr => w = wr) (fun _ _ => 0)
 case atStart => rfl
 case round =>
  obtain rfl := hrel
  go_wp2_with (first
   | (go_at_call 54; (with_reducible refine (plain_core_nil _).mono ?_); rintro e w1 ⟨rfl, rfl⟩)
   | (go_at_call 58; (with_reducible refine (core_marks_nil _).mono ?_); rintro e w1 ⟨rfl, rfl⟩)
   | (go_at_call 59; (with_reducible refine (core_queue_nil _).mono ?_); rintro e w1 ⟨rfl, rfl⟩)
   | (go_at_call 60; (with_reducible refine (front_nil _).mono ?_); rintro e w1 ⟨rfl, rfl⟩))
  go_end0
  exact ⟨rfl, rfl⟩
theorem ppress_nil (w : World) (b : Int) : Calls Tryz.prog 44 #[.pointer none, .int .u8 b] w fun e w' => e = .returned (.int .i64 6) ∧ w = w' := by
 go_enter Tryz.func44, Tryz.ntmps44
 go_wp2_with (first
  | (go_at_call 54; (with_reducible refine (plain_core_nil _).mono ?_); rintro e w1 ⟨rfl, rfl⟩)
  | (go_at_call 16; (with_reducible refine (core_press_nil _ _).mono ?_); rintro e w1 ⟨rfl, rfl⟩)
  | (go_at_call 98; (with_reducible refine (pmark_nil _).mono ?_); rintro e w1 ⟨rfl, rfl⟩))
 go_ret
 exact ⟨rfl, rfl⟩
theorem preceive_nil (w : World) : Calls Tryz.prog 45 #[.pointer none, .slice none 0 0] w fun e w' => e = .returned (.int .i64 6) ∧ w = w' := by
 go_enter Tryz.func45, Tryz.ntmps45
 go_wp2_with (first
  | (go_at_call 54; (with_reducible refine (plain_core_nil _).mono ?_); rintro e w1 ⟨rfl, rfl⟩)
  | (go_at_call 24; (with_reducible refine (core_recv_nil _).mono ?_); rintro e w1 ⟨rfl, rfl⟩)
  | (go_at_call 98; (with_reducible refine (pmark_nil _).mono ?_); rintro e w1 ⟨rfl, rfl⟩))
 go_ret
 exact ⟨rfl, rfl⟩
theorem ptick_nil (w : World) : Calls Tryz.prog 50 #[.pointer none] w fun e w' => e = .returned (.slice none 0 0) ∧ w = w' := by
 go_enter Tryz.func50, Tryz.ntmps50
 go_wp2_with (first
  | (go_at_call 54; (with_reducible refine (plain_core_nil _).mono ?_); rintro e w1 ⟨rfl, rfl⟩)
  | (go_at_call 20; (with_reducible refine (core_tick_nil _).mono ?_); rintro e w1 ⟨rfl, rfl⟩))
 go_ret
 exact ⟨rfl, rfl⟩
theorem pquit_nil (w : World) : Calls Tryz.prog 51 #[.pointer none] w fun e w' => e = .returned (.slice none 0 0) ∧ w = w' := by
 go_enter Tryz.func51, Tryz.ntmps51
 go_wp2_with (first
  | (go_at_call 54; (with_reducible refine (plain_core_nil _).mono ?_); rintro e w1 ⟨rfl, rfl⟩)
  | (go_at_call 29; (with_reducible refine (core_quit_nil _).mono ?_); rintro e w1 ⟨rfl, rfl⟩))
 go_ret
 exact ⟨rfl, rfl⟩
theorem pevents_nil (w : World) : Calls Tryz.prog 52 #[.pointer none] w fun e w' => e = .returned (.slice none 0 0) ∧ w = w' := by
 go_enter Tryz.func52, Tryz.ntmps52
 go_wp2_with (first
  | (go_at_call 54; (with_reducible refine (plain_core_nil _).mono ?_); rintro e w1 ⟨rfl, rfl⟩)
  | (go_at_call 33; (with_reducible refine (core_events_nil _).mono ?_); rintro e w1 ⟨rfl, rfl⟩))
 go_ret
 exact ⟨rfl, rfl⟩
theorem pclosed_nil (w : World) : Calls Tryz.prog 53 #[.pointer none] w fun e w' => e = .returned (.bool true) ∧ w = w' := by
 go_enter Tryz.func53, Tryz.ntmps53
 go_wp2_with (first
  | (go_at_call 54; (with_reducible refine (plain_core_nil _).mono ?_); rintro e w1 ⟨rfl, rfl⟩)
  | (go_at_call 61; (with_reducible refine (core_closed_nil _).mono ?_); rintro e w1 ⟨rfl, rfl⟩))
 go_ret
 exact ⟨rfl, rfl⟩
theorem pconf_nil (w : World) : Calls Tryz.prog 46 #[.pointer none] w fun e w' => e = .returned (.tuple #[.slice none 0 0, .int .i64 0]) ∧ w = w' := by
 go_enter Tryz.func46, Tryz.ntmps46
 go_wp2_with (first
  | (go_at_call 54; (with_reducible refine (plain_core_nil _).mono ?_); rintro e w1 ⟨rfl, rfl⟩))
 go_ret2
 exact ⟨rfl, rfl⟩
theorem pdisp_nil (w : World) : Calls Tryz.prog 49 #[.pointer none] w fun e w' => e = .returned (.tuple #[.slice none 0 0, .int .i64 0]) ∧ Below w.heap.size w w' := by
 have HH := qh (core_head_nil w)
 go_enter Tryz.func49, Tryz.ntmps49
 go_wp2_with (first
  | (go_at_call 54; (with_reducible refine (plain_core_nil _).mono ?_); rintro e w1 ⟨rfl, rfl⟩)
  | (go_at_call 59; (with_reducible refine (core_queue_nil _).mono ?_); rintro e w1 ⟨rfl, rfl⟩)
  | (go_at_call 57; (with_reducible refine HH.out.mono ?_); rintro e w2 ⟨rfl, b2⟩; have HB2 := qh b2; clear b2)
  | (go_at_call 60; (with_reducible refine (front_nil _).mono ?_); rintro e w1 ⟨rfl, rfl⟩)
  | (go_at_call 46; (with_reducible refine (pconf_nil _).mono ?_); rintro e w1 ⟨rfl, rfl⟩))
 go_ret2
 exact ⟨rfl, HB2.out⟩
def T22 : ByteArray := ⟨#[115, 117, 109]⟩
def os22 : List O4 := [⟨1, 30, 1, 0⟩, ⟨11, 1, 0, 0⟩, ⟨5, 2, 2, 31⟩, ⟨3, 2, 2, 1⟩, ⟨3, 0, 0, 30⟩, ⟨1, 29, 8, 0⟩, ⟨7, 28, 0, 29⟩, ⟨10, 28, 9, 0⟩, ⟨9, 1, 0, 0⟩, ⟨1, 0, 0, 0⟩, ⟨15, 31, 0, 0⟩, ⟨13, 31, 2, 0⟩]
theorem may22 : faultN (titB T22) os22 = -1 := by decide +kernel
theorem ops_new (w : World) (os : List O4) : RO (w.alloc (.cells (opsL os).toArray 151)) (w.heap.size + 1) (some ⟨w.heap.size, 0, none⟩) os := fun h0 => by
 refine ⟨_, _, rfl, Nat.lt_succ_self _, fun j hj => ?_⟩
 have e : ∀ c, c < 4 → (w.alloc (.cells (opsL os).toArray 151)).cell? ⟨w.heap.size, 0 + j * 4 + c, none⟩ = some (opF os[j] c) := fun c hc => by
  rw [cell_of_row _ _ _ _ _ _ (heap_alloc_new w _), Nat.zero_add]
  have := opsL_at os j c hj hc
  simpa using this
 exact ⟨e 0 (by omega), e 1 (by omega), e 2 (by omega), e 3 (by omega)⟩
theorem prog22_any (w : World) : Calls Tryz.prog 43 #[] w fun e w' => ∃ g, e = .returned (.agg #[.string T22, .slice (some ⟨g, 0, none⟩) 12 12]) ∧ RO w' w'.heap.size (some ⟨g, 0, none⟩) os22 ∧ Below w.heap.size w w' := by
 go_enter Tryz.func43, Tryz.ntmps43
 go_wp2
 obtain ⟨W1, hW1⟩ : ∃ W1, W1 = w.alloc (.cells #[.string T22, .slice (some ⟨w.heap.size + 1, 0, none⟩) 12 12] 61) := ⟨_, rfl⟩
 have s1 : W1.heap.size = w.heap.size + 1 := by rw [hW1]; simp
 have b1 : Below w.heap.size w W1 := by rw [hW1]; exact (bR _ _).alloc (nl _) _
 have h1 : W1.heap[w.heap.size]? = some (.cells #[.string T22, .slice (some ⟨w.heap.size + 1, 0, none⟩) 12 12] 61 (0, 0)) := by rw [hW1]; exact heap_alloc_new w _
 have hr := ops_new W1 os22
 generalize hV : World.alloc (World.alloc w _) _ = V
 have hV2 : V = W1.alloc (.cells (opsL os22).toArray 151) := by rw [← hV, hW1]; rfl
 rw [← hV2, s1] at hr
 have b2 : Below w.heap.size w V := by rw [hV2]; exact b1.alloc (by omega) _
 have s2 : V.heap.size = w.heap.size + 2 := by rw [hV2, World.size_alloc, s1]
 have h2 : V.heap[w.heap.size]? = some (.cells #[.string T22, .slice (some ⟨w.heap.size + 1, 0, none⟩) 12 12] 61 (0, 0)) := by rw [hV2]; exact (Below.heap_alloc _ _ _ (by omega)).trans h1
 have c0 : V.cell? ⟨w.heap.size, 0, none⟩ = some (.string T22) := by rw [cell_of_row _ _ _ _ _ _ h2]; rfl
 have c1 : V.cell? ⟨w.heap.size, 1, none⟩ = some (.slice (some ⟨w.heap.size + 1, 0, none⟩) 12 12) := by rw [cell_of_row _ _ _ _ _ _ h2]; rfl
 refine bodyPost_ret (v := .agg #[.string T22, .slice (some ⟨w.heap.size + 1, 0, none⟩) 12 12]) (by simp [results, Tryz.results43, go_sem, c0, c1]) rfl ⟨w.heap.size + 1, rfl, ?_, b2⟩
 rw [s2]; exact hr
theorem show_gam {C : Cf} {T : ByteArray} {os : List O4} {tb : List UInt8} {s : Pl} {g : List Int} {p0 : Nat} (hg : gam g) : gam (showP C T os tb s g p0).1 := by
 unfold showP; split
 · exact hg
 · exact fdN_gam hg _
theorem enc128 {g : List Int} (hg : gam g) : (gEnc g).length = 128 := by rw [encG_length, hg.1]
abbrev cfB2 : Cf := ⟨2, 0, 0, 0, 4, 1, 0, 0, 0, 3⟩
theorem cfB2_may : cfB2.may := by unfold Cf.may MayC; decide
def sQ0 : Pl := newP cfB2
def sQ1 : Pl := ⟨[[7], []], 0, [⟨0, 0, 0, 0, false⟩, ⟨0, 0, 0, 0, false⟩], [], [], false⟩
def sQ2 : Pl := ⟨[[7], [3]], 0, [⟨0, 0, 0, 0, false⟩, ⟨0, 0, 0, 0, false⟩], [], [], false⟩
abbrev pkQ2 : Pk := ⟨1, 1, 0, 0, 0, 0, 0, 0, [3]⟩
theorem sQ1_eq : pressP cfB2 sQ0 7 = (0, sQ1) := rfl
theorem sQ2_eq : recvP cfB2 sQ1 (some pkQ2) = (0, sQ2) := rfl
theorem isQ2 : Told (encC 1 1 0 0 0 0 0 0 [3]) (some pkQ2) := enc_is (by unfold mayC; simp) (by omega) (by omega)
theorem okQ0 : Ok cfB2 0 sQ0 := Ok.new cfB2 (by decide)
theorem okQ1 : Ok cfB2 0 sQ1 := okQ0.press 7
theorem okQ2 : Ok cfB2 1 sQ2 := okQ1.recv (by decide) (some pkQ2) (fun p e => told_bounds isQ2 p e)
theorem plQ0 : playsP cfB2 T22 os22 (newP cfB2) (zG 32) = (sQ0, zG 32) := rfl
theorem plQ1 : playsP cfB2 T22 os22 sQ1 (zG 32) = (sQ1, zG 32) := rfl
theorem shQ1 : (showP cfB2 T22 os22 [] sQ1 (zG 32) 1).2 = 1 := by
 unfold showP; rw [if_neg (by decide)]; rfl
theorem firstQ1 : First sQ1.L 0 1 := ⟨by decide, rfl, fun p hp => by
 match p, hp with
 | 0, _ => decide⟩
theorem tick_others {C : Cf} {s : Pl} (hcl : s.cl = false) (h : ∀ x ∈ s.ps, s.ck + 1 < x.he + 40) : (tickP C s).1.length = (othersP C).length ∧ (tickP C s).2.cl = false := by
 have hn : lateP C { s with ck := s.ck + 1 } = none := by
  unfold lateP
  rw [List.find?_eq_none]
  intro i _
  unfold isLate
  cases e : s.ps[i]? with
  | none => simp [e]
  | some p =>
    have := h p (List.mem_of_getElem? e)
    have h2 : ¬ p.he + 40 ≤ s.ck + 1 := by omega
    simp [e, h2]
 unfold tickP
 rw [if_neg (by rw [hcl]; exact Bool.false_ne_true), hn]
 exact ⟨by simp, hcl⟩
theorem mark_he (C : Cf) (s : Pl) (u : Int) : ∀ x ∈ (markP C s u).ps, ∃ y ∈ s.ps, x.he = y.he := by
 unfold markP; split
 · intro x hx
   obtain ⟨y, hy, h1, -⟩ := (heldN_ms _ C.n).2.2.2.2.2.2 x hx
   exact ⟨y, hy, h1⟩
 · exact fun x hx => ⟨x, hx, rfl⟩
theorem mark_ck (C : Cf) (s : Pl) (u : Int) : (markP C s u).ck = s.ck := by
 unfold markP; split
 · show (heldN _ C.n).ck = _
   rw [(heldN_ms _ _).2.2.1]
 · rfl
theorem playN_he {C : Cf} {T : ByteArray} {os : List O4} {s : Pl} {g : List Int} : ∀ k, (∀ x ∈ (playN C T os s g k).1.ps, ∃ y ∈ s.ps, x.he = y.he) ∧ (playN C T os s g k).1.ck = s.ck
 | 0 => ⟨fun x hx => ⟨x, hx, rfl⟩, rfl⟩
 | k + 1 => ⟨fun x hx => by
     obtain ⟨y, hy, e⟩ := mark_he _ _ _ x hx
     obtain ⟨z, hz, e2⟩ := (playN_he k).1 y hy
     exact ⟨z, hz, e.trans e2⟩, (mark_ck _ _ _).trans (playN_he k).2⟩
set_option maxHeartbeats 8000000 in
theorem begun22_any (w : World) (hT : TabW w) : Calls Tryz.prog 36 #[] w fun e w' => e = .returned (.bool true) ∧ Below w.heap.size w w' := by
 have HT := qh hT
 have HPG := qh (prog22_any w)
 have HNew : Hid (∀ (W : World) (gb : Nat), Below w.heap.size w W → RO W W.heap.size (some ⟨gb, 0, none⟩) os22 → Calls Tryz.prog 38 #[.agg #[.int .i64 2, .int .i64 0, .int .i64 0, .int .i64 0, .int .i64 4, .int .i64 1, .int .i64 0, .int .i64 0, .int .i64 0, .int .i64 3], .agg #[.string T22, .slice (some ⟨gb, 0, none⟩) 12 12], .slice none 0 0] W fun e w' => ∃ P : Pc, e = .returned (.tuple #[pB P.x, .int .i64 0]) ∧ P.C = cfB2 ∧ P.T = T22 ∧ P.os = os22 ∧ P.tb = [] ∧ PFit P ∧ PX w w' P sQ0 (zG 32) 0 noB) := fun W gb hb hr =>
  (pnew_yes w noB hT cfB2 cfB2_may T22 (some ⟨gb, 0, none⟩) os22 12 12 none [] 0 0 W rfl rfl hr (by omega) (by unfold maxLen; omega) (by decide) (RB.nil _ _ _) (by omega) (by unfold maxLen; omega) hb (fun k hk => hk.elim) may22 (by decide) sQ0 (zG 32) plQ0).mono fun e w' ⟨P, a1, a2, a3, a4, a5, a6, a7, _⟩ => ⟨P, a1, a2, a3, a4, a5, a6, a7⟩
 obtain ⟨L4, hL4⟩ : ∃ L4, (encC 1 1 0 0 0 0 0 0 [3]).length = L4 := ⟨_, rfl⟩
 have HL4 := qh hL4
 have HL4b : Hid (L4 ≤ 4096) := by show _ ≤ _; have := enc_short 1 1 0 0 0 0 0 0 [3]; omega
 have HPk := qh (fun (W : World) (A : Option Addr) (n c : Nat) (hr : RB W W.heap.size A [3]) (hn : 1 = n) (hc : n ≤ c) (hm : c ≤ maxLen) => refpacket_any 1 1 0 0 0 A [3] n c 0 0 0 W hr hn hc hm (by omega) (by omega))
 obtain ⟨⟨s3, g3⟩, hpl3⟩ : ∃ x, playsP cfB2 T22 os22 sQ2 (zG 32) = x := ⟨_, rfl⟩
 have e3L : s3.L = sQ2.L := by have := plays_L (C := cfB2) (T := T22) (os := os22) (s := sQ2) (g := zG 32); rw [hpl3] at this; exact this
 have e3c : s3.cl = false := by have := plays_cl (C := cfB2) (T := T22) (os := os22) (s := sQ2) (g := zG 32); rw [hpl3] at this; exact this
 have e3o : Ok cfB2 (1 + (frontP sQ2.L - sQ2.ms.length)) s3 := by have := playN_ok (T := T22) (os := os22) (g := zG 32) (show cfB2.n ≤ 8 by decide) okQ2 (frontP sQ2.L - sQ2.ms.length); unfold playsP at hpl3; rw [hpl3] at this; exact this
 have e3h : (∀ x ∈ s3.ps, ∃ y ∈ sQ2.ps, x.he = y.he) ∧ s3.ck = sQ2.ck := by have := playN_he (C := cfB2) (T := T22) (os := os22) (s := sQ2) (g := zG 32) (frontP sQ2.L - sQ2.ms.length); unfold playsP at hpl3; rw [hpl3] at this; exact this
 obtain ⟨⟨xs4, s4⟩, ht4⟩ : ∃ x, tickP cfB2 s3 = x := ⟨_, rfl⟩
 have ht5 := tick_others (C := cfB2) e3c (fun x hx => by
  obtain ⟨y, hy, e⟩ := e3h.1 x hx
  have hy0 : y.he = 0 := by
   simp [sQ2] at hy
   rw [hy]
  rw [e3h.2, e, hy0]; decide)
 rw [ht4] at ht5
 have HX4 : Hid (xs4.length = 1) := ht5.1
 have HC4 : Hid (s4.cl = false) := ht5.2
 have HO3 := qh e3o; have HPL3 := qh hpl3; have HT4 := qh ht4
 have HF3 : Hid (frontP s3.L = 1) := by show _ = _; rw [e3L]; rfl
 obtain ⟨G1, hG1⟩ : ∃ G1, (showP cfB2 T22 os22 [] sQ1 (zG 32) 1).1 = G1 := ⟨_, rfl⟩
 have HSH : Hid (showP cfB2 T22 os22 [] sQ1 (zG 32) 1 = (G1, 1)) := Prod.ext hG1 shQ1
 have HE1 : Hid ((gEnc G1).length = 128) := enc128 (by rw [← hG1]; exact show_gam gam.zero)
 have HE0 : Hid ((gEnc (zG 32)).length = 128) := enc128 gam.zero
 have HB0 : Hid (Below w.heap.size w w) := bR _ _
 clear hT hL4 hpl3 e3L e3c e3o e3h ht4 ht5 hG1
 go_enter Tryz.func36, Tryz.ntmps36
 go_wp2_with (first
  | (go_at_call 43; (refine HPG.out.mono ?_); rintro en w1 ⟨gb, rfl, hr, hb⟩; have HR1 := qh hr; have HB1 := qh hb; clear hr hb HPG)
  | (go_at_call 38; (refine (HNew.out w1 gb HB1.out HR1.out).mono ?_); rintro en w2 ⟨P, rfl, eC, eT, eo, et, hpf, hx⟩; have HC := qh eC; have HTT := qh eT; have HOO := qh eo; have HTB := qh et; have HPF := qh hpf; have HX2 := qh hx; have HCO := qh hx.core; clear eC eT eo et hpf hx HNew)
  | (go_at_call 54; (refine (plain_core w2 P.x P.c HCO.out).mono ?_); rintro en w3 ⟨rfl, rfl⟩)
  | (go_at_call 44; (refine (ppress_any HPF.out HT.out HX2.out rfl (Nat.zero_le _) (m := 0) (by rw [HC.out]; exact okQ0) (by omega) 7 0 (s1 := sQ1) (by rw [HC.out]; exact sQ1_eq) (s2 := sQ1) (g2 := zG 32) (by rw [HC.out, HTT.out, HOO.out]; exact plQ1)).mono ?_); rintro en w3 ⟨rfl, hx, -⟩; have HX3 := qh hx; clear hx)
  | (go_at_call 49; (refine (pdisp_any HPF.out HX3.out (m := 0) (by rw [HC.out]; exact okQ1) rfl (by rw [HC.out, HTB.out]; decide) 1 (fun _ => firstQ1) G1 1 (by rw [HC.out, HTT.out, HOO.out, HTB.out]; exact HSH.out)).mono ?_); rintro en w4 ⟨v4, rfl, o4, b4⟩; obtain ⟨A4, c4, rfl, -, -, -⟩ := o4.form_n 128 HE1.out; have HX4b := qh (HX3.out.belows b4); clear o4 b4)
  | (go_at_call 46; first
      | (refine (pconf_any HPF.out HX7.out (m := _) (by rw [HC.out]; exact HO3.out) HF3.out).mono ?_; rintro en w8 ⟨v8, rfl, -, b8⟩; have HX8 := qh (HX7.out.belows b8); clear b8)
      | (refine (pconf_any HPF.out HX4b.out (m := 0) (by rw [HC.out]; exact okQ1) rfl).mono ?_; rintro en w5 ⟨v5, rfl, o5, b5⟩; obtain ⟨A5, c5, rfl, -, -, -⟩ := o5.form_n 128 HE0.out; have HX5 := qh (HX4b.out.belows b5); clear o5 b5))
  | (go_at_call 22; (refine (HPk.out _ _ 1 1 (rb_made w5 3 _ _ (by simp)) rfl (nl _) (by unfold maxLen; omega)).mono ?_); rintro en w6 ⟨v6, rfl, ho, hb⟩; obtain ⟨A6, c6, rfl, h41, h42, h43⟩ := ho.form_n L4 HL4.out; have HX6 := qh (HX5.out.belows (((bR _ _).alloc (nl _) _).trans (hb.mono (by simp)))); have H41 := qh h41; have H42 := qh h42; have H43 := qh h43; clear ho hb h41 h42 h43)
  | (go_at_call 45; (refine (preceive_any HPF.out HT.out HX6.out rfl (Nat.zero_le _) (m := 0) (by rw [HC.out]; exact okQ1) (by omega) A6 _ L4 c6 H43.out HL4.out H41.out H42.out HL4b.out (some pkQ2) isQ2 0 (s1 := sQ2) (by rw [HC.out]; exact sQ2_eq) (s2 := s3) (g2 := g3) (by rw [HC.out, HTT.out, HOO.out]; exact HPL3.out)).mono ?_); rintro en w7 ⟨rfl, hx, -⟩; have HX7 : Hid (PX w w7 P s3 g3 1 noB) := hx; clear hx)
  | (go_at_call 50; (refine (ptick_any HPF.out HT.out HX8.out (by rw [HC.out]; exact HO3.out) (by decide) xs4 (s1 := s4) (by rw [HC.out]; exact HT4.out)).mono ?_); rintro en w9 ⟨v9, B9, rfl, ht, -, -, hx, -⟩; obtain ⟨A9, c9, rfl⟩ := ht.form 1 HX4.out; have HX9 := qh hx; clear ht hx)
  | (go_at_call 53; (refine (pclosed_any HX9.out false HC4.out).mono ?_); rintro en w9 ⟨rfl, rfl⟩))
 go_ret
 exact ⟨rfl, HX9.out.be⟩
set_option maxHeartbeats 4000000 in
theorem none22_law (w : World) (hT : TabW w) : Calls Tryz.prog 6 #[] w fun e w' => e = .returned (.bool true) ∧ Below w.heap.size w w' := by
 have HT := qh hT
 have HDN := qh (pdisp_nil w)
 clear hT
 go_enter Tryz.func6, Tryz.ntmps6
 go_wp2_with (first
  | (go_at_call 46; (with_reducible refine (pconf_nil _).mono ?_); rintro e w1 ⟨rfl, rfl⟩)
  | (go_at_call 49; (with_reducible refine HDN.out.mono ?_); rintro e w2 ⟨rfl, b2⟩; have HB2 := qh b2; have HBG := qh (begun22_any w2 (HT.out.below b2 HT.out.lt)); clear b2)
  | (go_at_call 36; (with_reducible refine HBG.out.mono ?_); rintro e w3 ⟨rfl, b3⟩; have HB3 := qh (HB2.out.trans (b3.mono HB2.out.size)); clear b3)
  | (go_at_call 44; (with_reducible refine (ppress_nil _ _).mono ?_); rintro e w1 ⟨rfl, rfl⟩)
  | (go_at_call 45; (with_reducible refine (preceive_nil _).mono ?_); rintro e w1 ⟨rfl, rfl⟩)
  | (go_at_call 50; (with_reducible refine (ptick_nil _).mono ?_); rintro e w1 ⟨rfl, rfl⟩)
  | (go_at_call 51; (with_reducible refine (pquit_nil _).mono ?_); rintro e w1 ⟨rfl, rfl⟩)
  | (go_at_call 52; (with_reducible refine (pevents_nil _).mono ?_); rintro e w1 ⟨rfl, rfl⟩)
  | (go_at_call 53; (with_reducible refine (pclosed_nil _).mono ?_); rintro e w1 ⟨rfl, rfl⟩)
  | (go_at_call 54; (with_reducible refine (plain_core_nil _).mono ?_); rintro e w1 ⟨rfl, rfl⟩))
 go_ret
 exact ⟨rfl, HB3.out⟩
end Go.Proofs.YtpnobpligchpiaaGreatDoor
