/- texts of YcV -/
import Derived.Test.YtpnobpligchpiaaGreatDoorYcL
import Derived.Test.YtpnobpligchpiaaGreatDoorYcQ
import Derived.Test.YtpnobpligchpiaaGreatDoorYcT
import Derived.Test.YtpnobpligchpiaaGreatDoorYcU
namespace Go.Proofs.YtpnobpligchpiaaGreatDoor
set_option maxRecDepth 100000
open Go.RowKit
set_option linter.unusedVariables false
set_option linter.unusedSimpArgs false
def numJ (p : Pk) : Nat → Int
  | 0 => p.id
  | 1 => p.fi
  | 2 => p.ac
  | _ => p.fr
def tlK (p : Pk) : List UInt8 := s4 p.su ++ (putN (p.l.length : Int) ++ encG 0 (groups p.l))
def remJ (p : Pk) : Nat → List UInt8
  | 0 => putN p.id ++ (if p.k = 1 then putN p.fi ++ (putN p.ac ++ (putN p.fr ++ tlK p)) else [])
  | 1 => if p.k = 1 then putN p.fi ++ (putN p.ac ++ (putN p.fr ++ tlK p)) else []
  | 2 => putN p.ac ++ (putN p.fr ++ tlK p)
  | 3 => putN p.fr ++ tlK p
  | _ => tlK p
theorem numJ_in (p : Pk) (h : p.may) (j : Nat) : 0 ≤ numJ p j ∧ numJ p j ≤ 1099511627776 := by
  obtain ⟨⟨_, _, _, _, _, i0, i1⟩, h⟩ := h
  match j with
  | 0 => exact ⟨i0, i1⟩
  | 1 => show 0 ≤ p.fi ∧ p.fi ≤ _; omega
  | 2 => show 0 ≤ p.ac ∧ p.ac ≤ _; omega
  | n + 3 => show 0 ≤ p.fr ∧ p.fr ≤ _; omega
theorem rem_step (p : Pk) (j : Nat) (h : j = 0 ∨ (p.k = 1 ∧ j < 4)) : remJ p j = putN (numJ p j) ++ remJ p (j + 1) := by
  rcases h with rfl | ⟨hk, hj⟩
  · rfl
  · obtain rfl | rfl | rfl | rfl : j = 0 ∨ j = 1 ∨ j = 2 ∨ j = 3 := by omega
    · rfl
    · show (if p.k = 1 then _ else _) = _; rw [if_pos hk]; rfl
    · rfl
    · rfl
theorem body_rem (p : Pk) : p.body = u8 p.k :: u8 p.f :: u8 p.t :: remJ p 0 := by
  unfold Pk.body bodyC headK remJ tailK tlK
  by_cases h : p.k = 1
  · rw [if_pos h, if_pos h]; simp only [List.cons_append]
  · rw [if_neg h, if_neg h, List.append_nil]; rfl
theorem is_head {b : List UInt8} {p : Pk} (h : IsK b p) : ∃ z, b = u8 p.k :: u8 p.f :: u8 p.t :: (remJ p 0 ++ s4 z) := by
  refine ⟨tn (sumL p.body), ?_⟩
  rw [← h.2.2]
  unfold sealK
  rw [body_rem]
  rfl
theorem may_bytes {p : Pk} (h : p.may) : (0 ≤ p.k ∧ p.k ≤ 255) ∧ (0 ≤ p.f ∧ p.f ≤ 255) ∧ (0 ≤ p.t ∧ p.t ≤ 255) := by
  obtain ⟨⟨_, _, _, _, _, _, _⟩, h⟩ := h
  omega
theorem is_mid {b : List UInt8} {p : Pk} (h : IsK b p) (e : Nat) (he : b.length = e + 7) (h0 : 0 < b.length) (h1 : 1 < b.length) (h2 : 2 < b.length) :
    (b.drop 3).take e = remJ p 0 ∧ ((b[0].toNat : Int) = p.k) ∧ ((b[1].toNat : Int) = p.f) ∧ ((b[2].toNat : Int) = p.t) := by
  obtain ⟨z, hz⟩ := is_head h
  obtain ⟨⟨k0, k1⟩, ⟨f0, f1⟩, ⟨t0, t1⟩⟩ := may_bytes h.1
  subst hz
  have hl : (remJ p 0).length = e := by
    simp only [List.length_cons, List.length_append, s4_len] at he
    omega
  refine ⟨?_, u8_num _ k0 k1, u8_num _ f0 f1, u8_num _ t0 t1⟩
  show (remJ p 0 ++ s4 z).take e = _
  rw [← hl, List.take_left]
def InvK (b x : List UInt8) (m j : Nat) (v : Nat → Int) : Prop := ∀ p, IsK b p → x.drop m = remJ p j ∧ ∀ q, q < j → v q = numJ p q
theorem inv_get {b x : List UInt8} {m j : Nat} {v : Nat → Int} (h : InvK b x m j v) {p : Pk} (hp : IsK b p) (hj : j = 0 ∨ (p.k = 1 ∧ j < 4)) : getN (x.drop m) = .ok (zig (numJ p j)) (putN (numJ p j)).length := by
  have hn := numJ_in p hp.1 j
  rw [(h p hp).1, rem_step p j hj, getN_put _ _ (by unfold in64; omega)]
theorem inv_next {b x : List UInt8} {m j u k : Nat} {v : Nat → Int} (h : InvK b x m j v) (hk : ∀ p, IsK b p → j = 0 ∨ (p.k = 1 ∧ j < 4)) (hg : getN (x.drop m) = .ok u k) :
    InvK b x (m + k) (j + 1) (fun q => if q = j then zag u else v q) := fun p hp => by
  have h1 := inv_get h hp (hk p hp)
  rw [hg] at h1
  obtain ⟨e1, e2⟩ := got_inj h1
  obtain ⟨h2, h3⟩ := h p hp
  refine ⟨?_, fun q hq => ?_⟩
  · rw [← List.drop_drop, h2, rem_step p j (hk p hp), e2, List.drop_left]
  · show (if q = j then zag u else v q) = _
    by_cases hqj : q = j
    · rw [if_pos hqj, hqj, e1, zag_zig]
    · rw [if_neg hqj]; exact h3 q (by omega)
theorem inv_none {b x : List UInt8} {m j : Nat} {v : Nat → Int} (h : InvK b x m j v) (hk : ∀ p, IsK b p → j = 0 ∨ (p.k = 1 ∧ j < 4)) (hg : (∀ u k, getN (x.drop m) ≠ .ok u k) ∨ ∃ u k, getN (x.drop m) = .ok u k ∧ (zag u < 0 ∨ 1099511627776 < zag u)) : ∀ p, ¬ IsK b p := fun p hp => by
  have h1 := inv_get h hp (hk p hp)
  rcases hg with hg | ⟨u, k, hg, hz⟩
  · exact hg _ _ h1
  · rw [hg] at h1
    obtain ⟨e1, _⟩ := got_inj h1
    rw [e1, zag_zig] at hz
    have := numJ_in p hp.1 j
    omega
theorem inv_sum {b x : List UInt8} {m : Nat} {v : Nat → Int} (h : InvK b x m 4 v) {p : Pk} (hp : IsK b p) : (x.drop m).take 4 = s4 p.su ∧ acc4 ((x.drop m).take 4) = p.su ∧ x.drop (m + 4) = putN (p.l.length : Int) ++ encG 0 (groups p.l) ∧ 4 ≤ (x.drop m).length := by
  have e := (h p hp).1
  have e2 : x.drop m = s4 p.su ++ (putN (p.l.length : Int) ++ encG 0 (groups p.l)) := e
  have e3 : (x.drop m).take 4 = s4 p.su := by rw [e2]; rfl
  refine ⟨e3, by rw [e3]; exact acc4_s4 _ hp.2.1.1 hp.2.1.2, ?_, ?_⟩
  · rw [← List.drop_drop, e2]; rfl
  · rw [e2, List.length_append, s4_len]; omega
theorem may_len {p : Pk} (h : p.may) (hk : p.k = 1) : p.l.length ≤ 32 := by
  obtain ⟨_, h⟩ := h
  omega
theorem may_quit {p : Pk} (h : p.may) (hk : p.k ≠ 1) : p.fi = 0 ∧ p.ac = 0 ∧ p.fr = 0 ∧ p.su = 0 ∧ p.l = [] := by
  obtain ⟨_, h⟩ := h
  refine ⟨by omega, by omega, by omega, by omega, List.eq_nil_of_length_eq_zero (by omega)⟩
theorem runs_of {p : Pk} (h : p.may) (hk : p.k = 1) : cnt 32 0 (items true (encG 0 (groups p.l))) = .ok (p.l.length : Int) ∧ expand 0 (items true (encG 0 (groups p.l))) = p.l := by
  have hl := may_len h hk
  rw [cnt_of p.l (by omega) 32 (by omega), if_neg (by omega), expand_of p.l (by omega)]
  exact ⟨rfl, rfl⟩
theorem is_cand {b : List UInt8} (c : Pk) (hs : 0 ≤ c.su ∧ c.su ≤ 4294967295) (h8 : 0 < b.length) (hc : ∀ p, IsK b p → p = c) : (c.enc = b → IsK b c) ∧ (c.enc ≠ b → ∀ p, ¬ IsK b p) := by
  constructor
  · intro h
    unfold Pk.enc encC at h
    split at h
    · rename_i hm
      exact ⟨hm, hs, h⟩
    · rw [← h] at h8; cases h8
  · intro h p hp
    have e := hc p hp
    subst e
    apply h
    unfold Pk.enc encC
    exact (if_pos (show mayC p.k p.f p.t p.id p.fi p.ac p.fr p.su p.l.length from hp.1)).trans hp.2.2
theorem inv_count {b x : List UInt8} {m : Nat} {v : Nat → Int} (h : InvK b x m 4 v) {p : Pk} (hp : IsK b p) (hk : p.k = 1) : getN (x.drop (m + 4)) = .ok (zig (p.l.length : Int)) (putN (p.l.length : Int)).length := by
  have hl := may_len hp.1 hk
  rw [(inv_sum h hp).2.2.1, getN_put _ _ (by unfold in64; omega)]
theorem inv_runs {b x : List UInt8} {m u k : Nat} {v : Nat → Int} (h : InvK b x m 4 v) {p : Pk} (hp : IsK b p) (hk : p.k = 1) (hg : getN (x.drop (m + 4)) = .ok u k) : x.drop (m + 4 + k) = encG 0 (groups p.l) ∧ zag u = (p.l.length : Int) := by
  have h1 := inv_count h hp hk
  rw [hg] at h1
  obtain ⟨e1, e2⟩ := got_inj h1
  refine ⟨?_, by rw [e1, zag_zig]⟩
  rw [← List.drop_drop, (inv_sum h hp).2.2.1, e2, List.drop_left]
theorem cand_in {b x : List UInt8} {m : Nat} {v : Nat → Int} (h : InvK b x m 4 v) {a0 a1 a2 y : Int} {ys : List UInt8} (hh : ∀ p, IsK b p → a0 = p.k ∧ a1 = p.f ∧ a2 = p.t) (hk : a0 = 1) (hy : y = acc4 ((x.drop m).take 4)) (hr : ∀ p, IsK b p → p.k = 1 → ys = p.l) :
    ∀ p, IsK b p → p = ⟨a0, a1, a2, v 0, v 1, v 2, v 3, y, ys⟩ := fun p hp => by
  obtain ⟨e0, e1, e2⟩ := hh p hp
  obtain ⟨_, e3⟩ := h p hp
  have e4 := (inv_sum h hp).2.1
  have e5 := hr p hp (by omega)
  rw [e0, e1, e2, e3 0 (by omega), e3 1 (by omega), e3 2 (by omega), e3 3 (by omega), hy, e4, e5]
  rfl
theorem cand_out {b x : List UInt8} {m : Nat} {v : Nat → Int} (h : InvK b x m 1 v) {a0 a1 a2 : Int} (hh : ∀ p, IsK b p → a0 = p.k ∧ a1 = p.f ∧ a2 = p.t) (hk : a0 ≠ 1) (hv : ∀ q, 1 ≤ q → v q = 0) :
    ∀ p, IsK b p → p = ⟨a0, a1, a2, v 0, v 1, v 2, v 3, 0, []⟩ := fun p hp => by
  obtain ⟨e0, e1, e2⟩ := hh p hp
  obtain ⟨_, e3⟩ := h p hp
  obtain ⟨f1, f2, f3, f4, f5⟩ := may_quit hp.1 (by omega)
  rw [e0, e1, e2, e3 0 (by omega), hv 1 (by omega), hv 2 (by omega), hv 3 (by omega)]
  obtain ⟨k, f, t, id, fi, ac, fr, su, l⟩ := p
  simp only at f1 f2 f3 f4 f5
  subst f1 f2 f3 f4 f5
  rfl
def UnpAns (b : List UInt8) (w w' : World) (e : Ending) : Prop :=
  (∃ (p : Pk) (A : Option Addr) (n c : Nat), IsK b p ∧ e = .returned (.tuple #[pkV p.k p.f p.t p.id p.fi A n c p.ac p.fr p.su, .bool true]) ∧ OB w' w.heap.size (.slice A n c) p.l ∧ p.l.length = n) ∨
  ∃ (k f t id fi : Int) (A : Option Addr) (n c : Nat) (ac fr su : Int), (∀ p, ¬ IsK b p) ∧ e = .returned (.tuple #[pkV k f t id fi A n c ac fr su, .bool false])
def arrO (v : Nat → Int) : Obj := .cells #[.int .i64 (v 0), .int .i64 (v 1), .int .i64 (v 2), .int .i64 (v 3)] 180
theorem arr_cell {w : World} {L : Nat} {v : Nat → Int} (h : w.heap[L]? = some (arrO v)) (j : Nat) (hj : j < 4) : w.cell? ⟨L, j, none⟩ = some (.int .i64 (v j)) := by
  rw [cell_of_row _ _ _ _ _ _ h]
  obtain rfl | rfl | rfl | rfl : j = 0 ∨ j = 1 ∨ j = 2 ∨ j = 3 := by omega
  all_goals rfl
theorem arr_fz {w : World} {L : Nat} {v : Nat → Int} (h : w.heap[L]? = some (arrO v)) (j : Nat) : w.frozen? ⟨L, j, none⟩ = false := by
  unfold arrO at h
  simp [World.frozen?, h]
theorem arr_set {w : World} {L : Nat} {v : Nat → Int} (h : w.heap[L]? = some (arrO v)) (j : Nat) (hj : j < 4) (x : Int) : (w.setCell ⟨L, j, none⟩ (.int .i64 x)).heap[L]? = some (arrO (fun q => if q = j then x else v q)) := by
  simp only [World.setCell]
  rw [Array.getElem?_modify, if_pos rfl, h]
  obtain rfl | rfl | rfl | rfl : j = 0 ∨ j = 1 ∨ j = 2 ∨ j = 3 := by omega
  all_goals rfl
set_option maxHeartbeats 8000000 in
theorem unp_run (A : Option Addr) (l : List UInt8) (n c : Nat) (w : World) (hr : RB w w.heap.size A l) (hn : l.length = n) (hc : n ≤ c) (hm : c ≤ maxLen) (hl : n ≤ 4096) :
    Calls Tryz.prog 86 #[.slice A n c] w fun r w' => UnpAns l w w' r ∧ Below w.heap.size w w' := by
  obtain ⟨W1, hW1⟩ : ∃ W1, W1 = w.alloc (pkO 0 0 0 0 0 none 0 0 0 0 0) := ⟨_, rfl⟩
  have B1 : Hid (Below w.heap.size w W1) := by rw [hW1]; exact (Below.refl _ _).alloc (Nat.le_refl _) _
  have S1 : Hid (W1.heap.size = w.heap.size + 1) := by show _ = _; rw [hW1]; simp
  have Z1 : Hid (PkM W1 w.heap.size 0 0 0 0 0 none 0 0 0 0 0) := by rw [hW1]; exact PkM.new w _ _ _ _ _ _ _ _ _ _ _
  have HW1 := Lib.hid hW1
  clear hW1
  by_cases h8 : n < 8
  · have HNO : Hid (∀ p, ¬ IsK l p) := fun p hp => by have := is_long hp; omega
    go_enter Tryz.func86, Tryz.ntmps86
    go_wp2_with fail
    rw [← HW1.out]
    obtain ⟨r0, r1, r2, r3, r4, r5, r6, r7, r8⟩ := Z1.out.c
    refine bodyPost_ret (v := .tuple #[pkV 0 0 0 0 0 none 0 0 0 0 0, .bool false]) (by simp [results, Tryz.results86, go_sem, r0, r1, r2, r3, r4, r5, r6, r7, r8]) rfl ⟨.inr ⟨_, _, _, _, _, _, _, _, _, _, _, HNO.out, rfl⟩, ?_⟩
    exact B1.out
  · obtain ⟨e, rfl⟩ : ∃ e, n = e + 7 := ⟨n - 7, by omega⟩
    obtain ⟨C, rfl⟩ : ∃ C, c = C + 3 := ⟨c - 3, by omega⟩
    have heC : e + 4 ≤ C := by omega
    have HCE := Lib.hid heC
    obtain ⟨b, off, rfl, hbw, hcell⟩ := hr (by omega)
    have h0 : 0 < l.length := by omega
    have h1 : 1 < l.length := by omega
    have h2 : 2 < l.length := by omega
    obtain ⟨a0, ha0⟩ : ∃ a : Int, (l[0].toNat : Int) = a := ⟨_, rfl⟩
    obtain ⟨a1, ha1⟩ : ∃ a : Int, (l[1].toNat : Int) = a := ⟨_, rfl⟩
    obtain ⟨a2, ha2⟩ : ∃ a : Int, (l[2].toNat : Int) = a := ⟨_, rfl⟩
    have b0 : 0 ≤ a0 ∧ a0 ≤ 255 := by have := l[0].toNat_lt; omega
    have b1 : 0 ≤ a1 ∧ a1 ≤ 255 := by have := l[1].toNat_lt; omega
    have b2 : 0 ≤ a2 ∧ a2 ≤ 255 := by have := l[2].toNat_lt; omega
    have x0 : w.cell? ⟨b, off, none⟩ = some (.int .u8 a0) := by have := hcell 0 h0; rw [Nat.add_zero] at this; rw [← ha0]; exact this
    have x1 : w.cell? ⟨b, off + 1, none⟩ = some (.int .u8 a1) := by have := hcell 1 h1; rw [← ha1]; exact this
    have x2 : w.cell? ⟨b, off + 2, none⟩ = some (.int .u8 a2) := by have := hcell 2 h2; rw [← ha2]; exact this
    obtain ⟨X, hX⟩ : ∃ X, (l.drop 3).take e = X := ⟨_, rfl⟩
    have HIS : Hid (∀ p, IsK l p → X = remJ p 0 ∧ a0 = p.k ∧ a1 = p.f ∧ a2 = p.t) := fun p hp => by
      obtain ⟨e1, e2, e3, e4⟩ := is_mid hp e hn h0 h1 h2
      exact ⟨by rw [← hX]; exact e1, by rw [← ha0]; exact e2, by rw [← ha1]; exact e3, by rw [← ha2]; exact e4⟩
    have HXL : Hid (X.length = e) := by show _ = _; rw [← hX, List.length_take, List.length_drop]; omega
    have HXR : Hid (RB w w.heap.size (some ⟨b, off + 3, none⟩) X) := by
      have h := hr.cut 3 (C + 3) (by omega) (by omega)
      rw [if_neg (by omega)] at h
      simp only [Option.map_some, Addr.add_lit] at h
      rw [← hX]
      exact h.take e
    have HR := Lib.hid hr; have HLL := Lib.hid hn; have HM := Lib.hid hm; have H4 := Lib.hid hl
    have hN : ((e + 7 : Nat) : Int) - 4 = ((e + 3 : Nat) : Int) := by omega
    have hc3 : ¬ C + 3 = 3 := by omega
    have hl0 : (0 : Int) < (e : Int) + 7 := by omega
    have hl1 : (1 : Int) < (e : Int) + 7 := by omega
    have hl2 : (2 : Int) < (e : Int) + 7 := by omega
    have hcm := hm
    unfold maxLen at hcm
    have wr0 : IntKind.i64.wrap a0 = a0 := by rw [IntKind.wrap_i64]; omega
    have wr1 : IntKind.i64.wrap a1 = a1 := by rw [IntKind.wrap_i64]; omega
    have wr2 : IntKind.i64.wrap a2 = a2 := by rw [IntKind.wrap_i64]; omega
    have HKP : Hid (∀ w' : World, Below w.heap.size w w' → w'.cell? ⟨b, off, none⟩ = some (.int .u8 a0) ∧ w'.cell? ⟨b, off + 1, none⟩ = some (.int .u8 a1) ∧ w'.cell? ⟨b, off + 2, none⟩ = some (.int .u8 a2)) := fun w' hb => ⟨(hb.cell (p := ⟨b, off, none⟩) hbw).trans x0, (hb.cell (p := ⟨b, off + 1, none⟩) hbw).trans x1, (hb.cell (p := ⟨b, off + 2, none⟩) hbw).trans x2⟩
    have HBW := Lib.hid hbw
    clear hcell ha0 ha1 ha2 hX hr hn hm hl h0 h1 h2 x0 x1 x2 hbw
    go_enter Tryz.func86, Tryz.ntmps86
    go_wp2_with fail
    rw [← HW1.out]
    go_upto_region 4 with fail
    go_cut [4, 5] (fun s4 s5 wx => s4 = .slice (some ⟨b, off + 3, none⟩) e C ∧ ∃ P : Nat, s5 = .pointer (some ⟨P, 0, none⟩) ∧ Hid (w.heap.size < P) ∧ Hid (PkM wx P a0 a1 a2 0 0 none 0 0 0 0 0) ∧ Hid (PkM wx w.heap.size 0 0 0 0 0 none 0 0 0 0 0) ∧ Hid (Below w.heap.size w wx))
    case first =>
      refine wp_region_held_drew (S := (fun w' => w'.cell? ⟨b, off, none⟩ = some (.int .u8 a0) ∧ w'.cell? ⟨b, off + 1, none⟩ = some (.int .u8 a1) ∧ w'.cell? ⟨b, off + 2, none⟩ = some (.int .u8 a2))) (by kernel_rfl) (HKP.out _ B1.out.drew) (fun hHeld => ?_)
      refine held_take (i := 0) (v := ?_) rfl (by kernel_rfl) (by kernel_rfl) (by kernel_rfl) (fun _ _ _ h => h) (by rfl) hHeld ?_ ?_
      rotate_left 1
      · (intro w hSw; (try dsimp only at hSw); go_simp; try (with_reducible rfl))
      try simp only [Act.put, nB, nC, nD]
      refine held_take (i := 1) (v := ?_) rfl (by kernel_rfl) (by kernel_rfl) (by kernel_rfl) (fun _ _ _ h => h) (by rfl) hHeld ?_ ?_
      rotate_left 1
      · (intro w hSw; (try dsimp only at hSw); go_simp; try (with_reducible rfl))
      try simp only [Act.put, nB, nC, nD]
      refine held_take (i := 2) (v := ?_) rfl (by kernel_rfl) (by kernel_rfl) (by kernel_rfl) (fun _ _ _ h => h) (by rfl) hHeld ?_ ?_
      rotate_left 1
      · (intro w hSw; (try dsimp only at hSw); go_simp; try (with_reducible rfl))
      try simp only [Act.put, nB, nC, nD]
      refine held_take (i := 3) (v := ?_) rfl (by kernel_rfl) (by kernel_rfl) (by kernel_rfl) (fun _ _ _ h => h) (by rfl) hHeld ?_ ?_
      rotate_left 1
      · (intro w hSw; (try dsimp only at hSw); go_simp; try (with_reducible rfl))
      try simp only [Act.put, nB, nC, nD]
      refine held_take (i := 4) (v := ?_) rfl (by kernel_rfl) (by kernel_rfl) (by kernel_rfl) (fun _ _ _ h => h) (by rfl) hHeld ?_ ?_
      rotate_left 1
      · (intro w hSw; (try dsimp only at hSw); go_simp; try (with_reducible rfl))
      try simp only [Act.put, nB, nC, nD]
      refine held_take (i := 5) (v := ?_) rfl (by kernel_rfl) (by kernel_rfl) (by kernel_rfl) (fun _ _ _ h => h) (by rfl) hHeld ?_ ?_
      rotate_left 1
      · (intro w hSw; (try dsimp only at hSw); go_simp; try (with_reducible rfl))
      try simp only [Act.put, nB, nC, nD]
      refine held_take (i := 6) (v := ?_) rfl (by kernel_rfl) (by kernel_rfl) (by kernel_rfl) (fun _ _ _ h => h) (by rfl) hHeld ?_ ?_
      rotate_left 1
      · (intro w hSw; (try dsimp only at hSw); go_simp; try (with_reducible rfl))
      try simp only [Act.put, nB, nC, nD]
      refine held_take (i := 7) (v := ?_) rfl (by kernel_rfl) (by kernel_rfl) (by kernel_rfl) (fun _ _ _ h => h) (by rfl) hHeld ?_ ?_
      rotate_left 1
      · (intro w hSw; (try dsimp only at hSw); go_simp; try (with_reducible rfl))
      try simp only [Act.put, nB, nC, nD]
      refine held_take (i := 8) (v := ?_) rfl (by kernel_rfl) (by kernel_rfl) (by kernel_rfl) (fun _ _ _ h => h) (by rfl) hHeld ?_ ?_
      rotate_left 1
      · (intro w hSw; (try dsimp only at hSw); go_simp; try (with_reducible rfl))
      try simp only [Act.put, nB, nC, nD]
      refine held_take (i := 9) (v := ?_) rfl (by kernel_rfl) (by kernel_rfl) (by kernel_rfl) (fun _ _ _ h => h) (by rfl) hHeld ?_ ?_
      rotate_left 1
      · (intro w hSw; (try dsimp only at hSw); go_simp; try (with_reducible rfl))
      try simp only [Act.put, nB, nC, nD]
      refine held_take (i := 10) (v := ?_) rfl (by kernel_rfl) (by kernel_rfl) (by kernel_rfl) (fun _ _ _ h => h) (by rfl) hHeld ?_ ?_
      rotate_left 1
      · (intro w hSw; (try dsimp only at hSw); go_simp; try (with_reducible rfl))
      try simp only [Act.put, nB, nC, nD]
      refine held_take (i := 11) (v := ?_) rfl (by kernel_rfl) (by kernel_rfl) (by kernel_rfl) (fun _ _ _ h => h) (by rfl) hHeld ?_ ?_
      rotate_left 1
      · (intro w hSw; (try dsimp only at hSw); go_simp; try (with_reducible rfl))
      try simp only [Act.put, nB, nC, nD]
      refine held_take (i := 12) (v := ?_) rfl (by kernel_rfl) (by kernel_rfl) (by kernel_rfl) (fun _ _ _ h => h) (by rfl) hHeld ?_ ?_
      rotate_left 1
      · (intro w hSw; (try dsimp only at hSw); go_simp; try (with_reducible rfl))
      try simp only [Act.put, nB, nC, nD]
      refine held_one (i := 13) rfl (by kernel_rfl) (by rfl) (fun K hK => ?_)
      go_simp
      refine hK.out _ _ (HKP.out _ (B1.out.drew.alloc B1.out.size (pkO 0 0 0 0 0 none 0 0 0 0 0))) (fun hHeld2 => ?_)
      clear hK K hHeld; have hHeld := hHeld2; clear hHeld2
      try simp only [Act.put, nB, nC, nD]
      refine held_one (i := 14) rfl (by kernel_rfl) (by rfl) (fun K hK => ?_)
      refine wp_store_pk (.tmp 5) (.tmp 40) rfl W1.heap.size (by rfl) (PkM.new W1.drew 0 0 0 0 0 none 0 0 0 0 0) (by rfl) ?_
      intro w5 p5 z5 g5
      have hb5 : Below w.heap.size w w5 := below_row (B1.out.drew.alloc B1.out.size (pkO 0 0 0 0 0 none 0 0 0 0 0)) g5 (by have := S1.out; omega)
      refine hK.out _ _ (HKP.out _ hb5) (fun hHeld2 => ?_)
      clear hK K hHeld; have hHeld := hHeld2; clear hHeld2
      try simp only [Act.put, nB, nC, nD]
      refine wpAnyH_done (by kernel_rfl) ?_ _
      skip
      go_wp2_with fail
      go_meet
      exact ⟨by first | rfl | (rw [show e + 7 - 4 - 3 = e by omega]; first | rfl | (rw [show C + 3 - 3 = C by omega])), W1.heap.size, rfl, (by show _ < _; rw [S1.out]; omega), p5, PkM.kept (w := W1.drew.alloc (pkO 0 0 0 0 0 none 0 0 0 0 0)) ((Below.heap_alloc _ _ _ (show w.heap.size < W1.heap.size by rw [S1.out]; omega)).trans Z1.out) g5 (by rw [S1.out]; omega), hb5⟩
    case rest =>
      obtain ⟨rfl, P, rfl, HP1, HPK, HPR, HPB⟩ := hcut
      clear wr0 wr1 wr2 hl0 hl1 hl2 hN
      obtain ⟨L, hL⟩ : ∃ L, wc.heap.size = L := ⟨_, rfl⟩
      obtain ⟨W5, hW5⟩ : ∃ W5, W5 = wc.alloc (arrO (fun _ => 0)) := ⟨_, rfl⟩
      have a5 : Below wc.heap.size wc W5 := by rw [hW5]; exact (Below.refl _ _).alloc (Nat.le_refl _) _
      have LPw : P < wc.heap.size := HPK.out.lt
      have K5 := Lib.hid (HPK.out.below a5 LPw); have Z5 := Lib.hid (HPR.out.below a5 HPR.out.lt); have B5 := Lib.hid (HPB.out.trans (a5.mono HPB.out.size))
      have A5 : Hid (W5.heap[L]? = some (arrO (fun _ => 0))) := by show _ = _; rw [hW5, ← hL]; exact heap_alloc_new wc _
      have HLP : Hid (P < L) := by show _ < _; rw [← hL]; exact LPw
      have HLW : Hid (w.heap.size < L) := by show _ < _; rw [← hL]; exact HPR.out.lt
      have hk0 := K5.out.c.1
      have HW5 := Lib.hid hW5
      have HL := Lib.hid hL
      clear hL hW5 a5 LPw HPK HPR HPB hc3 heC hc h8
      have hc4 : e + 4 ≤ C := by have := HCE.out; exact this
      obtain ⟨N, hN⟩ : ∃ N : Nat, (a0 = 1 ∧ N = 4) ∨ (a0 ≠ 1 ∧ N = 1) := by
        by_cases h : a0 = 1
        · exact ⟨4, .inl ⟨h, rfl⟩⟩
        · exact ⟨1, .inr ⟨h, rfl⟩⟩
      have HN := Lib.hid hN
      have hN4 : N ≤ 4 := by omega
      have hIV0 : Hid (InvK l X 0 0 (fun _ => 0)) := fun p hp => ⟨by rw [List.drop_zero]; exact (HIS.out p hp).1, fun q hq => absurd hq (by omega)⟩
      have HJ : Hid (∀ j, j < N → ∀ p, IsK l p → j = 0 ∨ (p.k = 1 ∧ j < 4)) := fun j hj p hp => by
        have e1 := (HIS.out p hp).2.1
        rcases hN with ⟨h, h2⟩ | ⟨h, h2⟩
        · exact .inr ⟨by omega, by omega⟩
        · exact .inl (by omega)
      have hk0' : (wc.alloc (arrO (fun _ => 0))).cell? ⟨P, 0, none⟩ = some (.int .i64 a0) := by rw [← HW5.out]; exact hk0
      unfold arrO at hk0'
      go_upto_if 43 with fail
      rw [HL.out]
      go_cut [8] (fun s8 wx => s8 = .int .i64 (N : Int) ∧ wx = W5)
      case first =>
        rcases hN with ⟨h, rfl⟩ | ⟨h, rfl⟩
        · subst h
          go_wp2_with fail
          go_meet
          exact ⟨rfl, HW5.out.symm⟩
        · have hb : (a0 == 1) = false := by simp; exact h
          have HH := Lib.hid h
          clear h
          go_wp2_with fail
          go_meet
          exact ⟨rfl, HW5.out.symm⟩
      case rest =>
        obtain ⟨rfl, hwc⟩ := hcut
        clear hk0' hk0
        go_wp2_with fail
        rw [hwc]
        clear hwc
        go_loopw [7, 9] (fun at_ i wr => ∃ (j m : Nat) (v : Nat → Int), at_ = .int .i64 (m : Int) ∧ i = .int .i64 (j : Int) ∧ j ≤ N ∧ m ≤ e ∧ Hid (InvK l X m j v) ∧ Hid (∀ q, j ≤ q → v q = 0) ∧ Hid (wr.heap[L]? = some (arrO v)) ∧ Hid (PkM wr P a0 a1 a2 0 0 none 0 0 0 0 0) ∧ Hid (PkM wr w.heap.size 0 0 0 0 0 none 0 0 0 0 0) ∧ Hid (Below w.heap.size w wr)) (fun _ i _ => N - (intOf i).toNat)
        case atStart => exact ⟨0, 0, fun _ => 0, rfl, rfl, by omega, by omega, hIV0, fun _ _ => rfl, A5, K5, Z5, B5⟩
        case round =>
          obtain ⟨j, m, v, rfl, rfl, hj, hme, hI, hV0, hAr, hP, hZ, hB⟩ := hrel
          clear hIV0 A5 K5 Z5 B5 HW5
          by_cases hlt : j < N
          · have hjN : (j : Int) < (N : Int) := by omega
            have hj4 : j < 4 := by omega
            have hcm2 : ¬ C = m := by omega
            have hm1 : (m : Int) ≤ (e : Int) := by omega
            have hrx := HXR.out.below hB.out
            have hd := hrx.cut m C (by rw [HXL.out]; omega) (by rw [HXL.out]; omega)
            rw [if_neg hcm2] at hd
            simp only [Option.map_some, Addr.add_lit] at hd
            have HG := Lib.hid (refget_any (some ⟨b, off + 3 + m, none⟩) (X.drop m) (e - m) (C - m) w.heap.size wr hd (by rw [List.length_drop, HXL.out]) (by omega) (by have := HM.out; unfold maxLen at *; omega))
            clear hrx hd
            cases hg : getN (X.drop m) with
            | ok u k =>
              rw [hg] at HG
              change Hid (Calls _ _ _ _ fun e w' => e = .returned (.tuple #[.int .i64 (zag u), .int .i64 (k : Int), .int .i64 0]) ∧ wr = w') at HG
              have hgk : m + k ≤ e := by
                have h := (getN_got _ _ _ hg).2.2.2.1
                rw [List.length_drop, HXL.out] at h
                omega
              obtain ⟨z, hz⟩ : ∃ z, zag u = z := ⟨_, rfl⟩
              rw [hz] at HG
              by_cases hzr : 0 ≤ z ∧ z ≤ 1099511627776
              · obtain ⟨z0, z1⟩ := hzr
                have hI2 : Hid (InvK l X (m + k) (j + 1) (fun q => if q = j then z else v q)) := by
                  have h := inv_next hI.out (HJ.out j hlt) hg
                  rw [hz] at h
                  exact h
                have c0 := arr_cell hAr.out j hj4
                have f0 := arr_fz hAr.out j
                have hj0 : (0 : Int) ≤ (j : Int) := by omega
                have hj5 : (j : Int) < 4 := by omega
                have hA2 := Lib.hid (arr_set hAr.out j hj4 z)
                have hgs := gr_set wr L j (.int .i64 z)
                have hP2 := Lib.hid (hP.out.kept hgs (by have := HLP.out; omega)); have hZ2 := Lib.hid (hZ.out.kept hgs (by have := HLW.out; omega)); have hB2 := Lib.hid (below_row hB.out hgs (by have := HLW.out; omega))
                have hV2 : Hid (∀ q, j + 1 ≤ q → (fun q => if q = j then z else v q) q = 0) := fun q hq => by
                  show (if q = j then z else v q) = 0
                  rw [if_neg (by omega)]; exact hV0.out q (by omega)
                clear hg hz hI hgs
                go_wp2_with fail
                (with_reducible refine HG.out.mono ?_)
                rintro r w1 ⟨rfl, rfl⟩
                go_wp2_with fail
                go_roundw
                case rel => exact ⟨j + 1, m + k, _, by go_num, by go_num, by omega, by omega, hI2, hV2, hA2, hP2, hZ2, hB2⟩
                case measure => simp [intOf]; omega
              · have HNO := Lib.hid (inv_none hI.out (HJ.out j hlt) (.inr ⟨u, k, hg, by rw [hz]; omega⟩))
                clear hg hz hI
                by_cases hz0 : z < 0
                · go_wp2_with fail
                  (with_reducible refine HG.out.mono ?_)
                  rintro r w1 ⟨rfl, rfl⟩
                  go_wp2_with (first
                    | (refine wpList_store_pk rfl (.tmp 2) (.tmp 67) rfl w.heap.size (by rfl) hZ.out (by rfl) ?_; intro wz pz zz gz))
                  obtain ⟨r0, r1, r2, r3, r4, r5, r6, r7, r8⟩ := pz.c
                  refine bodyPost_ret (v := .tuple #[pkV 0 0 0 0 0 none 0 0 0 0 0, .bool false]) (by simp [results, Tryz.results86, go_sem, r0, r1, r2, r3, r4, r5, r6, r7, r8]) rfl ⟨.inr ⟨_, _, _, _, _, _, _, _, _, _, _, HNO.out, rfl⟩, ?_⟩
                  exact below_row hB.out gz (Nat.le_refl _)
                · have hz1 : 1099511627776 < z := by omega
                  clear hzr
                  go_wp2_with fail
                  (with_reducible refine HG.out.mono ?_)
                  rintro r w1 ⟨rfl, rfl⟩
                  go_wp2_with (first
                    | (refine wpList_store_pk rfl (.tmp 2) (.tmp 67) rfl w.heap.size (by rfl) hZ.out (by rfl) ?_; intro wz pz zz gz))
                  obtain ⟨r0, r1, r2, r3, r4, r5, r6, r7, r8⟩ := pz.c
                  refine bodyPost_ret (v := .tuple #[pkV 0 0 0 0 0 none 0 0 0 0 0, .bool false]) (by simp [results, Tryz.results86, go_sem, r0, r1, r2, r3, r4, r5, r6, r7, r8]) rfl ⟨.inr ⟨_, _, _, _, _, _, _, _, _, _, _, HNO.out, rfl⟩, ?_⟩
                  exact below_row hB.out gz (Nat.le_refl _)
            | more =>
              rw [hg] at HG
              unfold gotV at HG
              have HNO := Lib.hid (inv_none hI.out (HJ.out j hlt) (.inl (fun u k => by rw [hg]; exact fun h => by cases h)))
              clear hg hI
              go_wp2_with fail
              (with_reducible refine HG.out.mono ?_)
              rintro r w1 ⟨rfl, rfl⟩
              go_wp2_with (first
                | (refine wpList_store_pk rfl (.tmp 2) (.tmp 67) rfl w.heap.size (by rfl) hZ.out (by rfl) ?_; intro wz pz zz gz))
              obtain ⟨r0, r1, r2, r3, r4, r5, r6, r7, r8⟩ := pz.c
              refine bodyPost_ret (v := .tuple #[pkV 0 0 0 0 0 none 0 0 0 0 0, .bool false]) (by simp [results, Tryz.results86, go_sem, r0, r1, r2, r3, r4, r5, r6, r7, r8]) rfl ⟨.inr ⟨_, _, _, _, _, _, _, _, _, _, _, HNO.out, rfl⟩, ?_⟩
              exact below_row hB.out gz (Nat.le_refl _)
            | form =>
              rw [hg] at HG
              unfold gotV at HG
              have HNO := Lib.hid (inv_none hI.out (HJ.out j hlt) (.inl (fun u k => by rw [hg]; exact fun h => by cases h)))
              clear hg hI
              go_wp2_with fail
              (with_reducible refine HG.out.mono ?_)
              rintro r w1 ⟨rfl, rfl⟩
              go_wp2_with (first
                | (refine wpList_store_pk rfl (.tmp 2) (.tmp 67) rfl w.heap.size (by rfl) hZ.out (by rfl) ?_; intro wz pz zz gz))
              obtain ⟨r0, r1, r2, r3, r4, r5, r6, r7, r8⟩ := pz.c
              refine bodyPost_ret (v := .tuple #[pkV 0 0 0 0 0 none 0 0 0 0 0, .bool false]) (by simp [results, Tryz.results86, go_sem, r0, r1, r2, r3, r4, r5, r6, r7, r8]) rfl ⟨.inr ⟨_, _, _, _, _, _, _, _, _, _, _, HNO.out, rfl⟩, ?_⟩
              exact below_row hB.out gz (Nat.le_refl _)
          · obtain rfl : N = j := by omega
            clear hcm hlt
            have hc5 := arr_cell hAr.out
            have hS18 : Hid (∀ w', wr.grownBy w' (some P) → w'.cell? ⟨L, 0, none⟩ = some (.int .i64 (v 0)) ∧ w'.cell? ⟨L, 1, none⟩ = some (.int .i64 (v 1)) ∧ w'.cell? ⟨L, 2, none⟩ = some (.int .i64 (v 2)) ∧ w'.cell? ⟨L, 3, none⟩ = some (.int .i64 (v 3))) := fun w' hg => by
              have hne : L ≠ P := by have := HLP.out; omega
              have hlt := cell_lt (hc5 0 (by omega))
              exact ⟨(gr_cell hg hlt hne).trans (hc5 0 (by omega)), (gr_cell hg hlt hne).trans (hc5 1 (by omega)), (gr_cell hg hlt hne).trans (hc5 2 (by omega)), (gr_cell hg hlt hne).trans (hc5 3 (by omega))⟩
            have hd0 : wr.grownBy wr.drew (some P) := ⟨rfl, rfl, rfl, Nat.le_refl _, fun _ _ _ => rfl⟩
            clear hc5
            go_wp2_with fail
            go_upto_region 18 with fail
            go_cut [5] (fun s5 wx => s5 = .pointer (some ⟨P, 0, none⟩) ∧ Hid (PkM wx P a0 a1 a2 (v 0) (v 1) none 0 0 (v 2) (v 3) 0) ∧ Hid (PkM wx w.heap.size 0 0 0 0 0 none 0 0 0 0 0) ∧ Hid (Below w.heap.size w wx))
            case first =>
              have hp0 : PkM wr.drew P a0 a1 a2 0 0 none 0 0 0 0 0 := hP.out
              obtain ⟨-, -, -, e3, e4, -, e6, e7, -⟩ := hp0.c
              have f3 := hp0.fz 3; have f4 := hp0.fz 4; have f6 := hp0.fz 6; have f7 := hp0.fz 7
              refine wp_region_held_drew (S := (fun w' => w'.cell? ⟨L, 0, none⟩ = some (.int .i64 (v 0)) ∧ w'.cell? ⟨L, 1, none⟩ = some (.int .i64 (v 1)) ∧ w'.cell? ⟨L, 2, none⟩ = some (.int .i64 (v 2)) ∧ w'.cell? ⟨L, 3, none⟩ = some (.int .i64 (v 3)))) (by kernel_rfl) (hS18.out _ hd0) (fun hHeld => ?_)
              refine held_take (i := 0) (v := ?_) rfl (by kernel_rfl) (by kernel_rfl) (by kernel_rfl) (fun _ _ _ h => h) (by rfl) hHeld ?_ ?_
              rotate_left 1
              · (intro w hSw; (try dsimp only at hSw); go_simp; try (with_reducible rfl))
              try simp only [Act.put, nB, nC, nD]
              refine held_take (i := 1) (v := ?_) rfl (by kernel_rfl) (by kernel_rfl) (by kernel_rfl) (fun _ _ _ h => h) (by rfl) hHeld ?_ ?_
              rotate_left 1
              · (intro w hSw; (try dsimp only at hSw); go_simp; try (with_reducible rfl))
              try simp only [Act.put, nB, nC, nD]
              refine held_take (i := 2) (v := ?_) rfl (by kernel_rfl) (by kernel_rfl) (by kernel_rfl) (fun _ _ _ h => h) (by rfl) hHeld ?_ ?_
              rotate_left 1
              · (intro w hSw; (try dsimp only at hSw); go_simp; try (with_reducible rfl))
              try simp only [Act.put, nB, nC, nD]
              refine held_take (i := 3) (v := ?_) rfl (by kernel_rfl) (by kernel_rfl) (by kernel_rfl) (fun _ _ _ h => h) (by rfl) hHeld ?_ ?_
              rotate_left 1
              · (intro w hSw; (try dsimp only at hSw); go_simp; try (with_reducible rfl))
              try simp only [Act.put, nB, nC, nD]
              refine held_take (i := 4) (v := ?_) rfl (by kernel_rfl) (by kernel_rfl) (by kernel_rfl) (fun _ _ _ h => h) (by rfl) hHeld ?_ ?_
              rotate_left 1
              · (intro w hSw; (try dsimp only at hSw); go_simp; try (with_reducible rfl))
              try simp only [Act.put, nB, nC, nD]
              refine held_take (i := 5) (v := ?_) rfl (by kernel_rfl) (by kernel_rfl) (by kernel_rfl) (fun _ _ _ h => h) (by rfl) hHeld ?_ ?_
              rotate_left 1
              · (intro w hSw; (try dsimp only at hSw); go_simp; try (with_reducible rfl))
              try simp only [Act.put, nB, nC, nD]
              refine held_take (i := 6) (v := ?_) rfl (by kernel_rfl) (by kernel_rfl) (by kernel_rfl) (fun _ _ _ h => h) (by rfl) hHeld ?_ ?_
              rotate_left 1
              · (intro w hSw; (try dsimp only at hSw); go_simp; try (with_reducible rfl))
              try simp only [Act.put, nB, nC, nD]
              refine held_take (i := 7) (v := ?_) rfl (by kernel_rfl) (by kernel_rfl) (by kernel_rfl) (fun _ _ _ h => h) (by rfl) hHeld ?_ ?_
              rotate_left 1
              · (intro w hSw; (try dsimp only at hSw); go_simp; try (with_reducible rfl))
              try simp only [Act.put, nB, nC, nD]
              refine held_take (i := 8) (v := ?_) rfl (by kernel_rfl) (by kernel_rfl) (by kernel_rfl) (fun _ _ _ h => h) (by rfl) hHeld ?_ ?_
              rotate_left 1
              · (intro w hSw; (try dsimp only at hSw); go_simp; try (with_reducible rfl))
              try simp only [Act.put, nB, nC, nD]
              refine held_one (i := 9) rfl (by kernel_rfl) (by rfl) (fun K hK => ?_)
              go_simp
              obtain ⟨wa, hwa⟩ : ∃ wa, wa = (wr.setCell ⟨P, 3, none⟩ (.int .i64 (v 0))).drew := ⟨_, rfl⟩
              rw [← hwa]
              have hpa : PkM wa P a0 a1 a2 (v 0) 0 none 0 0 0 0 0 := by rw [hwa]; exact hp0.set_id (v 0)
              have gwa : wr.grownBy wa (some P) := by rw [hwa]; exact gr_trans (gr_set wr P 3 _) ⟨rfl, rfl, rfl, Nat.le_refl _, fun _ _ _ => rfl⟩
              clear hwa
              obtain ⟨-, -, -, e3, e4, -, e6, e7, -⟩ := hpa.c
              have f3 := hpa.fz 3; have f4 := hpa.fz 4; have f6 := hpa.fz 6; have f7 := hpa.fz 7
              refine hK.out _ _ (hS18.out _ gwa) (fun hHeld2 => ?_)
              clear hK K hHeld; have hHeld := hHeld2; clear hHeld2
              try simp only [Act.put, nB, nC, nD]
              refine held_take (i := 10) (v := ?_) rfl (by kernel_rfl) (by kernel_rfl) (by kernel_rfl) (fun _ _ _ h => h) (by rfl) hHeld ?_ ?_
              rotate_left 1
              · (intro w hSw; (try dsimp only at hSw); go_simp; try (with_reducible rfl))
              try simp only [Act.put, nB, nC, nD]
              refine held_one (i := 11) rfl (by kernel_rfl) (by rfl) (fun K hK => ?_)
              go_simp
              obtain ⟨wb, hwb⟩ : ∃ wb, wb = wa.setCell ⟨P, 4, none⟩ (.int .i64 (v 1)) := ⟨_, rfl⟩
              rw [← hwb]
              have hpb : PkM wb P a0 a1 a2 (v 0) (v 1) none 0 0 0 0 0 := by rw [hwb]; exact hpa.set_fi (v 1)
              have gwb : wr.grownBy wb (some P) := by rw [hwb]; exact gr_trans gwa (gr_set _ _ _ _)
              clear hwb
              obtain ⟨-, -, -, e3, e4, -, e6, e7, -⟩ := hpb.c
              have f3 := hpb.fz 3; have f4 := hpb.fz 4; have f6 := hpb.fz 6; have f7 := hpb.fz 7
              refine hK.out _ _ (hS18.out _ gwb) (fun hHeld2 => ?_)
              clear hK K hHeld; have hHeld := hHeld2; clear hHeld2
              try simp only [Act.put, nB, nC, nD]
              refine held_take (i := 12) (v := ?_) rfl (by kernel_rfl) (by kernel_rfl) (by kernel_rfl) (fun _ _ _ h => h) (by rfl) hHeld ?_ ?_
              rotate_left 1
              · (intro w hSw; (try dsimp only at hSw); go_simp; try (with_reducible rfl))
              try simp only [Act.put, nB, nC, nD]
              refine held_one (i := 13) rfl (by kernel_rfl) (by rfl) (fun K hK => ?_)
              go_simp
              obtain ⟨wd, hwd⟩ : ∃ wd, wd = wb.setCell ⟨P, 6, none⟩ (.int .i64 (v 2)) := ⟨_, rfl⟩
              rw [← hwd]
              have hpd : PkM wd P a0 a1 a2 (v 0) (v 1) none 0 0 (v 2) 0 0 := by rw [hwd]; exact hpb.set_ac (v 2)
              have gwd : wr.grownBy wd (some P) := by rw [hwd]; exact gr_trans gwb (gr_set _ _ _ _)
              clear hwd
              obtain ⟨-, -, -, e3, e4, -, e6, e7, -⟩ := hpd.c
              have f3 := hpd.fz 3; have f4 := hpd.fz 4; have f6 := hpd.fz 6; have f7 := hpd.fz 7
              refine hK.out _ _ (hS18.out _ gwd) (fun hHeld2 => ?_)
              clear hK K hHeld; have hHeld := hHeld2; clear hHeld2
              try simp only [Act.put, nB, nC, nD]
              refine held_take (i := 14) (v := ?_) rfl (by kernel_rfl) (by kernel_rfl) (by kernel_rfl) (fun _ _ _ h => h) (by rfl) hHeld ?_ ?_
              rotate_left 1
              · (intro w hSw; (try dsimp only at hSw); go_simp; try (with_reducible rfl))
              try simp only [Act.put, nB, nC, nD]
              refine held_one (i := 15) rfl (by kernel_rfl) (by rfl) (fun K hK => ?_)
              go_simp
              obtain ⟨we, hwe⟩ : ∃ we, we = wd.setCell ⟨P, 7, none⟩ (.int .i64 (v 3)) := ⟨_, rfl⟩
              rw [← hwe]
              have hpe : PkM we P a0 a1 a2 (v 0) (v 1) none 0 0 (v 2) (v 3) 0 := by rw [hwe]; exact hpd.set_fr (v 3)
              have gwe : wr.grownBy we (some P) := by rw [hwe]; exact gr_trans gwd (gr_set _ _ _ _)
              clear hwe
              obtain ⟨-, -, -, e3, e4, -, e6, e7, -⟩ := hpe.c
              have f3 := hpe.fz 3; have f4 := hpe.fz 4; have f6 := hpe.fz 6; have f7 := hpe.fz 7
              refine hK.out _ _ (hS18.out _ gwe) (fun hHeld2 => ?_)
              clear hK K hHeld; have hHeld := hHeld2; clear hHeld2
              try simp only [Act.put, nB, nC, nD]
              refine wpAnyH_done (by kernel_rfl) ?_ _
              skip
              go_wp2_with fail
              go_meet
              exact ⟨rfl, hpe, hZ.out.kept gwe (by have := HP1.out; omega), below_row hB.out gwe (by have := HP1.out; omega)⟩
            case rest =>
              obtain ⟨rfl, hP18, hZ18, hB18⟩ := hcut
              clear hP hZ hB hAr hd0 hS18
              have HCB : Hid (∀ W, Below w.heap.size w W → (convert 33 9 (.slice (some ⟨b, off, none⟩) (e + 7) (C + 3))).run Tryz.prog W = .ok (.string (str l)) W) := fun W hb => conv_rb (HR.out.below hb) (e + 7) (C + 3) HLL.out
              obtain ⟨sb, hsb⟩ : ∃ sb, str l = sb := ⟨_, rfl⟩
              rw [hsb] at HCB
              have HSB := Lib.hid hsb
              have HHS : Hid (∀ p, IsK l p → a0 = p.k ∧ a1 = p.f ∧ a2 = p.t) := fun p hp => (HIS.out p hp).2
              have c0 := hP18.out.c.1
              have HL0 : Hid (0 < l.length) := by show _ < _; rw [HLL.out]; omega
              clear hsb
              rcases HN.out with ⟨hk1, hj4⟩ | ⟨hk1, hj1⟩
              · subst hj4
                have hb1 : (a0 == 1) = true := by simp [hk1]
                have HK1 := Lib.hid hk1
                clear hk1
                have HXC : Hid (∀ W, Below w.heap.size w W → ∀ i (h : i < X.length), W.cell? ⟨b, off + 3 + i, none⟩ = some (vb X[i])) := fun W hb i h => by
                  obtain ⟨b', off', e', _, hc⟩ := (HXR.out.below hb) (by omega)
                  have e' := Option.some.inj e'
                  injection e' with e1 e2
                  subst e1 e2
                  exact hc i h
                by_cases hem : e < m + 4
                · have HNO : Hid (∀ p, ¬ IsK l p) := fun p hp => by have h := (inv_sum hI.out hp).2.2.2; rw [List.length_drop, HXL.out] at h; omega
                  obtain ⟨dm, hdm⟩ : ∃ dm : Int, (e : Int) - (m : Int) = dm := ⟨_, rfl⟩
                  have hx4 : dm < 4 := by omega
                  have hdw : wrap64 dm = dm := w64_id dm (by have := H4.out; omega)
                  clear hI
                  go_wp2_with (first
                    | (refine wpList_store_pk rfl (.tmp 2) (.tmp 94) rfl w.heap.size (by rfl) hZ18.out (by rfl) ?_; intro wz pz zz gz))
                  obtain ⟨r0, r1, r2, r3, r4, r5, r6, r7, r8⟩ := pz.c
                  refine bodyPost_ret (v := .tuple #[pkV 0 0 0 0 0 none 0 0 0 0 0, .bool false]) (by simp [results, Tryz.results86, go_sem, r0, r1, r2, r3, r4, r5, r6, r7, r8]) rfl ⟨.inr ⟨_, _, _, _, _, _, _, _, _, _, _, HNO.out, rfl⟩, ?_⟩
                  exact below_row hB18.out gz (Nat.le_refl _)
                · obtain ⟨dm, hdm⟩ : ∃ dm : Int, (e : Int) - (m : Int) = dm := ⟨_, rfl⟩
                  have hx4 : 4 ≤ dm := by omega
                  have hdw : wrap64 dm = dm := w64_id dm (by have := H4.out; omega)
                  have hx5 : decide (dm < 4) = false := by simp; omega
                  have HEM := Lib.hid hem
                  obtain ⟨q, hq⟩ : ∃ q, (X.drop m).take 4 = q := ⟨_, rfl⟩
                  have HQ4 : Hid (q.length = 4) := by show _ = _; rw [← hq, List.length_take, List.length_drop, HXL.out]; omega
                  have HQX : Hid (∀ t (h : t < 4) (h2 : m + t < X.length), q[t]'(by rw [HQ4.out]; exact h) = X[m + t]) := fun t h h2 => by subst hq; rw [List.getElem_take, List.getElem_drop]
                  have HQQ := Lib.hid hq
                  clear hq hem
                  go_wp2_with fail
                  go_loopw [13] (fun i wr2 => ∃ (t : Nat) (y : Int), i = .int .i64 (t : Int) ∧ t ≤ 4 ∧ Hid (y = acc4 (q.take t)) ∧ Hid (PkM wr2 P a0 a1 a2 (v 0) (v 1) none 0 0 (v 2) (v 3) y) ∧ Hid (PkM wr2 w.heap.size 0 0 0 0 0 none 0 0 0 0 0) ∧ Hid (Below w.heap.size w wr2)) (fun i _ => 4 - (intOf i).toNat)
                  case atStart => exact ⟨0, 0, rfl, by omega, rfl, hP18, hZ18, hB18⟩
                  case round =>
                    obtain ⟨t, y, rfl, ht, hy, hP2, hZ2, hB2⟩ := hrel
                    clear hP18 hZ18 hB18
                    by_cases htl : t < 4
                    · obtain ⟨mi, hmi⟩ : ∃ mi, m + t = mi := ⟨_, rfl⟩
                      have hml : mi < X.length := by rw [HXL.out]; have := HEM.out; omega
                      have hxc := HXC.out _ hB2.out mi hml
                      have hqx := HQX.out t htl (by rw [hmi]; exact hml)
                      obtain ⟨xb, hxb⟩ : ∃ xb : UInt8, X[mi] = xb := ⟨_, rfl⟩
                      have hqt : q[t]'(by rw [HQ4.out]; exact htl) = xb := by rw [hqx, ← hxb]; congr 1
                      rw [hxb] at hxc
                      have hsn : acc4 (q.take (t + 1)) = y * 256 + xb.toNat := by rw [List.take_succ_eq_append_getElem (by rw [HQ4.out]; exact htl), acc4_snoc, hqt, ← hy.out]
                      have hlo := acc4_lo (q.take t)
                      have hhi := acc4_hi (q.take t) 3 16777216 (by rw [List.length_take]; omega) (by decide)
                      rw [← hy.out] at hlo hhi
                      unfold vb at hxc
                      have hyl := xb.toNat_lt
                      obtain ⟨xi, hxi⟩ : ∃ xi : Int, (xb.toNat : Int) = xi := ⟨_, rfl⟩
                      rw [hxi] at hxc hsn
                      obtain ⟨y2, hy2⟩ : ∃ y2, y * 256 + xi = y2 := ⟨_, rfl⟩
                      rw [hy2] at hsn
                      clear hdw hdm hx4 hx5
                      have hmi0 : (0 : Int) ≤ (mi : Int) := by omega
                      have hmi1 : (mi : Int) < (e : Int) := by rw [HXL.out] at hml; omega
                      have htc : (t : Int) < 4 := by omega
                      have HSN := Lib.hid hsn.symm
                      have hpd : PkM wr.drew P a0 a1 a2 (v 0) (v 1) none 0 0 (v 2) (v 3) y := hP2.out
                      have k8 := hpd.c.2.2.2.2.2.2.2.2
                      have f8 := hpd.fz 8
                      have hxd : wr.drew.cell? ⟨b, off + 3 + mi, none⟩ = some (.int .u8 xi) := hxc
                      have hgs : wr.grownBy (wr.setCell ⟨P, 8, none⟩ (.int .u32 y2)).drew (some P) := gr_trans (gr_set wr P 8 _) ⟨rfl, rfl, rfl, Nat.le_refl _, fun _ _ _ => rfl⟩
                      have HP3 : Hid (PkM (wr.setCell ⟨P, 8, none⟩ (.int .u32 y2)).drew P a0 a1 a2 (v 0) (v 1) none 0 0 (v 2) (v 3) y2) := hP2.out.set_su y2
                      have HZ3 := Lib.hid (hZ2.out.kept hgs (by have := HP1.out; omega)); have HB3 := Lib.hid (below_row hB2.out hgs (by have := HP1.out; omega))
                      have H1 : Hid (IntKind.u32.wrap (y * 256) = y * 256) := by show _ = _; rw [IntKind.wrap_u32]; omega
                      have H2 : Hid (IntKind.u32.wrap xi = xi) := by show _ = _; rw [IntKind.wrap_u32]; omega
                      have H3 : Hid (IntKind.u32.wrap (y * 256 + xi) = y2) := by show _ = _; rw [IntKind.wrap_u32]; omega
                      have H4w : Hid (wrap64 (mi : Int) = (mi : Int)) := w64_id _ (by have := H4.out; omega)
                      have H6 : Hid (IntKind.i64.wrap (mi : Int) = (mi : Int)) := by show _ = _; rw [IntKind.wrap_i64]; have := H4.out; omega
                      have H5 : Hid ((m : Int) + (t : Int) = (mi : Int)) := by show _ = _; omega
                      clear hmi hqx hqt hxb hsn hlo hhi hyl hxi hy2 hpd hgs hml hxc
                      have w1 := H1.out; have w2 := H2.out; have w3 := H3.out; have w4 := H4w.out; have w5 := H5.out; have w6 := H6.out
                      go_wp2
                      go_region
                      go_wp2
                      clear w1 w2 w3 w4 w5 w6
                      go_roundw
                      case rel => exact ⟨t + 1, y2, by go_num, by omega, HSN, HP3, HZ3, HB3⟩
                      case measure => simp [intOf]; omega
                    · obtain rfl : t = 4 := by omega
                      have HYQ : Hid (y = acc4 q) := by have h := hy.out; rw [List.take_of_length_le (by rw [HQ4.out]; omega)] at h; exact h
                      have hyr := acc4_rng q HQ4.out
                      rw [← HYQ.out] at hyr
                      have HY := Lib.hid hyr
                      clear hy hyr htl ht hdw hdm hx4 hx5
                      obtain ⟨M, hM⟩ : ∃ M, m + 4 = M := ⟨_, rfl⟩
                      have hMe : M ≤ e := by have := HEM.out; omega
                      have HMM := Lib.hid hM
                      have hcM : ¬ C = M := by have := HCE.out; omega
                      have hM1 : (M : Int) ≤ (e : Int) := by omega
                      have hrx := HXR.out.below hB2.out
                      have hd := hrx.cut M C (by rw [HXL.out]; omega) (by rw [HXL.out]; have := HCE.out; omega)
                      rw [if_neg hcM] at hd
                      simp only [Option.map_some, Addr.add_lit] at hd
                      have HG := Lib.hid (refget_any (some ⟨b, off + 3 + M, none⟩) (X.drop M) (e - M) (C - M) w.heap.size wr hd (by rw [List.length_drop, HXL.out]) (by have := HCE.out; omega) (by have := HM.out; unfold maxLen at *; omega))
                      have HPK : Hid (∀ p, IsK l p → p.k = 1) := fun p hp => by have h := (HHS.out p hp).1; have := HK1.out; omega
                      clear hrx hd
                      have hmM : (m : Int) + 4 = (M : Int) := by omega
                      have HWM : Hid (wrap64 (M : Int) = (M : Int)) := w64_id _ (by have := H4.out; omega)
                      cases hg : getN (X.drop M) with
                      | ok u k =>
                        rw [hg] at HG
                        change Hid (Calls _ _ _ _ fun e w' => e = .returned (.tuple #[.int .i64 (zag u), .int .i64 (k : Int), .int .i64 0]) ∧ wr = w') at HG
                        have hgk : M + k ≤ e := by
                          have h := (getN_got _ _ _ hg).2.2.2.1
                          rw [List.length_drop, HXL.out] at h
                          omega
                        have HRU : Hid (∀ p, IsK l p → X.drop (M + k) = encG 0 (groups p.l) ∧ zag u = (p.l.length : Int)) := fun p hp => by rw [← HMM.out]; exact inv_runs hI.out hp (HPK.out p hp) (by rw [HMM.out]; exact hg)
                        obtain ⟨z, hz⟩ : ∃ z, zag u = z := ⟨_, rfl⟩
                        rw [hz] at HG HRU
                        clear hg hz hM
                        by_cases hzr : 0 ≤ z ∧ z ≤ 32
                        · obtain ⟨z0, z1⟩ := hzr
                          obtain ⟨M2, hM2⟩ : ∃ M2, M + k = M2 := ⟨_, rfl⟩
                          rw [hM2] at HRU
                          have hM2e : M2 ≤ e := by omega
                          have hcM2 : ¬ C = M2 := by have := HCE.out; omega
                          have hM21 : (M2 : Int) ≤ (e : Int) := by omega
                          have HWM2 : Hid (wrap64 (M2 : Int) = (M2 : Int)) := w64_id _ (by have := H4.out; omega)
                          have hrx := HXR.out.below hB2.out
                          have hd := hrx.cut M2 C (by rw [HXL.out]; omega) (by rw [HXL.out]; have := HCE.out; omega)
                          rw [if_neg hcM2] at hd
                          simp only [Option.map_some, Addr.add_lit] at hd
                          have HRN := Lib.hid (refun_pos (some ⟨b, off + 3 + M2, none⟩) (X.drop M2) (e - M2) (C - M2) 32 wr (by omega) (by omega) (hd.more hB2.out.size) (by rw [List.length_drop, HXL.out]) (by have := HCE.out; omega) (by have := HM.out; unfold maxLen at *; omega))
                          obtain ⟨R, hR⟩ : ∃ R, X.drop M2 = R := ⟨_, rfl⟩
                          rw [hR] at HRN HRU
                          clear hrx hd hR
                          have hkM : (M : Int) + (k : Int) = (M2 : Int) := by omega
                          clear hM2
                          cases hcn : cnt 32 0 (items true R) with
                          | form =>
                            rw [hcn] at HRN
                            unfold UnAns at HRN
                            have HNO : Hid (∀ p, ¬ IsK l p) := fun p hp => by
                              have h := (runs_of hp.1 (HPK.out p hp)).1
                              rw [← (HRU.out p hp).1, hcn] at h
                              cases h
                            clear hcn
                            have hwm := HWM.out; have hwm2 := HWM2.out
                            go_wp2_with fail
                            (with_reducible refine HG.out.mono ?_)
                            rintro r w1 ⟨rfl, rfl⟩
                            go_wp2_with fail
                            (with_reducible refine HRN.out.mono ?_)
                            rintro r w1 ⟨rfl, hb1⟩
                            have hZ3 := Lib.hid (hZ2.out.below hb1 hZ2.out.lt); have hB3 := Lib.hid (hB2.out.trans (hb1.mono hB2.out.size))
                            clear hb1
                            go_wp2_with (first
                              | (refine wpList_store_pk rfl (.tmp 2) (.tmp 143) rfl w.heap.size (by rfl) hZ3.out (by rfl) ?_; intro wz pz zz gz))
                            obtain ⟨r0, r1, r2, r3, r4, r5, r6, r7, r8⟩ := pz.c
                            refine bodyPost_ret (v := .tuple #[pkV 0 0 0 0 0 none 0 0 0 0 0, .bool false]) (by simp [results, Tryz.results86, go_sem, r0, r1, r2, r3, r4, r5, r6, r7, r8]) rfl ⟨.inr ⟨_, _, _, _, _, _, _, _, _, _, _, HNO.out, rfl⟩, ?_⟩
                            exact below_row hB3.out gz (Nat.le_refl _)
                          | full =>
                            rw [hcn] at HRN
                            unfold UnAns at HRN
                            have HNO : Hid (∀ p, ¬ IsK l p) := fun p hp => by
                              have h := (runs_of hp.1 (HPK.out p hp)).1
                              rw [← (HRU.out p hp).1, hcn] at h
                              cases h
                            clear hcn
                            have hwm := HWM.out; have hwm2 := HWM2.out
                            go_wp2_with fail
                            (with_reducible refine HG.out.mono ?_)
                            rintro r w1 ⟨rfl, rfl⟩
                            go_wp2_with fail
                            (with_reducible refine HRN.out.mono ?_)
                            rintro r w1 ⟨rfl, hb1⟩
                            have hZ3 := Lib.hid (hZ2.out.below hb1 hZ2.out.lt); have hB3 := Lib.hid (hB2.out.trans (hb1.mono hB2.out.size))
                            clear hb1
                            go_wp2_with (first
                              | (refine wpList_store_pk rfl (.tmp 2) (.tmp 143) rfl w.heap.size (by rfl) hZ3.out (by rfl) ?_; intro wz pz zz gz))
                            obtain ⟨r0, r1, r2, r3, r4, r5, r6, r7, r8⟩ := pz.c
                            refine bodyPost_ret (v := .tuple #[pkV 0 0 0 0 0 none 0 0 0 0 0, .bool false]) (by simp [results, Tryz.results86, go_sem, r0, r1, r2, r3, r4, r5, r6, r7, r8]) rfl ⟨.inr ⟨_, _, _, _, _, _, _, _, _, _, _, HNO.out, rfl⟩, ?_⟩
                            exact below_row hB3.out gz (Nat.le_refl _)
                          | ok tt =>
                            rw [hcn] at HRN
                            unfold UnAns at HRN
                            obtain ⟨ys, hys⟩ : ∃ ys, expand 0 (items true R) = ys := ⟨_, rfl⟩
                            rw [hys] at HRN
                            have HYS : Hid (∀ p, IsK l p → p.k = 1 → ys = p.l) := fun p hp hk => by
                              have h := (runs_of hp.1 hk).2
                              rw [← (HRU.out p hp).1, hys] at h
                              exact h
                            have HCA := Lib.hid (cand_in (y := y) hI.out HHS.out HK1.out (by rw [HQQ.out]; exact HYQ.out) HYS.out)
                            have HYL : Hid (ys.length ≤ 32) := by
                              have hit := items_in R true
                              have hle := cnt_le 32 _ 0 tt (by omega) (fun x hx => (hit x hx).1) hcn
                              have hel := expand_len 32 _ 0 tt 0 (fun x hx => (hit x hx).1) hcn
                              show _ ≤ _
                              rw [← hys, hel]; omega
                            clear hcn hys
                            have hwm := HWM.out; have hwm2 := HWM2.out
                            go_wp2_with fail
                            (with_reducible refine HG.out.mono ?_)
                            rintro r w1 ⟨rfl, rfl⟩
                            go_wp2_with fail
                            (with_reducible refine HRN.out.mono ?_)
                            rintro r w1 ⟨⟨vy, rfl, oy⟩, hb1⟩
                            obtain ⟨ny, hny⟩ : ∃ ny, ys.length = ny := ⟨_, rfl⟩
                            obtain ⟨Ay, cy, rfl, hncy, hcmy, -⟩ := oy.form_n ny hny
                            have hP3 := hP2.out.below hb1 hP2.out.lt
                            have hZ3 := hZ2.out.below hb1 hZ2.out.lt
                            have hB3 := hB2.out.trans (hb1.mono hB2.out.size)
                            have hRs := hZ2.out.lt
                            have oy2 := oy.less (show w.heap.size + 1 ≤ wr.heap.size by omega)
                            obtain ⟨wn, hwn⟩ : ∃ wn, wn = w1.setCell ⟨P, 5, none⟩ (.slice Ay ny cy) := ⟨_, rfl⟩
                            have hgn : w1.grownBy wn (some P) := by rw [hwn]; exact gr_set _ _ _ _
                            have hPl := hP2.out.lt
                            have HPN : Hid (PkM wn P a0 a1 a2 (v 0) (v 1) Ay ny cy (v 2) (v 3) y) := by rw [hwn]; exact hP3.set_pr Ay ny cy
                            have HZN := Lib.hid (hZ3.kept hgn (by have := HP1.out; omega)); have HBN := Lib.hid (below_row hB3 hgn (by have := HP1.out; omega))
                            have HOY : Hid (OB wn (w.heap.size + 1) (.slice Ay ny cy) ys) := (oy.kept_gr hgn hPl).less (by omega)
                            have HNY := Lib.hid hny; have HNC := Lib.hid hncy; have HMC := Lib.hid hcmy
                            have e5 := hP3.c.2.2.2.2.2.1
                            have f5 := hP3.fz 5
                            have HWN := Lib.hid hwn
                            clear hP3 hZ3 hB3 oy oy2 hb1 hgn hwn hwm hwm2 hny hcmy hPl hRs
                            go_wp2_with fail
                            rw [← HWN.out]
                            clear e5 f5
                            obtain ⟨enc, henc⟩ : ∃ enc, encC a0 a1 a2 (v 0) (v 1) (v 2) (v 3) y ys = enc := ⟨_, rfl⟩
                            obtain ⟨n5, hn5⟩ : ∃ n5, enc.length = n5 := ⟨_, rfl⟩
                            have HN5 := Lib.hid hn5
                            have hEN := refpacket_any a0 a1 a2 (v 0) (v 1) Ay ys ny cy (v 2) (v 3) y wn.drew HOY.out.drew.cells HNY.out (by have := HNC.out; omega) HMC.out HY.out.1 HY.out.2
                            rw [henc] at hEN
                            have HENC := Lib.hid hEN
                            have HHE := Lib.hid henc
                            have hcd := is_cand (⟨a0, a1, a2, v 0, v 1, v 2, v 3, y, ys⟩ : Pk) HY.out HL0.out HCA.out
                            have HCD : Hid ((enc = l → IsK l ⟨a0, a1, a2, v 0, v 1, v 2, v 3, y, ys⟩) ∧ (enc ≠ l → ∀ p, ¬ IsK l p)) := by rw [← henc]; exact hcd
                            clear henc hn5 hEN hcd
                            by_cases hbl : enc = l
                            · have HYES := Lib.hid (HCD.out.1 hbl)
                              have HST : Hid (str enc = sb) := by show _ = _; rw [hbl]; exact HSB.out
                              clear hbl
                              go_wp2_with fail
                              go_upto_region 34 with fail
                              refine wp_region_held_drew (S := (fun w' => PkM w' P a0 a1 a2 (v 0) (v 1) Ay ny cy (v 2) (v 3) y ∧ (convert 33 9 (.slice (some ⟨b, off, none⟩) (e + 7) (C + 3))).run Tryz.prog w' = .ok (.string sb) w')) (by kernel_rfl) (⟨HPN.out, HCB.out _ HBN.out.drew⟩) (fun hHeld => ?_)
                              refine held_take (i := 0) (v := (pkV a0 a1 a2 (v 0) (v 1) Ay ny cy (v 2) (v 3) y)) rfl (by kernel_rfl) (by kernel_rfl) (by kernel_rfl) (fun _ _ _ h => h) (by rfl) hHeld (exec_load_pk (.tmp 5) rfl P (by rfl) (fun w h => h.1)) ?_
                              try simp only [Act.put, nB, nC, nD]
                              refine held_take (i := 1) (v := (pkV a0 a1 a2 (v 0) (v 1) Ay ny cy (v 2) (v 3) y)) rfl (by kernel_rfl) (by kernel_rfl) (by kernel_rfl) (fun _ _ _ h => h) (by rfl) hHeld (exec_load_pk (.tmp 5) rfl P (by rfl) (fun w h => h.1)) ?_
                              try simp only [Act.put, nB, nC, nD]
                              refine held_take (i := 4) (v := ?_) rfl (by kernel_rfl) (by kernel_rfl) (by kernel_rfl) (fun _ _ _ h => h) (by rfl) hHeld ?_ ?_
                              rotate_left 1
                              · (intro w hSw; (try dsimp only at hSw); go_simp; try (with_reducible rfl))
                              try simp only [Act.put, nB, nC, nD]
                              refine held_take (i := 5) (v := ?_) rfl (by kernel_rfl) (by kernel_rfl) (by kernel_rfl) (fun _ _ _ h => h) (by rfl) hHeld ?_ ?_
                              rotate_left 1
                              · (intro w hSw; (try dsimp only at hSw); go_simp; try (with_reducible rfl))
                              try simp only [Act.put, nB, nC, nD]
                              refine held_one (i := 2) rfl (by kernel_rfl) (by rfl) (fun K hK => ?_)
                              go_simp
                              (with_reducible refine HENC.out.mono ?_)
                              rintro e5 w5 ⟨v5, rfl, o5, b5⟩
                              obtain ⟨A5, c5, rfl, -, -, -⟩ := o5.form_n n5 HN5.out
                              have q5 := conv_own o5 HN5.out
                              rw [HST.out] at q5
                              have hk5 := PkM.below (w := wn.drew) HPN.out b5 HPN.out.lt
                              have hz5 := PkM.below (w := wn.drew) HZN.out b5 HZN.out.lt
                              have hb5 := HBN.out.drew.trans (b5.mono HBN.out.size)
                              have hc5 := HCB.out w5 hb5
                              have HO5 := Lib.hid o5
                              have HY5 := Lib.hid (HOY.out.drew.below b5 (Nat.le_refl _))
                              have HS5 : Hid (wn.heap.size ≤ w5.heap.size) := b5.size
                              clear o5 b5
                              refine hK.out _ _ (⟨hk5, hc5⟩) (fun hHeld2 => ?_)
                              clear hK K hHeld; have hHeld := hHeld2; clear hHeld2
                              try simp only [Act.put, nB, nC, nD]
                              refine held_two (i := 3) (j := 7) rfl rfl (by kernel_rfl) (by rfl) (by rfl) (fun K hK => ?_) (fun K hK => ?_)
                              · go_simp
                                refine hK.out _ _ (⟨hk5, hc5⟩) (fun hHeld2 => ?_)
                                clear hK K hHeld; have hHeld := hHeld2; clear hHeld2
                                try simp only [Act.put, nB, nC, nD]
                                refine held_take (i := 6) (v := ?_) rfl (by kernel_rfl) (by kernel_rfl) (by kernel_rfl) (fun _ _ _ h => h) (by rfl) hHeld ?_ ?_
                                rotate_left 1
                                · (intro w hSw; (try dsimp only at hSw); go_simp; try (with_reducible rfl))
                                try simp only [Act.put, nB, nC, nD]
                                refine held_one (i := 7) rfl (by kernel_rfl) (by rfl) (fun K hK => ?_)
                                refine wp_store_pk (.tmp 2) (.tmp 146) rfl w.heap.size (by rfl) hz5 (by rfl) ?_
                                intro w6 p6 z6 g6
                                have hk6 := hk5.kept g6 (by have := HP1.out; omega)
                                have hb6 := below_row hb5 g6 (Nat.le_refl _)
                                have hc6 := HCB.out w6 hb6
                                have q6 := conv_own (HO5.out.kept_gr g6 HZN.out.lt) HN5.out
                                rw [HST.out] at q6
                                have HY6 := HY5.out.kept_gr g6 (Nat.lt_succ_self _)
                                refine hK.out _ _ (⟨hk6, hc6⟩) (fun hHeld2 => ?_)
                                clear hK K hHeld; have hHeld := hHeld2; clear hHeld2
                                try simp only [Act.put, nB, nC, nD]
                                refine held_take (i := 8) (v := ?_) rfl (by kernel_rfl) (by kernel_rfl) (by kernel_rfl) (fun _ _ _ h => h) (by rfl) hHeld ?_ ?_
                                rotate_left 1
                                · (intro w hSw; (try dsimp only at hSw); go_simp; try (with_reducible rfl))
                                try simp only [Act.put, nB, nC, nD]
                                refine wpAnyH_done (by kernel_rfl) ?_ _
                                skip
                                obtain ⟨r0, r1, r2, r3, r4, r5, r6, r7, r8⟩ := p6.c
                                go_wp2_with fail
                                refine bodyPost_ret (v := .tuple #[pkV a0 a1 a2 (v 0) (v 1) Ay ny cy (v 2) (v 3) y, .bool true]) (by simp [results, Tryz.results86, go_sem, r0, r1, r2, r3, r4, r5, r6, r7, r8]) rfl ⟨.inl ⟨⟨a0, a1, a2, v 0, v 1, v 2, v 3, y, ys⟩, Ay, ny, cy, HYES.out, rfl, HY6.less (Nat.le_succ _), HNY.out⟩, hb6⟩
                              · refine wp_store_pk (.tmp 2) (.tmp 146) rfl w.heap.size (by rfl) hz5 (by rfl) ?_
                                intro w6 p6 z6 g6
                                have hk6 := hk5.kept g6 (by have := HP1.out; omega)
                                have hb6 := below_row hb5 g6 (Nat.le_refl _)
                                have hc6 := HCB.out w6 hb6
                                have q6 := conv_own (HO5.out.kept_gr g6 HZN.out.lt) HN5.out
                                rw [HST.out] at q6
                                have HY6 := HY5.out.kept_gr g6 (Nat.lt_succ_self _)
                                refine hK.out _ _ (⟨hk6, hc6⟩) (fun hHeld2 => ?_)
                                clear hK K hHeld; have hHeld := hHeld2; clear hHeld2
                                try simp only [Act.put, nB, nC, nD]
                                refine held_one (i := 3) rfl (by kernel_rfl) (by rfl) (fun K hK => ?_)
                                go_simp
                                refine hK.out _ _ (⟨hk6, hc6⟩) (fun hHeld2 => ?_)
                                clear hK K hHeld; have hHeld := hHeld2; clear hHeld2
                                try simp only [Act.put, nB, nC, nD]
                                refine held_take (i := 6) (v := ?_) rfl (by kernel_rfl) (by kernel_rfl) (by kernel_rfl) (fun _ _ _ h => h) (by rfl) hHeld ?_ ?_
                                rotate_left 1
                                · (intro w hSw; (try dsimp only at hSw); go_simp; try (with_reducible rfl))
                                try simp only [Act.put, nB, nC, nD]
                                refine held_take (i := 8) (v := ?_) rfl (by kernel_rfl) (by kernel_rfl) (by kernel_rfl) (fun _ _ _ h => h) (by rfl) hHeld ?_ ?_
                                rotate_left 1
                                · (intro w hSw; (try dsimp only at hSw); go_simp; try (with_reducible rfl))
                                try simp only [Act.put, nB, nC, nD]
                                refine wpAnyH_done (by kernel_rfl) ?_ _
                                skip
                                obtain ⟨r0, r1, r2, r3, r4, r5, r6, r7, r8⟩ := p6.c
                                go_wp2_with fail
                                refine bodyPost_ret (v := .tuple #[pkV a0 a1 a2 (v 0) (v 1) Ay ny cy (v 2) (v 3) y, .bool true]) (by simp [results, Tryz.results86, go_sem, r0, r1, r2, r3, r4, r5, r6, r7, r8]) rfl ⟨.inl ⟨⟨a0, a1, a2, v 0, v 1, v 2, v 3, y, ys⟩, Ay, ny, cy, HYES.out, rfl, HY6.less (Nat.le_succ _), HNY.out⟩, hb6⟩
                            · have HNO := Lib.hid (HCD.out.2 hbl)
                              obtain ⟨s5, hs5⟩ : ∃ s5, str enc = s5 := ⟨_, rfl⟩
                              have HST := Lib.hid hs5
                              have hq5 : (s5.toList == sb.toList) = false := by
                                rw [beq_eq_false_iff_ne, ← hs5, ← HSB.out, str_toList, str_toList]
                                exact hbl
                              clear hbl hs5
                              go_wp2_with fail
                              go_upto_region 34 with fail
                              refine wp_region_held_drew (S := (fun w' => PkM w' P a0 a1 a2 (v 0) (v 1) Ay ny cy (v 2) (v 3) y ∧ (convert 33 9 (.slice (some ⟨b, off, none⟩) (e + 7) (C + 3))).run Tryz.prog w' = .ok (.string sb) w')) (by kernel_rfl) (⟨HPN.out, HCB.out _ HBN.out.drew⟩) (fun hHeld => ?_)
                              refine held_take (i := 0) (v := (pkV a0 a1 a2 (v 0) (v 1) Ay ny cy (v 2) (v 3) y)) rfl (by kernel_rfl) (by kernel_rfl) (by kernel_rfl) (fun _ _ _ h => h) (by rfl) hHeld (exec_load_pk (.tmp 5) rfl P (by rfl) (fun w h => h.1)) ?_
                              try simp only [Act.put, nB, nC, nD]
                              refine held_take (i := 1) (v := (pkV a0 a1 a2 (v 0) (v 1) Ay ny cy (v 2) (v 3) y)) rfl (by kernel_rfl) (by kernel_rfl) (by kernel_rfl) (fun _ _ _ h => h) (by rfl) hHeld (exec_load_pk (.tmp 5) rfl P (by rfl) (fun w h => h.1)) ?_
                              try simp only [Act.put, nB, nC, nD]
                              refine held_take (i := 4) (v := ?_) rfl (by kernel_rfl) (by kernel_rfl) (by kernel_rfl) (fun _ _ _ h => h) (by rfl) hHeld ?_ ?_
                              rotate_left 1
                              · (intro w hSw; (try dsimp only at hSw); go_simp; try (with_reducible rfl))
                              try simp only [Act.put, nB, nC, nD]
                              refine held_take (i := 5) (v := ?_) rfl (by kernel_rfl) (by kernel_rfl) (by kernel_rfl) (fun _ _ _ h => h) (by rfl) hHeld ?_ ?_
                              rotate_left 1
                              · (intro w hSw; (try dsimp only at hSw); go_simp; try (with_reducible rfl))
                              try simp only [Act.put, nB, nC, nD]
                              refine held_one (i := 2) rfl (by kernel_rfl) (by rfl) (fun K hK => ?_)
                              go_simp
                              (with_reducible refine HENC.out.mono ?_)
                              rintro e5 w5 ⟨v5, rfl, o5, b5⟩
                              obtain ⟨A5, c5, rfl, -, -, -⟩ := o5.form_n n5 HN5.out
                              have q5 := conv_own o5 HN5.out
                              rw [HST.out] at q5
                              have hk5 := PkM.below (w := wn.drew) HPN.out b5 HPN.out.lt
                              have hz5 := PkM.below (w := wn.drew) HZN.out b5 HZN.out.lt
                              have hb5 := HBN.out.drew.trans (b5.mono HBN.out.size)
                              have hc5 := HCB.out w5 hb5
                              have HO5 := Lib.hid o5
                              have HY5 := Lib.hid (HOY.out.drew.below b5 (Nat.le_refl _))
                              have HS5 : Hid (wn.heap.size ≤ w5.heap.size) := b5.size
                              clear o5 b5
                              refine hK.out _ _ (⟨hk5, hc5⟩) (fun hHeld2 => ?_)
                              clear hK K hHeld; have hHeld := hHeld2; clear hHeld2
                              try simp only [Act.put, nB, nC, nD]
                              refine held_two (i := 3) (j := 7) rfl rfl (by kernel_rfl) (by rfl) (by rfl) (fun K hK => ?_) (fun K hK => ?_)
                              · go_simp
                                refine hK.out _ _ (⟨hk5, hc5⟩) (fun hHeld2 => ?_)
                                clear hK K hHeld; have hHeld := hHeld2; clear hHeld2
                                try simp only [Act.put, nB, nC, nD]
                                refine held_take (i := 6) (v := ?_) rfl (by kernel_rfl) (by kernel_rfl) (by kernel_rfl) (fun _ _ _ h => h) (by rfl) hHeld ?_ ?_
                                rotate_left 1
                                · (intro w hSw; (try dsimp only at hSw); go_simp; try (with_reducible rfl))
                                try simp only [Act.put, nB, nC, nD]
                                refine held_one (i := 7) rfl (by kernel_rfl) (by rfl) (fun K hK => ?_)
                                refine wp_store_pk (.tmp 2) (.tmp 146) rfl w.heap.size (by rfl) hz5 (by rfl) ?_
                                intro w6 p6 z6 g6
                                have hk6 := hk5.kept g6 (by have := HP1.out; omega)
                                have hb6 := below_row hb5 g6 (Nat.le_refl _)
                                have hc6 := HCB.out w6 hb6
                                have q6 := conv_own (HO5.out.kept_gr g6 HZN.out.lt) HN5.out
                                rw [HST.out] at q6
                                have HY6 := HY5.out.kept_gr g6 (Nat.lt_succ_self _)
                                refine hK.out _ _ (⟨hk6, hc6⟩) (fun hHeld2 => ?_)
                                clear hK K hHeld; have hHeld := hHeld2; clear hHeld2
                                try simp only [Act.put, nB, nC, nD]
                                refine held_take (i := 8) (v := ?_) rfl (by kernel_rfl) (by kernel_rfl) (by kernel_rfl) (fun _ _ _ h => h) (by rfl) hHeld ?_ ?_
                                rotate_left 1
                                · (intro w hSw; (try dsimp only at hSw); go_simp; try (with_reducible rfl))
                                try simp only [Act.put, nB, nC, nD]
                                refine wpAnyH_done (by kernel_rfl) ?_ _
                                skip
                                obtain ⟨r0, r1, r2, r3, r4, r5, r6, r7, r8⟩ := p6.c
                                go_wp2_with fail
                                refine bodyPost_ret (v := .tuple #[pkV a0 a1 a2 (v 0) (v 1) Ay ny cy (v 2) (v 3) y, .bool false]) (by simp [results, Tryz.results86, go_sem, r0, r1, r2, r3, r4, r5, r6, r7, r8]) rfl ⟨.inr ⟨_, _, _, _, _, _, _, _, _, _, _, HNO.out, rfl⟩, hb6⟩
                              · refine wp_store_pk (.tmp 2) (.tmp 146) rfl w.heap.size (by rfl) hz5 (by rfl) ?_
                                intro w6 p6 z6 g6
                                have hk6 := hk5.kept g6 (by have := HP1.out; omega)
                                have hb6 := below_row hb5 g6 (Nat.le_refl _)
                                have hc6 := HCB.out w6 hb6
                                have q6 := conv_own (HO5.out.kept_gr g6 HZN.out.lt) HN5.out
                                rw [HST.out] at q6
                                have HY6 := HY5.out.kept_gr g6 (Nat.lt_succ_self _)
                                refine hK.out _ _ (⟨hk6, hc6⟩) (fun hHeld2 => ?_)
                                clear hK K hHeld; have hHeld := hHeld2; clear hHeld2
                                try simp only [Act.put, nB, nC, nD]
                                refine held_one (i := 3) rfl (by kernel_rfl) (by rfl) (fun K hK => ?_)
                                go_simp
                                refine hK.out _ _ (⟨hk6, hc6⟩) (fun hHeld2 => ?_)
                                clear hK K hHeld; have hHeld := hHeld2; clear hHeld2
                                try simp only [Act.put, nB, nC, nD]
                                refine held_take (i := 6) (v := ?_) rfl (by kernel_rfl) (by kernel_rfl) (by kernel_rfl) (fun _ _ _ h => h) (by rfl) hHeld ?_ ?_
                                rotate_left 1
                                · (intro w hSw; (try dsimp only at hSw); go_simp; try (with_reducible rfl))
                                try simp only [Act.put, nB, nC, nD]
                                refine held_take (i := 8) (v := ?_) rfl (by kernel_rfl) (by kernel_rfl) (by kernel_rfl) (fun _ _ _ h => h) (by rfl) hHeld ?_ ?_
                                rotate_left 1
                                · (intro w hSw; (try dsimp only at hSw); go_simp; try (with_reducible rfl))
                                try simp only [Act.put, nB, nC, nD]
                                refine wpAnyH_done (by kernel_rfl) ?_ _
                                skip
                                obtain ⟨r0, r1, r2, r3, r4, r5, r6, r7, r8⟩ := p6.c
                                go_wp2_with fail
                                refine bodyPost_ret (v := .tuple #[pkV a0 a1 a2 (v 0) (v 1) Ay ny cy (v 2) (v 3) y, .bool false]) (by simp [results, Tryz.results86, go_sem, r0, r1, r2, r3, r4, r5, r6, r7, r8]) rfl ⟨.inr ⟨_, _, _, _, _, _, _, _, _, _, _, HNO.out, rfl⟩, hb6⟩
                        · have HNO : Hid (∀ p, ¬ IsK l p) := fun p hp => by
                            have h1 := (HRU.out p hp).2
                            have h2 := may_len hp.1 (HPK.out p hp)
                            omega
                          clear hI
                          have hwm := HWM.out
                          by_cases hz0 : z < 0
                          · go_wp2_with fail
                            (with_reducible refine HG.out.mono ?_)
                            rintro r w1 ⟨rfl, rfl⟩
                            go_wp2_with (first
                              | (refine wpList_store_pk rfl (.tmp 2) (.tmp 131) rfl w.heap.size (by rfl) hZ2.out (by rfl) ?_; intro wz pz zz gz))
                            obtain ⟨r0, r1, r2, r3, r4, r5, r6, r7, r8⟩ := pz.c
                            refine bodyPost_ret (v := .tuple #[pkV 0 0 0 0 0 none 0 0 0 0 0, .bool false]) (by simp [results, Tryz.results86, go_sem, r0, r1, r2, r3, r4, r5, r6, r7, r8]) rfl ⟨.inr ⟨_, _, _, _, _, _, _, _, _, _, _, HNO.out, rfl⟩, ?_⟩
                            exact below_row hB2.out gz (Nat.le_refl _)
                          · have hz1 : 32 < z := by omega
                            clear hzr
                            go_wp2_with fail
                            (with_reducible refine HG.out.mono ?_)
                            rintro r w1 ⟨rfl, rfl⟩
                            go_wp2_with (first
                              | (refine wpList_store_pk rfl (.tmp 2) (.tmp 131) rfl w.heap.size (by rfl) hZ2.out (by rfl) ?_; intro wz pz zz gz))
                            obtain ⟨r0, r1, r2, r3, r4, r5, r6, r7, r8⟩ := pz.c
                            refine bodyPost_ret (v := .tuple #[pkV 0 0 0 0 0 none 0 0 0 0 0, .bool false]) (by simp [results, Tryz.results86, go_sem, r0, r1, r2, r3, r4, r5, r6, r7, r8]) rfl ⟨.inr ⟨_, _, _, _, _, _, _, _, _, _, _, HNO.out, rfl⟩, ?_⟩
                            exact below_row hB2.out gz (Nat.le_refl _)
                      | more =>
                        rw [hg] at HG
                        change Hid (Calls _ _ _ _ fun e w' => e = .returned (.tuple #[.int .i64 0, .int .i64 0, .int .i64 2]) ∧ wr = w') at HG
                        have HNO : Hid (∀ p, ¬ IsK l p) := fun p hp => by
                          have h := inv_count hI.out hp (HPK.out p hp)
                          rw [hM, hg] at h
                          cases h
                        clear hg hI hM
                        have hwm := HWM.out
                        go_wp2_with fail
                        (with_reducible refine HG.out.mono ?_)
                        rintro r w1 ⟨rfl, rfl⟩
                        go_wp2_with (first
                          | (refine wpList_store_pk rfl (.tmp 2) (.tmp 131) rfl w.heap.size (by rfl) hZ2.out (by rfl) ?_; intro wz pz zz gz))
                        obtain ⟨r0, r1, r2, r3, r4, r5, r6, r7, r8⟩ := pz.c
                        refine bodyPost_ret (v := .tuple #[pkV 0 0 0 0 0 none 0 0 0 0 0, .bool false]) (by simp [results, Tryz.results86, go_sem, r0, r1, r2, r3, r4, r5, r6, r7, r8]) rfl ⟨.inr ⟨_, _, _, _, _, _, _, _, _, _, _, HNO.out, rfl⟩, ?_⟩
                        exact below_row hB2.out gz (Nat.le_refl _)
                      | form =>
                        rw [hg] at HG
                        change Hid (Calls _ _ _ _ fun e w' => e = .returned (.tuple #[.int .i64 0, .int .i64 0, .int .i64 1]) ∧ wr = w') at HG
                        have HNO : Hid (∀ p, ¬ IsK l p) := fun p hp => by
                          have h := inv_count hI.out hp (HPK.out p hp)
                          rw [hM, hg] at h
                          cases h
                        clear hg hI hM
                        have hwm := HWM.out
                        go_wp2_with fail
                        (with_reducible refine HG.out.mono ?_)
                        rintro r w1 ⟨rfl, rfl⟩
                        go_wp2_with (first
                          | (refine wpList_store_pk rfl (.tmp 2) (.tmp 131) rfl w.heap.size (by rfl) hZ2.out (by rfl) ?_; intro wz pz zz gz))
                        obtain ⟨r0, r1, r2, r3, r4, r5, r6, r7, r8⟩ := pz.c
                        refine bodyPost_ret (v := .tuple #[pkV 0 0 0 0 0 none 0 0 0 0 0, .bool false]) (by simp [results, Tryz.results86, go_sem, r0, r1, r2, r3, r4, r5, r6, r7, r8]) rfl ⟨.inr ⟨_, _, _, _, _, _, _, _, _, _, _, HNO.out, rfl⟩, ?_⟩
                        exact below_row hB2.out gz (Nat.le_refl _)
              · subst hj1
                have hb1 : (a0 == 1) = false := by simp; exact hk1
                have HCA := Lib.hid (cand_out hI.out HHS.out hk1 (fun q hq => hV0.out q hq))
                have HOY : Hid (OB wc (w.heap.size + 1) (.slice none 0 0) []) := OB.nil _ _
                have HNY : Hid (([] : List UInt8).length = 0) := rfl
                have HY : Hid ((0 : Int) ≤ 0 ∧ (0 : Int) ≤ 4294967295) := by show _ ∧ _; omega
                clear hk1
                have HNC : Hid (0 ≤ 0) := Nat.le_refl 0
                have HMC : Hid (0 ≤ maxLen) := Nat.zero_le _
                obtain ⟨enc, henc⟩ : ∃ enc, encC a0 a1 a2 (v 0) (v 1) (v 2) (v 3) 0 [] = enc := ⟨_, rfl⟩
                obtain ⟨n5, hn5⟩ : ∃ n5, enc.length = n5 := ⟨_, rfl⟩
                have HN5 := Lib.hid hn5
                have hEN := refpacket_any a0 a1 a2 (v 0) (v 1) none [] 0 0 (v 2) (v 3) 0 wc.drew HOY.out.drew.cells HNY.out (by have := HNC.out; omega) HMC.out HY.out.1 HY.out.2
                rw [henc] at hEN
                have HENC := Lib.hid hEN
                have HHE := Lib.hid henc
                have hcd := is_cand (⟨a0, a1, a2, v 0, v 1, v 2, v 3, 0, []⟩ : Pk) HY.out HL0.out HCA.out
                have HCD : Hid ((enc = l → IsK l ⟨a0, a1, a2, v 0, v 1, v 2, v 3, 0, []⟩) ∧ (enc ≠ l → ∀ p, ¬ IsK l p)) := by rw [← henc]; exact hcd
                clear henc hn5 hEN hcd
                by_cases hbl : enc = l
                · have HYES := Lib.hid (HCD.out.1 hbl)
                  have HST : Hid (str enc = sb) := by show _ = _; rw [hbl]; exact HSB.out
                  clear hbl
                  go_wp2_with fail
                  go_upto_region 34 with fail
                  refine wp_region_held_drew (S := (fun w' => PkM w' P a0 a1 a2 (v 0) (v 1) none 0 0 (v 2) (v 3) 0 ∧ (convert 33 9 (.slice (some ⟨b, off, none⟩) (e + 7) (C + 3))).run Tryz.prog w' = .ok (.string sb) w')) (by kernel_rfl) (⟨hP18.out, HCB.out _ hB18.out.drew⟩) (fun hHeld => ?_)
                  refine held_take (i := 0) (v := (pkV a0 a1 a2 (v 0) (v 1) none 0 0 (v 2) (v 3) 0)) rfl (by kernel_rfl) (by kernel_rfl) (by kernel_rfl) (fun _ _ _ h => h) (by rfl) hHeld (exec_load_pk (.tmp 5) rfl P (by rfl) (fun w h => h.1)) ?_
                  try simp only [Act.put, nB, nC, nD]
                  refine held_take (i := 1) (v := (pkV a0 a1 a2 (v 0) (v 1) none 0 0 (v 2) (v 3) 0)) rfl (by kernel_rfl) (by kernel_rfl) (by kernel_rfl) (fun _ _ _ h => h) (by rfl) hHeld (exec_load_pk (.tmp 5) rfl P (by rfl) (fun w h => h.1)) ?_
                  try simp only [Act.put, nB, nC, nD]
                  refine held_take (i := 4) (v := ?_) rfl (by kernel_rfl) (by kernel_rfl) (by kernel_rfl) (fun _ _ _ h => h) (by rfl) hHeld ?_ ?_
                  rotate_left 1
                  · (intro w hSw; (try dsimp only at hSw); go_simp; try (with_reducible rfl))
                  try simp only [Act.put, nB, nC, nD]
                  refine held_take (i := 5) (v := ?_) rfl (by kernel_rfl) (by kernel_rfl) (by kernel_rfl) (fun _ _ _ h => h) (by rfl) hHeld ?_ ?_
                  rotate_left 1
                  · (intro w hSw; (try dsimp only at hSw); go_simp; try (with_reducible rfl))
                  try simp only [Act.put, nB, nC, nD]
                  refine held_one (i := 2) rfl (by kernel_rfl) (by rfl) (fun K hK => ?_)
                  go_simp
                  (with_reducible refine HENC.out.mono ?_)
                  rintro e5 w5 ⟨v5, rfl, o5, b5⟩
                  obtain ⟨A5, c5, rfl, -, -, -⟩ := o5.form_n n5 HN5.out
                  have q5 := conv_own o5 HN5.out
                  rw [HST.out] at q5
                  have hk5 := PkM.below (w := wc.drew) hP18.out b5 hP18.out.lt
                  have hz5 := PkM.below (w := wc.drew) hZ18.out b5 hZ18.out.lt
                  have hb5 := hB18.out.drew.trans (b5.mono hB18.out.size)
                  have hc5 := HCB.out w5 hb5
                  have HO5 := Lib.hid o5
                  have HY5 := Lib.hid (HOY.out.drew.below b5 (Nat.le_refl _))
                  have HS5 : Hid (wc.heap.size ≤ w5.heap.size) := b5.size
                  clear o5 b5
                  refine hK.out _ _ (⟨hk5, hc5⟩) (fun hHeld2 => ?_)
                  clear hK K hHeld; have hHeld := hHeld2; clear hHeld2
                  try simp only [Act.put, nB, nC, nD]
                  refine held_two (i := 3) (j := 7) rfl rfl (by kernel_rfl) (by rfl) (by rfl) (fun K hK => ?_) (fun K hK => ?_)
                  · go_simp
                    refine hK.out _ _ (⟨hk5, hc5⟩) (fun hHeld2 => ?_)
                    clear hK K hHeld; have hHeld := hHeld2; clear hHeld2
                    try simp only [Act.put, nB, nC, nD]
                    refine held_take (i := 6) (v := ?_) rfl (by kernel_rfl) (by kernel_rfl) (by kernel_rfl) (fun _ _ _ h => h) (by rfl) hHeld ?_ ?_
                    rotate_left 1
                    · (intro w hSw; (try dsimp only at hSw); go_simp; try (with_reducible rfl))
                    try simp only [Act.put, nB, nC, nD]
                    refine held_one (i := 7) rfl (by kernel_rfl) (by rfl) (fun K hK => ?_)
                    refine wp_store_pk (.tmp 2) (.tmp 146) rfl w.heap.size (by rfl) hz5 (by rfl) ?_
                    intro w6 p6 z6 g6
                    have hk6 := hk5.kept g6 (by have := HP1.out; omega)
                    have hb6 := below_row hb5 g6 (Nat.le_refl _)
                    have hc6 := HCB.out w6 hb6
                    have q6 := conv_own (HO5.out.kept_gr g6 hZ18.out.lt) HN5.out
                    rw [HST.out] at q6
                    have HY6 := HY5.out.kept_gr g6 (Nat.lt_succ_self _)
                    refine hK.out _ _ (⟨hk6, hc6⟩) (fun hHeld2 => ?_)
                    clear hK K hHeld; have hHeld := hHeld2; clear hHeld2
                    try simp only [Act.put, nB, nC, nD]
                    refine held_take (i := 8) (v := ?_) rfl (by kernel_rfl) (by kernel_rfl) (by kernel_rfl) (fun _ _ _ h => h) (by rfl) hHeld ?_ ?_
                    rotate_left 1
                    · (intro w hSw; (try dsimp only at hSw); go_simp; try (with_reducible rfl))
                    try simp only [Act.put, nB, nC, nD]
                    refine wpAnyH_done (by kernel_rfl) ?_ _
                    skip
                    obtain ⟨r0, r1, r2, r3, r4, r5, r6, r7, r8⟩ := p6.c
                    go_wp2_with fail
                    refine bodyPost_ret (v := .tuple #[pkV a0 a1 a2 (v 0) (v 1) none 0 0 (v 2) (v 3) 0, .bool true]) (by simp [results, Tryz.results86, go_sem, r0, r1, r2, r3, r4, r5, r6, r7, r8]) rfl ⟨.inl ⟨⟨a0, a1, a2, v 0, v 1, v 2, v 3, 0, []⟩, none, 0, 0, HYES.out, rfl, HY6.less (Nat.le_succ _), HNY.out⟩, hb6⟩
                  · refine wp_store_pk (.tmp 2) (.tmp 146) rfl w.heap.size (by rfl) hz5 (by rfl) ?_
                    intro w6 p6 z6 g6
                    have hk6 := hk5.kept g6 (by have := HP1.out; omega)
                    have hb6 := below_row hb5 g6 (Nat.le_refl _)
                    have hc6 := HCB.out w6 hb6
                    have q6 := conv_own (HO5.out.kept_gr g6 hZ18.out.lt) HN5.out
                    rw [HST.out] at q6
                    have HY6 := HY5.out.kept_gr g6 (Nat.lt_succ_self _)
                    refine hK.out _ _ (⟨hk6, hc6⟩) (fun hHeld2 => ?_)
                    clear hK K hHeld; have hHeld := hHeld2; clear hHeld2
                    try simp only [Act.put, nB, nC, nD]
                    refine held_one (i := 3) rfl (by kernel_rfl) (by rfl) (fun K hK => ?_)
                    go_simp
                    refine hK.out _ _ (⟨hk6, hc6⟩) (fun hHeld2 => ?_)
                    clear hK K hHeld; have hHeld := hHeld2; clear hHeld2
                    try simp only [Act.put, nB, nC, nD]
                    refine held_take (i := 6) (v := ?_) rfl (by kernel_rfl) (by kernel_rfl) (by kernel_rfl) (fun _ _ _ h => h) (by rfl) hHeld ?_ ?_
                    rotate_left 1
                    · (intro w hSw; (try dsimp only at hSw); go_simp; try (with_reducible rfl))
                    try simp only [Act.put, nB, nC, nD]
                    refine held_take (i := 8) (v := ?_) rfl (by kernel_rfl) (by kernel_rfl) (by kernel_rfl) (fun _ _ _ h => h) (by rfl) hHeld ?_ ?_
                    rotate_left 1
                    · (intro w hSw; (try dsimp only at hSw); go_simp; try (with_reducible rfl))
                    try simp only [Act.put, nB, nC, nD]
                    refine wpAnyH_done (by kernel_rfl) ?_ _
                    skip
                    obtain ⟨r0, r1, r2, r3, r4, r5, r6, r7, r8⟩ := p6.c
                    go_wp2_with fail
                    refine bodyPost_ret (v := .tuple #[pkV a0 a1 a2 (v 0) (v 1) none 0 0 (v 2) (v 3) 0, .bool true]) (by simp [results, Tryz.results86, go_sem, r0, r1, r2, r3, r4, r5, r6, r7, r8]) rfl ⟨.inl ⟨⟨a0, a1, a2, v 0, v 1, v 2, v 3, 0, []⟩, none, 0, 0, HYES.out, rfl, HY6.less (Nat.le_succ _), HNY.out⟩, hb6⟩
                · have HNO := Lib.hid (HCD.out.2 hbl)
                  obtain ⟨s5, hs5⟩ : ∃ s5, str enc = s5 := ⟨_, rfl⟩
                  have HST := Lib.hid hs5
                  have hq5 : (s5.toList == sb.toList) = false := by
                    rw [beq_eq_false_iff_ne, ← hs5, ← HSB.out, str_toList, str_toList]
                    exact hbl
                  clear hbl hs5
                  go_wp2_with fail
                  go_upto_region 34 with fail
                  refine wp_region_held_drew (S := (fun w' => PkM w' P a0 a1 a2 (v 0) (v 1) none 0 0 (v 2) (v 3) 0 ∧ (convert 33 9 (.slice (some ⟨b, off, none⟩) (e + 7) (C + 3))).run Tryz.prog w' = .ok (.string sb) w')) (by kernel_rfl) (⟨hP18.out, HCB.out _ hB18.out.drew⟩) (fun hHeld => ?_)
                  refine held_take (i := 0) (v := (pkV a0 a1 a2 (v 0) (v 1) none 0 0 (v 2) (v 3) 0)) rfl (by kernel_rfl) (by kernel_rfl) (by kernel_rfl) (fun _ _ _ h => h) (by rfl) hHeld (exec_load_pk (.tmp 5) rfl P (by rfl) (fun w h => h.1)) ?_
                  try simp only [Act.put, nB, nC, nD]
                  refine held_take (i := 1) (v := (pkV a0 a1 a2 (v 0) (v 1) none 0 0 (v 2) (v 3) 0)) rfl (by kernel_rfl) (by kernel_rfl) (by kernel_rfl) (fun _ _ _ h => h) (by rfl) hHeld (exec_load_pk (.tmp 5) rfl P (by rfl) (fun w h => h.1)) ?_
                  try simp only [Act.put, nB, nC, nD]
                  refine held_take (i := 4) (v := ?_) rfl (by kernel_rfl) (by kernel_rfl) (by kernel_rfl) (fun _ _ _ h => h) (by rfl) hHeld ?_ ?_
                  rotate_left 1
                  · (intro w hSw; (try dsimp only at hSw); go_simp; try (with_reducible rfl))
                  try simp only [Act.put, nB, nC, nD]
                  refine held_take (i := 5) (v := ?_) rfl (by kernel_rfl) (by kernel_rfl) (by kernel_rfl) (fun _ _ _ h => h) (by rfl) hHeld ?_ ?_
                  rotate_left 1
                  · (intro w hSw; (try dsimp only at hSw); go_simp; try (with_reducible rfl))
                  try simp only [Act.put, nB, nC, nD]
                  refine held_one (i := 2) rfl (by kernel_rfl) (by rfl) (fun K hK => ?_)
                  go_simp
                  (with_reducible refine HENC.out.mono ?_)
                  rintro e5 w5 ⟨v5, rfl, o5, b5⟩
                  obtain ⟨A5, c5, rfl, -, -, -⟩ := o5.form_n n5 HN5.out
                  have q5 := conv_own o5 HN5.out
                  rw [HST.out] at q5
                  have hk5 := PkM.below (w := wc.drew) hP18.out b5 hP18.out.lt
                  have hz5 := PkM.below (w := wc.drew) hZ18.out b5 hZ18.out.lt
                  have hb5 := hB18.out.drew.trans (b5.mono hB18.out.size)
                  have hc5 := HCB.out w5 hb5
                  have HO5 := Lib.hid o5
                  have HY5 := Lib.hid (HOY.out.drew.below b5 (Nat.le_refl _))
                  have HS5 : Hid (wc.heap.size ≤ w5.heap.size) := b5.size
                  clear o5 b5
                  refine hK.out _ _ (⟨hk5, hc5⟩) (fun hHeld2 => ?_)
                  clear hK K hHeld; have hHeld := hHeld2; clear hHeld2
                  try simp only [Act.put, nB, nC, nD]
                  refine held_two (i := 3) (j := 7) rfl rfl (by kernel_rfl) (by rfl) (by rfl) (fun K hK => ?_) (fun K hK => ?_)
                  · go_simp
                    refine hK.out _ _ (⟨hk5, hc5⟩) (fun hHeld2 => ?_)
                    clear hK K hHeld; have hHeld := hHeld2; clear hHeld2
                    try simp only [Act.put, nB, nC, nD]
                    refine held_take (i := 6) (v := ?_) rfl (by kernel_rfl) (by kernel_rfl) (by kernel_rfl) (fun _ _ _ h => h) (by rfl) hHeld ?_ ?_
                    rotate_left 1
                    · (intro w hSw; (try dsimp only at hSw); go_simp; try (with_reducible rfl))
                    try simp only [Act.put, nB, nC, nD]
                    refine held_one (i := 7) rfl (by kernel_rfl) (by rfl) (fun K hK => ?_)
                    refine wp_store_pk (.tmp 2) (.tmp 146) rfl w.heap.size (by rfl) hz5 (by rfl) ?_
                    intro w6 p6 z6 g6
                    have hk6 := hk5.kept g6 (by have := HP1.out; omega)
                    have hb6 := below_row hb5 g6 (Nat.le_refl _)
                    have hc6 := HCB.out w6 hb6
                    have q6 := conv_own (HO5.out.kept_gr g6 hZ18.out.lt) HN5.out
                    rw [HST.out] at q6
                    have HY6 := HY5.out.kept_gr g6 (Nat.lt_succ_self _)
                    refine hK.out _ _ (⟨hk6, hc6⟩) (fun hHeld2 => ?_)
                    clear hK K hHeld; have hHeld := hHeld2; clear hHeld2
                    try simp only [Act.put, nB, nC, nD]
                    refine held_take (i := 8) (v := ?_) rfl (by kernel_rfl) (by kernel_rfl) (by kernel_rfl) (fun _ _ _ h => h) (by rfl) hHeld ?_ ?_
                    rotate_left 1
                    · (intro w hSw; (try dsimp only at hSw); go_simp; try (with_reducible rfl))
                    try simp only [Act.put, nB, nC, nD]
                    refine wpAnyH_done (by kernel_rfl) ?_ _
                    skip
                    obtain ⟨r0, r1, r2, r3, r4, r5, r6, r7, r8⟩ := p6.c
                    go_wp2_with fail
                    refine bodyPost_ret (v := .tuple #[pkV a0 a1 a2 (v 0) (v 1) none 0 0 (v 2) (v 3) 0, .bool false]) (by simp [results, Tryz.results86, go_sem, r0, r1, r2, r3, r4, r5, r6, r7, r8]) rfl ⟨.inr ⟨_, _, _, _, _, _, _, _, _, _, _, HNO.out, rfl⟩, hb6⟩
                  · refine wp_store_pk (.tmp 2) (.tmp 146) rfl w.heap.size (by rfl) hz5 (by rfl) ?_
                    intro w6 p6 z6 g6
                    have hk6 := hk5.kept g6 (by have := HP1.out; omega)
                    have hb6 := below_row hb5 g6 (Nat.le_refl _)
                    have hc6 := HCB.out w6 hb6
                    have q6 := conv_own (HO5.out.kept_gr g6 hZ18.out.lt) HN5.out
                    rw [HST.out] at q6
                    have HY6 := HY5.out.kept_gr g6 (Nat.lt_succ_self _)
                    refine hK.out _ _ (⟨hk6, hc6⟩) (fun hHeld2 => ?_)
                    clear hK K hHeld; have hHeld := hHeld2; clear hHeld2
                    try simp only [Act.put, nB, nC, nD]
                    refine held_one (i := 3) rfl (by kernel_rfl) (by rfl) (fun K hK => ?_)
                    go_simp
                    refine hK.out _ _ (⟨hk6, hc6⟩) (fun hHeld2 => ?_)
                    clear hK K hHeld; have hHeld := hHeld2; clear hHeld2
                    try simp only [Act.put, nB, nC, nD]
                    refine held_take (i := 6) (v := ?_) rfl (by kernel_rfl) (by kernel_rfl) (by kernel_rfl) (fun _ _ _ h => h) (by rfl) hHeld ?_ ?_
                    rotate_left 1
                    · (intro w hSw; (try dsimp only at hSw); go_simp; try (with_reducible rfl))
                    try simp only [Act.put, nB, nC, nD]
                    refine held_take (i := 8) (v := ?_) rfl (by kernel_rfl) (by kernel_rfl) (by kernel_rfl) (fun _ _ _ h => h) (by rfl) hHeld ?_ ?_
                    rotate_left 1
                    · (intro w hSw; (try dsimp only at hSw); go_simp; try (with_reducible rfl))
                    try simp only [Act.put, nB, nC, nD]
                    refine wpAnyH_done (by kernel_rfl) ?_ _
                    skip
                    obtain ⟨r0, r1, r2, r3, r4, r5, r6, r7, r8⟩ := p6.c
                    go_wp2_with fail
                    refine bodyPost_ret (v := .tuple #[pkV a0 a1 a2 (v 0) (v 1) none 0 0 (v 2) (v 3) 0, .bool false]) (by simp [results, Tryz.results86, go_sem, r0, r1, r2, r3, r4, r5, r6, r7, r8]) rfl ⟨.inr ⟨_, _, _, _, _, _, _, _, _, _, _, HNO.out, rfl⟩, hb6⟩
theorem dec_no (A : Option Addr) (l : List UInt8) (n c : Nat) (w : World) (hT : TabW w) (hr : RB w w.heap.size A l) (hn : l.length = n) (hc : n ≤ c) (hm : c ≤ maxLen) (hl : n ≤ 4096) (hp : ∀ p, ¬ IsK l p) :
    Calls Tryz.prog 82 #[.slice A n c] w fun e w' => e = .returned (.tuple #[pkV 0 0 0 0 0 none 0 0 0 0 0, .int .i64 1]) ∧ Below w.heap.size w w' :=
  (dec_run A l n c w hT hr hn hc hm hl).mono fun e w' ⟨h, hb⟩ => by
    rcases h with ⟨q, A2, n2, c2, hq, _⟩ | ⟨_, he⟩
    · exact absurd hq (hp q)
    · exact ⟨he, hb⟩
theorem unp_own (A : Option Addr) (l : List UInt8) (n c : Nat) (w : World) (hr : RB w w.heap.size A l) (hn : l.length = n) (hc : n ≤ c) (hm : c ≤ maxLen) (hl : n ≤ 4096) (p : Pk) (hp : IsK l p) :
    Calls Tryz.prog 86 #[.slice A n c] w fun e w' => ∃ (A2 : Option Addr) (n2 c2 : Nat), e = .returned (.tuple #[pkV p.k p.f p.t p.id p.fi A2 n2 c2 p.ac p.fr p.su, .bool true]) ∧ OB w' w.heap.size (.slice A2 n2 c2) p.l ∧ p.l.length = n2 ∧ Below w.heap.size w w' :=
  (unp_run A l n c w hr hn hc hm hl).mono fun e w' ⟨h, hb⟩ => by
    rcases h with ⟨q, A2, n2, c2, hq, he, ho, hl2⟩ | ⟨_, _, _, _, _, _, _, _, _, _, _, hno, _⟩
    · obtain rfl := is_inj hq hp
      exact ⟨A2, n2, c2, he, ho, hl2, hb⟩
    · exact absurd hp (hno p)
theorem unp_no (A : Option Addr) (l : List UInt8) (n c : Nat) (w : World) (hr : RB w w.heap.size A l) (hn : l.length = n) (hc : n ≤ c) (hm : c ≤ maxLen) (hl : n ≤ 4096) (hp : ∀ p, ¬ IsK l p) :
    Calls Tryz.prog 86 #[.slice A n c] w fun e w' => ∃ (k f t id fi : Int) (A2 : Option Addr) (n2 c2 : Nat) (ac fr su : Int), e = .returned (.tuple #[pkV k f t id fi A2 n2 c2 ac fr su, .bool false]) ∧ Below w.heap.size w w' :=
  (unp_run A l n c w hr hn hc hm hl).mono fun e w' ⟨h, hb⟩ => by
    rcases h with ⟨q, A2, n2, c2, hq, _⟩ | ⟨k, f, t, id, fi, A2, n2, c2, ac, fr, su, _, he⟩
    · exact absurd hq (hp q)
    · exact ⟨k, f, t, id, fi, A2, n2, c2, ac, fr, su, he, hb⟩
end Go.Proofs.YtpnobpligchpiaaGreatDoor
