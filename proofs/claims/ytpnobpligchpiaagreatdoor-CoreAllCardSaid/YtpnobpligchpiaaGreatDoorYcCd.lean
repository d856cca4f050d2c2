/- texts of YcCd -/
import Derived.Test.YtpnobpligchpiaaGreatDoorYcCc
namespace Go.Proofs.YtpnobpligchpiaaGreatDoor
set_option maxRecDepth 100000
open Go.RowKit
set_option linter.unusedVariables false
set_option linter.unusedSimpArgs false
set_option maxHeartbeats 16000000 in
theorem doc_recv_input (UN : UnpOwn) (w0 w : World) (K : Dm) (h : DM w0 w K) {kc : Nat} (hkc : K.c = kc) (hcf : K.s.cl = false) (m : Nat) (hok : Ok K.C m K.s) (hm9 : m ≤ 10000) (h0 : 0 < K.C.n) (h8 : K.C.n ≤ 8) (hme : K.C.me < K.C.n) (A : Option Addr) (l : List UInt8) (n c : Nat) (hr : RB w w.heap.size A l) (hn : l.length = n) (hc : n ≤ c) (hm : c ≤ maxLen) (hl : n ≤ 4096) (p : Pk) (ho : IsK l p) (hfm : forMe K.C p) (hk : p.k = 1) :
    Calls Tryz.prog 25 #[pB kc, .slice A n c] w fun e w' => e = .returned (.int .i64 0) ∧ GoesD w0 w K w' (held K.C (tellP K.C (hearP K.s p.f.toNat) p)) := by
  have hcl : w.cell? ⟨kc, 18, none⟩ = some (.bool false) := by rw [← hkc, ← hcf]; exact h.cell 18 _ rfl
  have HU := Lib.hid (UN A l n c w hr hn hc hm hl p ho)
  have HH := Lib.hid h
  have hmay := ho.1
  have hsu := ho.2.1
  unfold Pk.may mayC at hmay
  obtain ⟨⟨f0, f7, t0, t7, hft, -, -⟩, hkk⟩ := hmay
  obtain ⟨F, hF⟩ : ∃ F : Nat, p.f = F := ⟨p.f.toNat, by omega⟩
  obtain ⟨ac, hac⟩ : ∃ ac : Nat, p.ac = ac := ⟨p.ac.toNat, by omega⟩
  obtain ⟨fr, hfr⟩ : ∃ fr : Nat, p.fr = fr := ⟨p.fr.toNat, by omega⟩
  have hfm' := hfm
  unfold forMe at hfm'
  obtain ⟨N, hN⟩ : ∃ N, K.C.n = N := ⟨_, rfl⟩
  obtain ⟨me, hmq⟩ : ∃ me, K.C.me = me := ⟨_, rfl⟩
  obtain ⟨ID, hID⟩ : ∃ ID, K.C.id = ID := ⟨_, rfl⟩
  have hFN : F < N := by rw [← hN]; omega
  have hFme : F ≠ me := fun e => hft (by rw [hfm'.1, hF, hmq, e])
  have hFI : (F : Int) < (N : Int) := by omega
  have hFD : ¬ (N : Int) ≤ (F : Int) := by omega
  have hFE : decide ((N : Int) ≤ (F : Int)) = false := by simp; omega
  have hFG : decide (N ≤ F) = false := by simp; omega
  obtain ⟨x, hx⟩ := hok.at F (by rw [hN]; exact hFN)
  obtain ⟨ck, hck⟩ : ∃ ck, K.s.ck = ck := ⟨_, rfl⟩
  obtain ⟨kh, hkh⟩ : ∃ kh, K.h = kh := ⟨_, rfl⟩
  rw [hfm'.1, hfm'.2.2, hF, hac, hfr, hmq, hID] at HU
  have HC : Hid (∀ W, Below w.heap.size w W → (W.cell? ⟨kc, 0, none⟩ = some (.int .i64 (N : Int)) ∧ W.cell? ⟨kc, 1, none⟩ = some (.int .i64 (me : Int)) ∧ W.cell? ⟨kc, 2, none⟩ = some (.int .i64 ID)) ∧ W.cell? ⟨kc, 11, none⟩ = some (.int .i64 (ck : Int)) ∧ W.cell? ⟨kc, 12, none⟩ = some (.slice (some ⟨kh, 0, none⟩) N N) ∧ W.cell? ⟨kh, F, none⟩ = some (.int .i64 (x.he : Int)) ∧ W.frozen? ⟨kh, F, none⟩ = false) := fun W hW => by
    have hD := h.belows hW
    obtain ⟨⟨b0, -, -⟩, ⟨b1, b2⟩, -, -⟩ := hD.all hkc hN hkh rfl rfl F x hx
    rw [← hck, ← hmq, ← hID]
    refine ⟨?_, ?_, b0, b1, b2⟩
    · rw [← hkc, ← hN]; exact ⟨hD.cell 0 _ rfl, hD.cell 1 _ rfl, hD.cell 2 _ rfl⟩
    · rw [← hkc]; exact hD.cell 11 _ rfl
  have HHEAR : Hid (∀ W O, Below w.heap.size w W → (∀ k, O k → w.heap.size ≤ k ∧ k < W.heap.size) → GoesO w0 w K (W.setCell ⟨kh, F, none⟩ (.int .i64 (ck : Int))).drew.drew (hearP K.s p.f.toNat) O ∧ Same O W (W.setCell ⟨kh, F, none⟩ (.int .i64 (ck : Int))).drew.drew) := fun W O hW hO => by
    have := ((h.belows hW).set_he F x hx ck).drew.drew
    rw [hkh] at this
    have e : hearP K.s p.f.toNat = { K.s with ps := K.s.ps.set F { x with he := ck } } := by
      unfold hearP
      rw [hF, Int.toNat_natCast, modify_at _ _ _ _ hx, ← hck]
    rw [e]
    obtain ⟨K2, a1, a2, a3, a4, a5, a6, a7⟩ := GoesO.start h hW hO
    exact goeso_then (Lv.of_below hW) (fun k hk => .inl hk) (fun k hk => ⟨(hO k hk).2, fun e => by have := (h.lt e).2; have := (hO k hk).1; omega⟩) rfl rfl this
  obtain ⟨s1, hs1⟩ : ∃ s1, hearP K.s p.f.toNat = s1 := ⟨_, rfl⟩
  have ok1 : Ok1 K.C m (10 * m) s1 := by rw [← hs1]; exact hok.one.hear _
  rw [hs1] at HHEAR ⊢
  have hTK := ok1.tell p (by omega) (by omega) hsu
  have HOK1 := Lib.hid ok1
  have HHO : Hid (∀ W s2, Ok1 K.C m (10 * m + 1) s2 → GoesD w0 w K W s2 → Calls Tryz.prog 88 #[pB kc] W fun en w' => en = .returned (.tuple #[]) ∧ GoesD w0 w K w' (held K.C s2)) := fun W s2 h2 g => by
    have := held_goes g K.C.n rfl h8 h0 h2.p (fun x hx => (h2.pr x hx).2.2.1) h2.ms (by have := h2.es; omega) hkc
    exact this
  have HTK := Lib.hid hTK
  rw [hk] at HU
  have HTL : Hid (tellP K.C s1 p = learnP K.C s1 p) := if_pos hk
  have hx1 : s1.ps[F]? = some { x with he := ck } := by
    rw [← hs1]
    unfold hearP
    rw [hF, Int.toNat_natCast, modify_at _ _ _ _ hx, hck]
    exact set_get hx
  obtain ⟨x1, hx1q⟩ : ∃ x1 : Pr, { x with he := ck } = x1 := ⟨_, rfl⟩
  rw [hx1q] at hx1
  obtain ⟨b1, b2, b3, -, -⟩ := ok1.pr x1 (List.mem_of_getElem? hx1)
  have hL1 : s1.L.length = N := ok1.L.trans hN
  obtain ⟨lF, hlF⟩ : ∃ lF, s1.L[F]? = some lF := ⟨_, List.getElem?_eq_getElem (by omega)⟩
  obtain ⟨lm, hlm⟩ : ∃ lm, s1.L[me]? = some lm := ⟨_, List.getElem?_eq_getElem (by omega)⟩
  obtain ⟨H, hH⟩ : ∃ H, lm.length = H := ⟨_, rfl⟩
  have hHd : s1.head K.C = H := by unfold Pl.head; rw [hmq, hlm]; exact hH
  obtain ⟨l', hl'⟩ : ∃ l', (putP lF p.fi p.l).2.2 = l' := ⟨_, rfl⟩
  have HLQ : Hid (learnP K.C s1 p = { s1 with L := s1.L.set F l', ps := s1.ps.set F (learnPr H x1 p) }) := learn_eq K.C s1 p F hF x1 hx1 lF hlF l' hl' H hHd
  have hlF1 : lF.length ≤ 1000 := ok1.ll lF (List.mem_of_getElem? hlF)
  obtain ⟨s2, hs2⟩ : ∃ s2, { s1 with L := s1.L.set F l' } = s2 := ⟨_, rfl⟩
  have hplen : p.l.length ≤ 1000 := by omega
  have HPUT : Hid (∀ W O A2 n2 c2, GoesO w0 w K W s1 O → OB W w.heap.size (.slice A2 n2 c2) p.l → (∀ k, (Value.slice A2 n2 c2).ownBlock = some k → O k) → p.l.length = n2 → ∃ (g1 cap : Nat), W.cell? ⟨kc, 10, none⟩ = some (.slice (some ⟨g1, 0, none⟩) N cap) ∧
      Calls Tryz.prog 87 #[.pointer (some ⟨g1, F, none⟩), .int .i64 p.fi, .slice A2 n2 c2] W fun e w' => ∃ a b : Int, e = .returned (.tuple #[.int .i64 a, .int .i64 b]) ∧ GoesO w0 w K w' s2 O ∧ Same O W w' ∧ w'.cell? ⟨kc, 10, none⟩ = some (.slice (some ⟨g1, 0, none⟩) N cap)) := fun W O A2 n2 c2 g h1 h2 h3 => by
    have := put_goes g F lF hlF hlF1 p.fi A2 n2 c2 p.l h1 h2 h3 (by omega) hkc hL1 (Nat.le_trans h.be.size g.be)
    rw [hl', hs2] at this
    exact this
  have h2m : s2.L[me]? = some lm := by rw [← hs2]; show (s1.L.set F l')[me]? = _; rw [List.getElem?_set_ne hFme]; exact hlm
  have h2x : s2.ps[F]? = some x1 := by rw [← hs2]; exact hx1
  have h2l : s2.L.length = K.C.n := by rw [← hs2]; show (s1.L.set F l').length = _; rw [List.length_set]; exact ok1.L
  have HHD : Hid (∀ W, GoesD w0 w K W s2 → Calls Tryz.prog 69 #[pB kc] W fun e w' => e = .returned (.int .i64 (H : Int)) ∧ Below W.heap.size W w') := fun W g => by
    obtain ⟨K1, e1, e2, e3, H1, L1, N1⟩ := g
    have := doc_head w0 W K1 H1 lm (by rw [e1, e2, hmq]; exact h2m) (by rw [e1, e2]; exact h2l) H hH
    rw [e3, hkc] at this
    exact this.mono fun e w' ⟨he, hw⟩ => ⟨he, by rw [hw]; exact (Below.refl _ _).drew⟩
  obtain ⟨ha, hha⟩ : ∃ ha, x1.ha = ha := ⟨_, rfl⟩
  obtain ⟨f0', hf0⟩ : ∃ f0', x1.fr = f0' := ⟨_, rfl⟩
  obtain ⟨mx, hmx⟩ : ∃ mx : Nat, max ha ac = mx := ⟨_, rfl⟩
  have hmxi : max (ha : Int) (ac : Int) = (mx : Int) := by omega
  have HLP : Hid (learnPr H x1 p = { x1 with ha := if (ac : Int) ≤ (H : Int) then mx else ha, fr := if 0 < fr ∧ f0' ≤ fr then fr else f0', su := if 0 < fr ∧ f0' ≤ fr then p.su else x1.su }) := by
    show _ = _
    unfold learnPr
    rw [hac, hfr, hha, hf0]
    have e1 : ((fr : Int)).toNat = fr := Int.toNat_natCast _
    have e2 : max ha ((ac : Int)).toNat = mx := by rw [Int.toNat_natCast]; exact hmx
    rw [e1, e2]
    have e3 : ((0 : Int) < (fr : Int) ∧ ((f0' : Nat) : Int) ≤ (fr : Int)) ↔ (0 < fr ∧ f0' ≤ fr) := by omega
    simp only [e3]
  have HALL : Hid (∀ W s3 (y : Pr) O, s3.ps[F]? = some y → GoesO w0 w K W s3 O → ∃ ab db : Nat, (W.cell? ⟨kc, 13, none⟩ = some (.slice (some ⟨ab, 0, none⟩) N N) ∧ W.cell? ⟨ab, F, none⟩ = some (.int .i64 (y.ha : Int)) ∧ W.frozen? ⟨ab, F, none⟩ = false ∧ ∀ n : Nat, GoesO w0 w K (W.setCell ⟨ab, F, none⟩ (.int .i64 (n : Int))) { s3 with ps := s3.ps.set F { y with ha := n } } O ∧ Same O W (W.setCell ⟨ab, F, none⟩ (.int .i64 (n : Int)))) ∧ ∀ k, O k → k ≠ ab ∧ k ≠ db ∧ k ≠ kc) := fun W s3 y O hy g => by
    obtain ⟨K1, e1, e2, e3, H1, L1, N1, X1⟩ := g
    subst e1
    obtain ⟨⟨-, c13, -⟩, -, ⟨ca, fa⟩, -⟩ := H1.all (e3.trans hkc) (by rw [e2, hN]) rfl rfl rfl F y hy
    refine ⟨K1.a, K1.d, ⟨c13, ca, fa, fun n => goeso_then L1 N1 X1 e2 e3 (H1.set_ha F y hy n)⟩, fun k hk => ?_⟩
    have := (X1 k hk).2
    exact ⟨fun e => this (.inr (by rw [e]; simp [DO, Dm.bl])), fun e => this (.inr (by rw [e]; simp [DO, Dm.bl])), fun e => this (.inr (by rw [e, ← hkc, ← e3]; simp [DO, Dm.bl]))⟩
  have HALW : Hid (∀ W s3 (y : Pr) O, s3.ps[F]? = some y → GoesO w0 w K W s3 O → ∃ db : Nat, W.cell? ⟨kc, 14, none⟩ = some (.slice (some ⟨db, 0, none⟩) N N) ∧ W.cell? ⟨db, F * 2, none⟩ = some (.int .i64 (y.fr : Int)) ∧ W.there db (F * 2) 2 ∧ (∀ k, O k → k ≠ db) ∧ db ≠ kc ∧ ∀ (n : Nat) (u : Int), GoesO w0 w K (W.setCells db (F * 2) [.int .i64 (n : Int), .int .u32 u]) { s3 with ps := s3.ps.set F { y with fr := n, su := u } } O ∧ Same O W (W.setCells db (F * 2) [.int .i64 (n : Int), .int .u32 u])) := fun W s3 y O hy g => by
    obtain ⟨K1, e1, e2, e3, H1, L1, N1, X1⟩ := g
    subst e1
    obtain ⟨⟨-, -, c14⟩, -, -, cf, cs, z0, z1⟩ := H1.all (e3.trans hkc) (by rw [e2, hN]) rfl rfl rfl F y hy
    refine ⟨K1.d, c14, cf, fun i hi => ?_, fun k hk e => (X1 k hk).2 (.inr (by rw [e]; simp [DO, Dm.bl])), fun e => ?_, fun n u => goeso_then L1 N1 X1 e2 e3 (H1.set_wd F y hy n u)⟩
    · obtain rfl | rfl : i = 0 ∨ i = 1 := by omega
      · exact ⟨by rw [Nat.add_zero, cf]; rfl, z0⟩
      · exact ⟨by rw [cs]; rfl, z1⟩
    · have := H1.bu.inj 3 0 K1.d _ _ rfl (by show some (some K1.c, _) = _; rw [e3, hkc, ← e]); omega
  have HX2 := Lib.hid h2x; have HFX := Lib.hid hf0; have HHA := Lib.hid hha; have HS2 := Lib.hid hs2
  have hac1 : ac ≤ 1000 := by omega
  have hfr1 : fr ≤ 1000 := by omega
  have hf01 : f0' ≤ 1000 := by omega
  have HKH : Hid (kh < w.heap.size) := by show _ < _; rw [← hkh]; exact (h.get (k := K.h) (by simp [DO, Dm.bl])).2
  have hKCO : Hid (kc < w.heap.size) := by show _ < _; rw [← hkc]; exact (h.get (k := K.c) (by simp [DO, Dm.bl])).2
  clear h hcf hr hn hok ho hx hck hkh hkc hN hmq hID hs1 ok1 hfm hfm' hft hFN hFme hF hac hfr f0 f7 t0 t7 hTK hm9 hkk hk hsu h0 h8 hme hx1 hx1q b1 b2 b3 hL1 hlF hlm hH hHd hl' hlF1 hs2 h2m h2x h2l hha hf0 hmx hplen
  go_enter Tryz.func25, Tryz.ntmps25
  go_wp2_with (first
    | (go_at_call 86; (refine (HU.out).mono ?_); rintro en w1 ⟨A2, n2, c2, rfl, ho, hl2, hb⟩; have HB1 := Lib.hid hb; have HOB := Lib.hid ho; have HLN := Lib.hid hl2; clear hb ho hl2)
    | (refine wpList_store_pk rfl (.tmp 5) (.tmp 14) rfl w1.heap.size (by rfl) (PkM.new w1 0 0 0 0 0 none 0 0 0 0 0) (by rfl) ?_; intro w3 p3 z3 g3; have HL3 := Lib.hid (pk_laid HB1.out g3); have HK3 := Lib.hid p3; clear p3 z3 g3))
  (try simp only [Act.put])
  obtain ⟨⟨a0, a1, a2⟩, a11, a12, ah, fh⟩ := HC.out w3 HL3.out.1
  obtain ⟨q0, q1, q2, q3, -, -, -, -, -⟩ := HK3.out.c
  obtain ⟨P, hP⟩ : ∃ P, w1.heap.size = P := ⟨_, rfl⟩
  have HP3 : Hid (w.heap.size ≤ P ∧ P < w3.heap.size) := by show _ ∧ _; rw [← hP]; exact ⟨HL3.out.2.2.1, HL3.out.2.1⟩
  have HOB3 : Hid (OB w3 w.heap.size (.slice A2 n2 c2) p.l) := HL3.out.2.2.2 HOB.out
  rw [hP] at HK3 q0 q1 q2 q3
  rw [hP]
  clear hP HOB
  have hkhP : kh ≠ P := by have := HKH.out; have := HP3.out; omega
  have hPkh : P ≠ kh := fun e => hkhP e.symm
  go_big_region
  go_wp2_with fail
  go_big_region
  obtain ⟨w5, hw5⟩ : ∃ w5, w5 = (w3.setCell ⟨kh, F, none⟩ (.int .i64 (ck : Int))).drew.drew := ⟨_, rfl⟩
  obtain ⟨O, hO⟩ : ∃ O : Nat → Prop, O = fun k => w.heap.size ≤ k ∧ k < w3.heap.size := ⟨_, rfl⟩
  have HGS := Lib.hid (HHEAR.out w3 O HL3.out.1 (fun k hk => by rw [hO] at hk; exact hk))
  rw [← hw5] at HGS
  have HOP : Hid (O P) := by show O P; rw [hO]; exact HP3.out
  have HOO : Hid (∀ k, (Value.slice A2 n2 c2).ownBlock = some k → O k) := fun k hk => by rw [hO]; exact HOB3.out.lt k hk
  have HK5 : Hid (PkM w5 P 1 (F : Int) (me : Int) ID p.fi A2 n2 c2 (ac : Int) (fr : Int) p.su) := (HGS.out.2 P HOP.out).trans HK3.out
  have HOB5 : Hid (OB w5 w.heap.size (.slice A2 n2 c2) p.l) := HOB3.out.same fun k hk => HGS.out.2 k (HOO.out k hk)
  have HG5 := Lib.hid HGS.out.1
  try rw [← hw5]
  clear hw5 hO a0 a1 a2 a11 a12 ah fh q0 q1 q2 q3 HGS HK3 HOB3 HP3 hkhP hPkh
  obtain ⟨q0, q1, -, -, -, -, -, -, -⟩ := HK5.out.c
  go_wp2_with fail
  clear q0 q1
  obtain ⟨g1, cap, hg10, hput⟩ := HPUT.out w5.drew O A2 n2 c2 HG5.out.drew (HOB5.out.same fun _ _ => rfl) HOO.out HLN.out
  have HPU := Lib.hid hput
  clear hput
  refine wp_region_held_drew (S := (fun w' => w'.cell? ⟨kc, 10, none⟩ = some (.slice (some ⟨g1, 0, none⟩) N cap) ∧ w'.cell? ⟨P, 1, none⟩ = some (.int .i64 (F : Int)) ∧ w'.cell? ⟨P, 4, none⟩ = some (.int .i64 p.fi) ∧ w'.cell? ⟨P, 5, none⟩ = some (.slice A2 n2 c2))) (by kernel_rfl) (by obtain ⟨-, q1, -, -, q4, q5, -, -, -⟩ := HK5.out.c; exact ⟨hg10, q1, q4, q5⟩) (fun hHeld => ?_)
  refine held_take (i := 0) (v := ?_) rfl (by kernel_rfl) (by kernel_rfl) (by kernel_rfl) (fun _ _ _ h => h) (by rfl) hHeld ?_ ?_
  rotate_left 1
  · (intro w hSw; (try dsimp only at hSw); go_simp; try (with_reducible rfl))
  try simp only [Act.put, nB, nC, nD]
  refine held_take (i := 1) (v := ?_) rfl (by kernel_rfl) (by kernel_rfl) (by kernel_rfl) (fun _ _ _ h => h) (by rfl) hHeld ?_ ?_
  rotate_left 1
  · (intro w hSw; (try dsimp only at hSw); go_simp; try (with_reducible rfl))
  try simp only [Act.put, nB, nC, nD]
  refine held_take (i := 2) (v := ?_) rfl (by kernel_rfl) (by kernel_rfl) (by kernel_rfl) (fun _ _ _ h => h) (by rfl) hHeld ?_ ?_
  rotate_left 1
  · (intro w hSw; (try dsimp only at hSw); go_simp; try (with_reducible rfl))
  try simp only [Act.put, nB, nC, nD]
  refine held_take (i := 3) (v := ?_) rfl (by kernel_rfl) (by kernel_rfl) (by kernel_rfl) (fun _ _ _ h => h) (by rfl) hHeld ?_ ?_
  rotate_left 1
  · (intro w hSw; (try dsimp only at hSw); go_simp; try (with_reducible rfl))
  try simp only [Act.put, nB, nC, nD]
  refine held_take (i := 4) (v := ?_) rfl (by kernel_rfl) (by kernel_rfl) (by kernel_rfl) (fun _ _ _ h => h) (by rfl) hHeld ?_ ?_
  rotate_left 1
  · (intro w hSw; (try dsimp only at hSw); go_simp; try (with_reducible rfl))
  try simp only [Act.put, nB, nC, nD]
  refine held_take (i := 5) (v := ?_) rfl (by kernel_rfl) (by kernel_rfl) (by kernel_rfl) (fun _ _ _ h => h) (by rfl) hHeld ?_ ?_
  rotate_left 1
  · (intro w hSw; (try dsimp only at hSw); go_simp; try (with_reducible rfl))
  try simp only [Act.put, nB, nC, nD]
  refine held_take (i := 6) (v := ?_) rfl (by kernel_rfl) (by kernel_rfl) (by kernel_rfl) (fun _ _ _ h => h) (by rfl) hHeld ?_ ?_
  rotate_left 1
  · (intro w hSw; (try dsimp only at hSw); go_simp; try (with_reducible rfl))
  try simp only [Act.put, nB, nC, nD]
  refine held_take (i := 7) (v := ?_) rfl (by kernel_rfl) (by kernel_rfl) (by kernel_rfl) (fun _ _ _ h => h) (by rfl) hHeld ?_ ?_
  rotate_left 1
  · (intro w hSw; (try dsimp only at hSw); go_simp; try (with_reducible rfl))
  try simp only [Act.put, nB, nC, nD]
  refine held_take (i := 8) (v := ?_) rfl (by kernel_rfl) (by kernel_rfl) (by kernel_rfl) (fun _ _ _ h => h) (by rfl) hHeld ?_ ?_
  rotate_left 1
  · (intro w hSw; (try dsimp only at hSw); go_simp; try (with_reducible rfl))
  try simp only [Act.put, nB, nC, nD]
  refine held_take (i := 9) (v := ?_) rfl (by kernel_rfl) (by kernel_rfl) (by kernel_rfl) (fun _ _ _ h => h) (by rfl) hHeld ?_ ?_
  rotate_left 1
  · (intro w hSw; (try dsimp only at hSw); go_simp; try (with_reducible rfl))
  try simp only [Act.put, nB, nC, nD]
  refine held_take (i := 10) (v := ?_) rfl (by kernel_rfl) (by kernel_rfl) (by kernel_rfl) (fun _ _ _ h => h) (by rfl) hHeld ?_ ?_
  rotate_left 1
  · (intro w hSw; (try dsimp only at hSw); go_simp; try (with_reducible rfl))
  try simp only [Act.put, nB, nC, nD]
  refine held_one (i := 11) rfl (by kernel_rfl) (by rfl) (fun K9 hK => ?_)
  go_simp
  refine (HPU.out).mono ?_
  rintro en w6 ⟨ra, rb, rfl, hg6, hs6, hc6⟩
  have HG6 := Lib.hid hg6
  have HK6 : Hid (PkM w6 P 1 (F : Int) (me : Int) ID p.fi A2 n2 c2 (ac : Int) (fr : Int) p.su) := (hs6 P HOP.out).trans HK5.out
  clear hg6 hs6
  refine hK.out _ _ (by obtain ⟨-, q1, -, -, q4, q5, -, -, -⟩ := HK6.out.c; exact ⟨hc6, q1, q4, q5⟩) (fun hHeld2 => ?_)
  clear hK K9 hHeld hHeld2 hc6 hg10
  try simp only [Act.put, nB, nC, nD]
  refine wpAnyH_done (by kernel_rfl) ?_ _
  obtain ⟨hn, hhn⟩ : ∃ hn : Nat, (if (ac : Int) ≤ (H : Int) then mx else ha) = hn := ⟨_, rfl⟩
  have HHN := Lib.hid hhn
  clear hhn
  go_wp2_with fail
  refine wp_region_held_drew (S := (fun w' => w'.cell? ⟨P, 6, none⟩ = some (.int .i64 (ac : Int)))) (by kernel_rfl) (HK6.out.c.2.2.2.2.2.2.1) (fun hHeld => ?_)
  refine held_take (i := 0) (v := ?_) rfl (by kernel_rfl) (by kernel_rfl) (by kernel_rfl) (fun _ _ _ h => h) (by rfl) hHeld ?_ ?_
  rotate_left 1
  · (intro w hSw; (try dsimp only at hSw); go_simp; try (with_reducible rfl))
  try simp only [Act.put, nB, nC, nD]
  refine held_take (i := 1) (v := ?_) rfl (by kernel_rfl) (by kernel_rfl) (by kernel_rfl) (fun _ _ _ h => h) (by rfl) hHeld ?_ ?_
  rotate_left 1
  · (intro w hSw; (try dsimp only at hSw); go_simp; try (with_reducible rfl))
  try simp only [Act.put, nB, nC, nD]
  refine held_take (i := 2) (v := ?_) rfl (by kernel_rfl) (by kernel_rfl) (by kernel_rfl) (fun _ _ _ h => h) (by rfl) hHeld ?_ ?_
  rotate_left 1
  · (intro w hSw; (try dsimp only at hSw); go_simp; try (with_reducible rfl))
  try simp only [Act.put, nB, nC, nD]
  refine held_one (i := 3) rfl (by kernel_rfl) (by rfl) (fun K hK => ?_)
  go_simp
  refine (HHD.out _ HG6.out.drew.goes).mono ?_
  rintro en w7 ⟨rfl, hb⟩
  have HGS7 := Lib.hid (HG6.out.drew.belows hb)
  have HK7 : Hid (PkM w7 P 1 (F : Int) (me : Int) ID p.fi A2 n2 c2 (ac : Int) (fr : Int) p.su) := (HGS7.out.2 P HOP.out).trans HK6.out
  have HG7 := Lib.hid HGS7.out.1
  clear hb
  refine hK.out _ _ (HK7.out.c.2.2.2.2.2.2.1) (fun hHeld2 => ?_)
  clear hK K hHeld; have hHeld := hHeld2; clear hHeld2
  try simp only [Act.put, nB, nC, nD]
  refine held_one (i := 4) rfl (by kernel_rfl) (by rfl) (fun K hK => ?_)
  go_simp
  refine hK.out _ _ (hHeld) (fun hHeld2 => ?_)
  clear hK K hHeld; have hHeld := hHeld2; clear hHeld2
  try simp only [Act.put, nB, nC, nD]
  refine wpAnyH_done (by kernel_rfl) ?_ _
  clear hHeld HGS7
  go_upto_if 85 with fail
  go_cut [] (fun wx => Hid (PkM wx P 1 (F : Int) (me : Int) ID p.fi A2 n2 c2 (ac : Int) (fr : Int) p.su) ∧ Hid (GoesO w0 w K wx ({ s2 with ps := s2.ps.set F { x1 with ha := hn } }) O))
  case first =>
    by_cases hle : (ac : Int) ≤ (H : Int)
    · have hhn2 : hn = mx := by rw [← HHN.out, if_pos hle]
      as_aux_lemma =>
        have HH2 := Lib.hid hhn2
        clear hhn2
        go_wp2_with fail
        obtain ⟨ab, db0, ⟨c13, ca, fa, hset⟩, hne⟩ := HALL.out w7.drew s2 x1 O HX2.out HG7.out.drew
        rw [HHA.out] at ca
        obtain ⟨G8, S8⟩ := hset mx
        clear hset hne
        obtain ⟨-, q1, -, -, -, -, q6, -, -⟩ := HK7.out.c
        have HS12 := Lib.hid (show (fun w' => w'.cell? ⟨kc, 13, none⟩ = some (.slice (some ⟨ab, 0, none⟩) N N) ∧ w'.cell? ⟨ab, F, none⟩ = some (.int .i64 (ha : Int)) ∧ w'.frozen? ⟨ab, F, none⟩ = false ∧ w'.cell? ⟨P, 1, none⟩ = some (.int .i64 (F : Int)) ∧ w'.cell? ⟨P, 6, none⟩ = some (.int .i64 (ac : Int))) w7.drew from ⟨c13, ca, fa, q1, q6⟩)
        have HG8 := Lib.hid G8
        have HS8 := Lib.hid S8
        clear c13 ca fa q1 q6 G8 S8
        refine wp_region_J (s := 18) (S := (fun w' => w'.cell? ⟨kc, 13, none⟩ = some (.slice (some ⟨ab, 0, none⟩) N N) ∧ w'.cell? ⟨ab, F, none⟩ = some (.int .i64 (ha : Int)) ∧ w'.frozen? ⟨ab, F, none⟩ = false ∧ w'.cell? ⟨P, 1, none⟩ = some (.int .i64 (F : Int)) ∧ w'.cell? ⟨P, 6, none⟩ = some (.int .i64 (ac : Int)))) (by kernel_rfl) (HS12.out) (fun hHeld => ?_)
        refine j_take (i := 0) (v := ?_) rfl (by kernel_rfl) (by kernel_rfl) (by kernel_rfl) (by kernel_rfl) (fun _ _ _ h => h) (by rfl) hHeld ?_ ?_
        rotate_left 1
        · (intro w hSw; (try dsimp only at hSw); go_simp; try (with_reducible rfl))
        try simp only [Act.put, nB, nC, nD]
        refine j_take (i := 1) (v := ?_) rfl (by kernel_rfl) (by kernel_rfl) (by kernel_rfl) (by kernel_rfl) (fun _ _ _ h => h) (by rfl) hHeld ?_ ?_
        rotate_left 1
        · (intro w hSw; (try dsimp only at hSw); go_simp; try (with_reducible rfl))
        try simp only [Act.put, nB, nC, nD]
        refine j_take (i := 2) (v := ?_) rfl (by kernel_rfl) (by kernel_rfl) (by kernel_rfl) (by kernel_rfl) (fun _ _ _ h => h) (by rfl) hHeld ?_ ?_
        rotate_left 1
        · (intro w hSw; (try dsimp only at hSw); go_simp; try (with_reducible rfl))
        try simp only [Act.put, nB, nC, nD]
        refine j_take (i := 3) (v := ?_) rfl (by kernel_rfl) (by kernel_rfl) (by kernel_rfl) (by kernel_rfl) (fun _ _ _ h => h) (by rfl) hHeld ?_ ?_
        rotate_left 1
        · (intro w hSw; (try dsimp only at hSw); go_simp; try (with_reducible rfl))
        try simp only [Act.put, nB, nC, nD]
        refine j_take (i := 4) (v := ?_) rfl (by kernel_rfl) (by kernel_rfl) (by kernel_rfl) (by kernel_rfl) (fun _ _ _ h => h) (by rfl) hHeld ?_ ?_
        rotate_left 1
        · (intro w hSw; (try dsimp only at hSw); go_simp; try (with_reducible rfl))
        try simp only [Act.put, nB, nC, nD]
        refine j_take (i := 5) (v := ?_) rfl (by kernel_rfl) (by kernel_rfl) (by kernel_rfl) (by kernel_rfl) (fun _ _ _ h => h) (by rfl) hHeld ?_ ?_
        rotate_left 1
        · (intro w hSw; (try dsimp only at hSw); go_simp; try (with_reducible rfl))
        try simp only [Act.put, nB, nC, nD]
        refine j_take (i := 6) (v := ?_) rfl (by kernel_rfl) (by kernel_rfl) (by kernel_rfl) (by kernel_rfl) (fun _ _ _ h => h) (by rfl) hHeld ?_ ?_
        rotate_left 1
        · (intro w hSw; (try dsimp only at hSw); go_simp; try (with_reducible rfl))
        try simp only [Act.put, nB, nC, nD]
        refine j_take (i := 7) (v := ?_) rfl (by kernel_rfl) (by kernel_rfl) (by kernel_rfl) (by kernel_rfl) (fun _ _ _ h => h) (by rfl) hHeld ?_ ?_
        rotate_left 1
        · (intro w hSw; (try dsimp only at hSw); go_simp; try (with_reducible rfl))
        try simp only [Act.put, nB, nC, nD]
        refine j_take (i := 8) (v := ?_) rfl (by kernel_rfl) (by kernel_rfl) (by kernel_rfl) (by kernel_rfl) (fun _ _ _ h => h) (by rfl) hHeld ?_ ?_
        rotate_left 1
        · (intro w hSw; (try dsimp only at hSw); go_simp; try (with_reducible rfl))
        try simp only [Act.put, nB, nC, nD]
        refine j_take (i := 9) (v := ?_) rfl (by kernel_rfl) (by kernel_rfl) (by kernel_rfl) (by kernel_rfl) (fun _ _ _ h => h) (by rfl) hHeld ?_ ?_
        rotate_left 1
        · (intro w hSw; (try dsimp only at hSw); go_simp; try (with_reducible rfl))
        try simp only [Act.put, nB, nC, nD]
        refine j_take (i := 10) (v := ?_) rfl (by kernel_rfl) (by kernel_rfl) (by kernel_rfl) (by kernel_rfl) (fun _ _ _ h => h) (by rfl) hHeld ?_ ?_
        rotate_left 1
        · (intro w hSw; (try dsimp only at hSw); go_simp; try (with_reducible rfl))
        try simp only [Act.put, nB, nC, nD]
        refine j_take (i := 11) (v := ?_) rfl (by kernel_rfl) (by kernel_rfl) (by kernel_rfl) (by kernel_rfl) (fun _ _ _ h => h) (by rfl) hHeld ?_ ?_
        rotate_left 1
        · (intro w hSw; (try dsimp only at hSw); go_simp; try (with_reducible rfl))
        try simp only [Act.put, nB, nC, nD]
        refine j_take (i := 12) (v := ?_) rfl (by kernel_rfl) (by kernel_rfl) (by kernel_rfl) (by kernel_rfl) (fun _ _ _ h => h) (by rfl) hHeld ?_ ?_
        rotate_left 1
        · (intro w hSw; (try dsimp only at hSw); go_simp; try (with_reducible rfl))
        try simp only [Act.put, nB, nC, nD]
        refine j_take (i := 13) (v := ?_) rfl (by kernel_rfl) (by kernel_rfl) (by kernel_rfl) (by kernel_rfl) (fun _ _ _ h => h) (by rfl) hHeld ?_ ?_
        rotate_left 1
        · (intro w hSw; (try dsimp only at hSw); go_simp; try (with_reducible rfl))
        try simp only [Act.put, nB, nC, nD]
        refine j_take (i := 14) (v := ?_) rfl (by kernel_rfl) (by kernel_rfl) (by kernel_rfl) (by kernel_rfl) (fun _ _ _ h => h) (by rfl) hHeld ?_ ?_
        rotate_left 1
        · (intro w hSw; (try dsimp only at hSw); go_simp; try (with_reducible rfl))
        try simp only [Act.put, nB, nC, nD]
        refine j_take (i := 15) (v := ?_) rfl (by kernel_rfl) (by kernel_rfl) (by kernel_rfl) (by kernel_rfl) (fun _ _ _ h => h) (by rfl) hHeld ?_ ?_
        rotate_left 1
        · (intro w hSw; (try dsimp only at hSw); go_simp; try (with_reducible rfl))
        try simp only [Act.put, nB, nC, nD]
        refine j_take (i := 16) (v := ?_) rfl (by kernel_rfl) (by kernel_rfl) (by kernel_rfl) (by kernel_rfl) (fun _ _ _ h => h) (by rfl) hHeld ?_ ?_
        rotate_left 1
        · (intro w hSw; (try dsimp only at hSw); go_simp; try (with_reducible rfl))
        try simp only [Act.put, nB, nC, nD]
        refine j_take (i := 17) (v := ?_) rfl (by kernel_rfl) (by kernel_rfl) (by kernel_rfl) (by kernel_rfl) (fun _ _ _ h => h) (by rfl) hHeld ?_ ?_
        rotate_left 1
        · (intro w hSw; (try dsimp only at hSw); go_simp; try (with_reducible rfl))
        try simp only [Act.put, nB, nC, nD]
        refine j_last rfl (by kernel_rfl) (by simp) (by kernel_rfl) (by rfl) (fun K9 hK => ?_)
        go_simp
        refine hK.out _ _ ?_
        clear hHeld hK K9
        go_wp2_with fail
        go_meet
        exact ⟨(HS8.out P HOP.out).trans HK7.out, by show GoesO _ _ _ _ _ _; rw [HH2.out]; exact HG8.out⟩
    · have hhn2 : hn = ha := by rw [← HHN.out, if_neg hle]
      have HH2 := Lib.hid hhn2
      have hlt : (H : Int) < (ac : Int) := by omega
      clear hhn2
      go_wp2_with fail
      go_meet
      exact ⟨HK7.out, by show GoesO _ _ _ _ _ _; rw [HH2.out, show ({ x1 with ha := ha } : Pr) = x1 by rw [← HHA.out], set_same HX2.out]; exact HG7.out⟩
  case rest =>
    obtain ⟨HK8, HG8⟩ := hcut
    generalize wc = w8 at *
    have HX8 : Hid (({ s2 with ps := s2.ps.set F { x1 with ha := hn } } : Pl).ps[F]? = some { x1 with ha := hn }) := set_get HX2.out
    obtain ⟨db, c14d, cf, hth, hne, hdk, hset⟩ := HALW.out w8.drew.drew ({ s2 with ps := s2.ps.set F { x1 with ha := hn } }) ({ x1 with ha := hn }) O HX8.out HG8.out.drew.drew
    have c14 : w8.cell? ⟨kc, 14, none⟩ = some (.slice (some ⟨db, 0, none⟩) N N) := c14d
    have cf2 : w8.cell? ⟨db, F * 2, none⟩ = some (.int .i64 (f0' : Int)) := by rw [← HFX.out]; exact cf
    have HTH := Lib.hid hth
    have HST := Lib.hid hset
    have hnP := hne P HOP.out
    obtain ⟨-, q1, -, -, -, -, -, q7, q8⟩ := HK8.out.c
    clear hth hset cf c14d hne
    obtain ⟨bb, hbb⟩ : ∃ bb, decide (0 < fr ∧ f0' ≤ fr) = bb := ⟨_, rfl⟩
    have HBB := Lib.hid hbb
    clear hbb
    go_upto_region 13 with fail
    go_cut [120] (fun s wx => s = .bool bb ∧ wx = w8.drew)
    case first =>
      by_cases h0 : fr = 0
      · have hcd := Lib.hid (show ¬ (0 < fr ∧ f0' ≤ fr) by omega)
        have hz1 : ¬ (0 : Int) < (fr : Int) := by omega
        have hz2 : decide ((0 : Int) < (fr : Int)) = false := by simp; omega
        have hz3 : decide (0 < fr) = false := by simp; omega
        clear h0
        as_aux_lemma =>
          have HB2 : Hid (bb = false) := by show _ = _; rw [← HBB.out]; exact decide_eq_false hcd.out
          refine wp_region_held_drew (S := (fun w' => w'.cell? ⟨kc, 14, none⟩ = some (.slice (some ⟨db, 0, none⟩) N N) ∧ w'.cell? ⟨P, 1, none⟩ = some (.int .i64 (F : Int)) ∧ w'.cell? ⟨P, 7, none⟩ = some (.int .i64 (fr : Int)) ∧ w'.cell? ⟨db, F * 2, none⟩ = some (.int .i64 (f0' : Int)))) (by kernel_rfl) (⟨c14, q1, q7, cf2⟩) (fun hHeld => ?_)
          refine held_take (i := 0) (v := ?_) rfl (by kernel_rfl) (by kernel_rfl) (by kernel_rfl) (fun _ _ _ h => h) (by rfl) hHeld ?_ ?_
          rotate_left 1
          · (intro w hSw; (try dsimp only at hSw); go_simp; try (with_reducible rfl))
          try simp only [Act.put, nB, nC, nD]
          refine held_take (i := 1) (v := ?_) rfl (by kernel_rfl) (by kernel_rfl) (by kernel_rfl) (fun _ _ _ h => h) (by rfl) hHeld ?_ ?_
          rotate_left 1
          · (intro w hSw; (try dsimp only at hSw); go_simp; try (with_reducible rfl))
          try simp only [Act.put, nB, nC, nD]
          refine held_take (i := 2) (v := .bool false) rfl (by kernel_rfl) (by kernel_rfl) (by kernel_rfl) (fun _ _ _ h => h) (by rfl) hHeld (fun w hw => (by (try dsimp only at hw); go_simp; first | done | rfl | (simp; omega) | omega)) ?_
          try simp only [Act.put, nB, nC, nD]
          refine held_take (i := 3) (v := ?_) rfl (by kernel_rfl) (by kernel_rfl) (by kernel_rfl) (fun _ _ _ h => h) (by rfl) hHeld ?_ ?_
          rotate_left 1
          · (intro w hSw; (try dsimp only at hSw); go_simp; try (with_reducible rfl))
          try simp only [Act.put, nB, nC, nD]
          refine held_off (i := 4) rfl (by kernel_rfl) (by kernel_rfl) (by kernel_rfl) (fun _ _ _ h => h) (by rfl) hHeld ?_
          try simp only [Act.put, nB, nC, nD]
          refine held_off (i := 5) rfl (by kernel_rfl) (by kernel_rfl) (by kernel_rfl) (fun _ _ _ h => h) (by rfl) hHeld ?_
          try simp only [Act.put, nB, nC, nD]
          refine held_off (i := 6) rfl (by kernel_rfl) (by kernel_rfl) (by kernel_rfl) (fun _ _ _ h => h) (by rfl) hHeld ?_
          try simp only [Act.put, nB, nC, nD]
          refine held_off (i := 7) rfl (by kernel_rfl) (by kernel_rfl) (by kernel_rfl) (fun _ _ _ h => h) (by rfl) hHeld ?_
          try simp only [Act.put, nB, nC, nD]
          refine held_off (i := 8) rfl (by kernel_rfl) (by kernel_rfl) (by kernel_rfl) (fun _ _ _ h => h) (by rfl) hHeld ?_
          try simp only [Act.put, nB, nC, nD]
          refine held_off (i := 9) rfl (by kernel_rfl) (by kernel_rfl) (by kernel_rfl) (fun _ _ _ h => h) (by rfl) hHeld ?_
          try simp only [Act.put, nB, nC, nD]
          refine held_off (i := 10) rfl (by kernel_rfl) (by kernel_rfl) (by kernel_rfl) (fun _ _ _ h => h) (by rfl) hHeld ?_
          try simp only [Act.put, nB, nC, nD]
          refine held_off (i := 11) rfl (by kernel_rfl) (by kernel_rfl) (by kernel_rfl) (fun _ _ _ h => h) (by rfl) hHeld ?_
          try simp only [Act.put, nB, nC, nD]
          refine held_off (i := 12) rfl (by kernel_rfl) (by kernel_rfl) (by kernel_rfl) (fun _ _ _ h => h) (by rfl) hHeld ?_
          try simp only [Act.put, nB, nC, nD]
          refine held_off (i := 13) rfl (by kernel_rfl) (by kernel_rfl) (by kernel_rfl) (fun _ _ _ h => h) (by rfl) hHeld ?_
          try simp only [Act.put, nB, nC, nD]
          refine held_off (i := 14) rfl (by kernel_rfl) (by kernel_rfl) (by kernel_rfl) (fun _ _ _ h => h) (by rfl) hHeld ?_
          try simp only [Act.put, nB, nC, nD]
          refine held_off (i := 15) rfl (by kernel_rfl) (by kernel_rfl) (by kernel_rfl) (fun _ _ _ h => h) (by rfl) hHeld ?_
          try simp only [Act.put, nB, nC, nD]
          refine held_take (i := 16) (v := ?_) rfl (by kernel_rfl) (by kernel_rfl) (by kernel_rfl) (fun _ _ _ h => h) (by rfl) hHeld ?_ ?_
          rotate_left 1
          · (intro w hSw; (try dsimp only at hSw); go_simp; try (with_reducible rfl))
          try simp only [Act.put, nB, nC, nD]
          refine wpAnyH_done (by kernel_rfl) ?_ _
          clear hHeld
          go_wp2_with fail
          go_meet
          exact ⟨by have h9 := HB2.out; subst h9; first | rfl | (simp; omega), rfl⟩
      · have h0i : (0 : Int) < (fr : Int) := by omega
        by_cases h1 : f0' ≤ fr
        · have hcd := Lib.hid (show 0 < fr ∧ f0' ≤ fr by omega)
          have h1i : (f0' : Int) ≤ (fr : Int) := by omega
          clear h0 h1
          as_aux_lemma =>
            have HB2 : Hid (bb = true) := by show _ = _; rw [← HBB.out]; exact decide_eq_true hcd.out
            refine wp_region_held_drew (S := (fun w' => w'.cell? ⟨kc, 14, none⟩ = some (.slice (some ⟨db, 0, none⟩) N N) ∧ w'.cell? ⟨P, 1, none⟩ = some (.int .i64 (F : Int)) ∧ w'.cell? ⟨P, 7, none⟩ = some (.int .i64 (fr : Int)) ∧ w'.cell? ⟨db, F * 2, none⟩ = some (.int .i64 (f0' : Int)))) (by kernel_rfl) (⟨c14, q1, q7, cf2⟩) (fun hHeld => ?_)
            refine held_take (i := 0) (v := ?_) rfl (by kernel_rfl) (by kernel_rfl) (by kernel_rfl) (fun _ _ _ h => h) (by rfl) hHeld ?_ ?_
            rotate_left 1
            · (intro w hSw; (try dsimp only at hSw); go_simp; try (with_reducible rfl))
            try simp only [Act.put, nB, nC, nD]
            refine held_take (i := 1) (v := ?_) rfl (by kernel_rfl) (by kernel_rfl) (by kernel_rfl) (fun _ _ _ h => h) (by rfl) hHeld ?_ ?_
            rotate_left 1
            · (intro w hSw; (try dsimp only at hSw); go_simp; try (with_reducible rfl))
            try simp only [Act.put, nB, nC, nD]
            refine held_take (i := 2) (v := .bool true) rfl (by kernel_rfl) (by kernel_rfl) (by kernel_rfl) (fun _ _ _ h => h) (by rfl) hHeld (fun w hw => (by (try dsimp only at hw); go_simp; first | done | rfl | (simp; omega) | omega)) ?_
            try simp only [Act.put, nB, nC, nD]
            refine held_take (i := 3) (v := ?_) rfl (by kernel_rfl) (by kernel_rfl) (by kernel_rfl) (fun _ _ _ h => h) (by rfl) hHeld ?_ ?_
            rotate_left 1
            · (intro w hSw; (try dsimp only at hSw); go_simp; try (with_reducible rfl))
            try simp only [Act.put, nB, nC, nD]
            refine held_take (i := 4) (v := ?_) rfl (by kernel_rfl) (by kernel_rfl) (by kernel_rfl) (fun _ _ _ h => h) (by rfl) hHeld ?_ ?_
            rotate_left 1
            · (intro w hSw; (try dsimp only at hSw); go_simp; try (with_reducible rfl))
            try simp only [Act.put, nB, nC, nD]
            refine held_take (i := 5) (v := ?_) rfl (by kernel_rfl) (by kernel_rfl) (by kernel_rfl) (fun _ _ _ h => h) (by rfl) hHeld ?_ ?_
            rotate_left 1
            · (intro w hSw; (try dsimp only at hSw); go_simp; try (with_reducible rfl))
            try simp only [Act.put, nB, nC, nD]
            refine held_take (i := 6) (v := ?_) rfl (by kernel_rfl) (by kernel_rfl) (by kernel_rfl) (fun _ _ _ h => h) (by rfl) hHeld ?_ ?_
            rotate_left 1
            · (intro w hSw; (try dsimp only at hSw); go_simp; try (with_reducible rfl))
            try simp only [Act.put, nB, nC, nD]
            refine held_take (i := 7) (v := ?_) rfl (by kernel_rfl) (by kernel_rfl) (by kernel_rfl) (fun _ _ _ h => h) (by rfl) hHeld ?_ ?_
            rotate_left 1
            · (intro w hSw; (try dsimp only at hSw); go_simp; try (with_reducible rfl))
            try simp only [Act.put, nB, nC, nD]
            refine held_take (i := 8) (v := ?_) rfl (by kernel_rfl) (by kernel_rfl) (by kernel_rfl) (fun _ _ _ h => h) (by rfl) hHeld ?_ ?_
            rotate_left 1
            · (intro w hSw; (try dsimp only at hSw); go_simp; try (with_reducible rfl))
            try simp only [Act.put, nB, nC, nD]
            refine held_take (i := 9) (v := ?_) rfl (by kernel_rfl) (by kernel_rfl) (by kernel_rfl) (fun _ _ _ h => h) (by rfl) hHeld ?_ ?_
            rotate_left 1
            · (intro w hSw; (try dsimp only at hSw); go_simp; try (with_reducible rfl))
            try simp only [Act.put, nB, nC, nD]
            refine held_take (i := 10) (v := ?_) rfl (by kernel_rfl) (by kernel_rfl) (by kernel_rfl) (fun _ _ _ h => h) (by rfl) hHeld ?_ ?_
            rotate_left 1
            · (intro w hSw; (try dsimp only at hSw); go_simp; try (with_reducible rfl))
            try simp only [Act.put, nB, nC, nD]
            refine held_take (i := 11) (v := ?_) rfl (by kernel_rfl) (by kernel_rfl) (by kernel_rfl) (fun _ _ _ h => h) (by rfl) hHeld ?_ ?_
            rotate_left 1
            · (intro w hSw; (try dsimp only at hSw); go_simp; try (with_reducible rfl))
            try simp only [Act.put, nB, nC, nD]
            refine held_take (i := 12) (v := ?_) rfl (by kernel_rfl) (by kernel_rfl) (by kernel_rfl) (fun _ _ _ h => h) (by rfl) hHeld ?_ ?_
            rotate_left 1
            · (intro w hSw; (try dsimp only at hSw); go_simp; try (with_reducible rfl))
            try simp only [Act.put, nB, nC, nD]
            refine held_take (i := 13) (v := ?_) rfl (by kernel_rfl) (by kernel_rfl) (by kernel_rfl) (fun _ _ _ h => h) (by rfl) hHeld ?_ ?_
            rotate_left 1
            · (intro w hSw; (try dsimp only at hSw); go_simp; try (with_reducible rfl))
            try simp only [Act.put, nB, nC, nD]
            refine held_take (i := 14) (v := ?_) rfl (by kernel_rfl) (by kernel_rfl) (by kernel_rfl) (fun _ _ _ h => h) (by rfl) hHeld ?_ ?_
            rotate_left 1
            · (intro w hSw; (try dsimp only at hSw); go_simp; try (with_reducible rfl))
            try simp only [Act.put, nB, nC, nD]
            refine held_take (i := 15) (v := .bool true) rfl (by kernel_rfl) (by kernel_rfl) (by kernel_rfl) (fun _ _ _ h => h) (by rfl) hHeld (fun w hw => (by (try dsimp only at hw); go_simp; first | done | rfl | (simp; omega) | omega)) ?_
            try simp only [Act.put, nB, nC, nD]
            refine held_take (i := 16) (v := ?_) rfl (by kernel_rfl) (by kernel_rfl) (by kernel_rfl) (fun _ _ _ h => h) (by rfl) hHeld ?_ ?_
            rotate_left 1
            · (intro w hSw; (try dsimp only at hSw); go_simp; try (with_reducible rfl))
            try simp only [Act.put, nB, nC, nD]
            refine wpAnyH_done (by kernel_rfl) ?_ _
            clear hHeld
            go_wp2_with fail
            go_meet
            exact ⟨by have h9 := HB2.out; subst h9; first | rfl | (simp; omega), rfl⟩
        · have hcd := Lib.hid (show ¬ (0 < fr ∧ f0' ≤ fr) by omega)
          have h1i : (fr : Int) < (f0' : Int) := by omega
          have h1d : decide ((f0' : Int) ≤ (fr : Int)) = false := by simp; omega
          clear h0 h1
          as_aux_lemma =>
            have HB2 : Hid (bb = false) := by show _ = _; rw [← HBB.out]; exact decide_eq_false hcd.out
            refine wp_region_held_drew (S := (fun w' => w'.cell? ⟨kc, 14, none⟩ = some (.slice (some ⟨db, 0, none⟩) N N) ∧ w'.cell? ⟨P, 1, none⟩ = some (.int .i64 (F : Int)) ∧ w'.cell? ⟨P, 7, none⟩ = some (.int .i64 (fr : Int)) ∧ w'.cell? ⟨db, F * 2, none⟩ = some (.int .i64 (f0' : Int)))) (by kernel_rfl) (⟨c14, q1, q7, cf2⟩) (fun hHeld => ?_)
            refine held_take (i := 0) (v := ?_) rfl (by kernel_rfl) (by kernel_rfl) (by kernel_rfl) (fun _ _ _ h => h) (by rfl) hHeld ?_ ?_
            rotate_left 1
            · (intro w hSw; (try dsimp only at hSw); go_simp; try (with_reducible rfl))
            try simp only [Act.put, nB, nC, nD]
            refine held_take (i := 1) (v := ?_) rfl (by kernel_rfl) (by kernel_rfl) (by kernel_rfl) (fun _ _ _ h => h) (by rfl) hHeld ?_ ?_
            rotate_left 1
            · (intro w hSw; (try dsimp only at hSw); go_simp; try (with_reducible rfl))
            try simp only [Act.put, nB, nC, nD]
            refine held_take (i := 2) (v := .bool true) rfl (by kernel_rfl) (by kernel_rfl) (by kernel_rfl) (fun _ _ _ h => h) (by rfl) hHeld (fun w hw => (by (try dsimp only at hw); go_simp; first | done | rfl | (simp; omega) | omega)) ?_
            try simp only [Act.put, nB, nC, nD]
            refine held_take (i := 3) (v := ?_) rfl (by kernel_rfl) (by kernel_rfl) (by kernel_rfl) (fun _ _ _ h => h) (by rfl) hHeld ?_ ?_
            rotate_left 1
            · (intro w hSw; (try dsimp only at hSw); go_simp; try (with_reducible rfl))
            try simp only [Act.put, nB, nC, nD]
            refine held_take (i := 4) (v := ?_) rfl (by kernel_rfl) (by kernel_rfl) (by kernel_rfl) (fun _ _ _ h => h) (by rfl) hHeld ?_ ?_
            rotate_left 1
            · (intro w hSw; (try dsimp only at hSw); go_simp; try (with_reducible rfl))
            try simp only [Act.put, nB, nC, nD]
            refine held_take (i := 5) (v := ?_) rfl (by kernel_rfl) (by kernel_rfl) (by kernel_rfl) (fun _ _ _ h => h) (by rfl) hHeld ?_ ?_
            rotate_left 1
            · (intro w hSw; (try dsimp only at hSw); go_simp; try (with_reducible rfl))
            try simp only [Act.put, nB, nC, nD]
            refine held_take (i := 6) (v := ?_) rfl (by kernel_rfl) (by kernel_rfl) (by kernel_rfl) (fun _ _ _ h => h) (by rfl) hHeld ?_ ?_
            rotate_left 1
            · (intro w hSw; (try dsimp only at hSw); go_simp; try (with_reducible rfl))
            try simp only [Act.put, nB, nC, nD]
            refine held_take (i := 7) (v := ?_) rfl (by kernel_rfl) (by kernel_rfl) (by kernel_rfl) (fun _ _ _ h => h) (by rfl) hHeld ?_ ?_
            rotate_left 1
            · (intro w hSw; (try dsimp only at hSw); go_simp; try (with_reducible rfl))
            try simp only [Act.put, nB, nC, nD]
            refine held_take (i := 8) (v := ?_) rfl (by kernel_rfl) (by kernel_rfl) (by kernel_rfl) (fun _ _ _ h => h) (by rfl) hHeld ?_ ?_
            rotate_left 1
            · (intro w hSw; (try dsimp only at hSw); go_simp; try (with_reducible rfl))
            try simp only [Act.put, nB, nC, nD]
            refine held_take (i := 9) (v := ?_) rfl (by kernel_rfl) (by kernel_rfl) (by kernel_rfl) (fun _ _ _ h => h) (by rfl) hHeld ?_ ?_
            rotate_left 1
            · (intro w hSw; (try dsimp only at hSw); go_simp; try (with_reducible rfl))
            try simp only [Act.put, nB, nC, nD]
            refine held_take (i := 10) (v := ?_) rfl (by kernel_rfl) (by kernel_rfl) (by kernel_rfl) (fun _ _ _ h => h) (by rfl) hHeld ?_ ?_
            rotate_left 1
            · (intro w hSw; (try dsimp only at hSw); go_simp; try (with_reducible rfl))
            try simp only [Act.put, nB, nC, nD]
            refine held_take (i := 11) (v := ?_) rfl (by kernel_rfl) (by kernel_rfl) (by kernel_rfl) (fun _ _ _ h => h) (by rfl) hHeld ?_ ?_
            rotate_left 1
            · (intro w hSw; (try dsimp only at hSw); go_simp; try (with_reducible rfl))
            try simp only [Act.put, nB, nC, nD]
            refine held_take (i := 12) (v := ?_) rfl (by kernel_rfl) (by kernel_rfl) (by kernel_rfl) (fun _ _ _ h => h) (by rfl) hHeld ?_ ?_
            rotate_left 1
            · (intro w hSw; (try dsimp only at hSw); go_simp; try (with_reducible rfl))
            try simp only [Act.put, nB, nC, nD]
            refine held_take (i := 13) (v := ?_) rfl (by kernel_rfl) (by kernel_rfl) (by kernel_rfl) (fun _ _ _ h => h) (by rfl) hHeld ?_ ?_
            rotate_left 1
            · (intro w hSw; (try dsimp only at hSw); go_simp; try (with_reducible rfl))
            try simp only [Act.put, nB, nC, nD]
            refine held_take (i := 14) (v := ?_) rfl (by kernel_rfl) (by kernel_rfl) (by kernel_rfl) (fun _ _ _ h => h) (by rfl) hHeld ?_ ?_
            rotate_left 1
            · (intro w hSw; (try dsimp only at hSw); go_simp; try (with_reducible rfl))
            try simp only [Act.put, nB, nC, nD]
            refine held_take (i := 15) (v := .bool false) rfl (by kernel_rfl) (by kernel_rfl) (by kernel_rfl) (fun _ _ _ h => h) (by rfl) hHeld (fun w hw => (by (try dsimp only at hw); go_simp; first | done | rfl | (simp; omega) | omega)) ?_
            try simp only [Act.put, nB, nC, nD]
            refine held_take (i := 16) (v := ?_) rfl (by kernel_rfl) (by kernel_rfl) (by kernel_rfl) (fun _ _ _ h => h) (by rfl) hHeld ?_ ?_
            rotate_left 1
            · (intro w hSw; (try dsimp only at hSw); go_simp; try (with_reducible rfl))
            try simp only [Act.put, nB, nC, nD]
            refine wpAnyH_done (by kernel_rfl) ?_ _
            clear hHeld
            go_wp2_with fail
            go_meet
            exact ⟨by have h9 := HB2.out; subst h9; first | rfl | (simp; omega), rfl⟩
    case rest =>
      obtain ⟨rfl, rfl⟩ := hcut
      clear cf2
      go_upto_if 120 with fail
      by_cases hcd : 0 < fr ∧ f0' ≤ fr
      · as_aux_lemma =>
          have HEQ : ({ ({ s2 with ps := s2.ps.set F { x1 with ha := hn } } : Pl) with ps := ({ s2 with ps := s2.ps.set F { x1 with ha := hn } } : Pl).ps.set F { ({ x1 with ha := hn } : Pr) with fr := fr, su := p.su } } : Pl) = learnP K.C s1 p := by
            rw [HLQ.out, HLP.out, HHN.out, if_pos hcd, if_pos hcd, ← HS2.out]
            dsimp only
            rw [List.set_set]
          obtain rfl : bb = true := by rw [← HBB.out]; exact decide_eq_true hcd
          clear hcd
          have HG9 : Hid (GoesD w0 w K (w8.drew.drew.setCells db (F * 2) [.int .i64 (fr : Int), .int .u32 p.su]) (learnP K.C s1 p)) := by rw [← HEQ]; exact (HST.out fr p.su).1.goes
          clear HEQ
          go_wp2_with fail
          refine wp_region_held_drew (S := (fun w' => w'.cell? ⟨kc, 14, none⟩ = some (.slice (some ⟨db, 0, none⟩) N N) ∧ w'.cell? ⟨P, 1, none⟩ = some (.int .i64 (F : Int)) ∧ w'.cell? ⟨P, 7, none⟩ = some (.int .i64 (fr : Int)) ∧ w'.cell? ⟨P, 8, none⟩ = some (.int .u32 p.su))) (by kernel_rfl) (⟨c14, q1, q7, q8⟩) (fun hHeld => ?_)
          refine held_take (i := 0) (v := ?_) rfl (by kernel_rfl) (by kernel_rfl) (by kernel_rfl) (fun _ _ _ h => h) (by rfl) hHeld ?_ ?_
          rotate_left 1
          · (intro w hSw; (try dsimp only at hSw); go_simp; try (with_reducible rfl))
          try simp only [Act.put, nB, nC, nD]
          refine held_take (i := 1) (v := ?_) rfl (by kernel_rfl) (by kernel_rfl) (by kernel_rfl) (fun _ _ _ h => h) (by rfl) hHeld ?_ ?_
          rotate_left 1
          · (intro w hSw; (try dsimp only at hSw); go_simp; try (with_reducible rfl))
          try simp only [Act.put, nB, nC, nD]
          refine held_take (i := 2) (v := ?_) rfl (by kernel_rfl) (by kernel_rfl) (by kernel_rfl) (fun _ _ _ h => h) (by rfl) hHeld ?_ ?_
          rotate_left 1
          · (intro w hSw; (try dsimp only at hSw); go_simp; try (with_reducible rfl))
          try simp only [Act.put, nB, nC, nD]
          refine held_take (i := 3) (v := ?_) rfl (by kernel_rfl) (by kernel_rfl) (by kernel_rfl) (fun _ _ _ h => h) (by rfl) hHeld ?_ ?_
          rotate_left 1
          · (intro w hSw; (try dsimp only at hSw); go_simp; try (with_reducible rfl))
          try simp only [Act.put, nB, nC, nD]
          refine held_take (i := 4) (v := ?_) rfl (by kernel_rfl) (by kernel_rfl) (by kernel_rfl) (fun _ _ _ h => h) (by rfl) hHeld ?_ ?_
          rotate_left 1
          · (intro w hSw; (try dsimp only at hSw); go_simp; try (with_reducible rfl))
          try simp only [Act.put, nB, nC, nD]
          refine held_take (i := 5) (v := ?_) rfl (by kernel_rfl) (by kernel_rfl) (by kernel_rfl) (fun _ _ _ h => h) (by rfl) hHeld ?_ ?_
          rotate_left 1
          · (intro w hSw; (try dsimp only at hSw); go_simp; try (with_reducible rfl))
          try simp only [Act.put, nB, nC, nD]
          refine held_take (i := 6) (v := ?_) rfl (by kernel_rfl) (by kernel_rfl) (by kernel_rfl) (fun _ _ _ h => h) (by rfl) hHeld ?_ ?_
          rotate_left 1
          · (intro w hSw; (try dsimp only at hSw); go_simp; try (with_reducible rfl))
          try simp only [Act.put, nB, nC, nD]
          refine held_take (i := 7) (v := ?_) rfl (by kernel_rfl) (by kernel_rfl) (by kernel_rfl) (fun _ _ _ h => h) (by rfl) hHeld ?_ ?_
          rotate_left 1
          · (intro w hSw; (try dsimp only at hSw); go_simp; try (with_reducible rfl))
          try simp only [Act.put, nB, nC, nD]
          refine held_take (i := 8) (v := ?_) rfl (by kernel_rfl) (by kernel_rfl) (by kernel_rfl) (fun _ _ _ h => h) (by rfl) hHeld ?_ ?_
          rotate_left 1
          · (intro w hSw; (try dsimp only at hSw); go_simp; try (with_reducible rfl))
          try simp only [Act.put, nB, nC, nD]
          refine held_take (i := 9) (v := ?_) rfl (by kernel_rfl) (by kernel_rfl) (by kernel_rfl) (fun _ _ _ h => h) (by rfl) hHeld ?_ ?_
          rotate_left 1
          · (intro w hSw; (try dsimp only at hSw); go_simp; try (with_reducible rfl))
          try simp only [Act.put, nB, nC, nD]
          refine held_take (i := 10) (v := ?_) rfl (by kernel_rfl) (by kernel_rfl) (by kernel_rfl) (fun _ _ _ h => h) (by rfl) hHeld ?_ ?_
          rotate_left 1
          · (intro w hSw; (try dsimp only at hSw); go_simp; try (with_reducible rfl))
          try simp only [Act.put, nB, nC, nD]
          refine held_take (i := 11) (v := ?_) rfl (by kernel_rfl) (by kernel_rfl) (by kernel_rfl) (fun _ _ _ h => h) (by rfl) hHeld ?_ ?_
          rotate_left 1
          · (intro w hSw; (try dsimp only at hSw); go_simp; try (with_reducible rfl))
          try simp only [Act.put, nB, nC, nD]
          refine held_one (i := 12) rfl (by kernel_rfl) (by rfl) (fun K hK => ?_)
          refine wp_store_mid 137 (.tmp 132) (.tmp 131) (by rfl) db (F * 2) #[.int .i64 (fr : Int), .int .u32 p.su] (by rfl) (by rfl) (fun i hi => HTH.out i hi) (by rw [wd_size]; rfl) (by simp [Value.oneCell']) ?_
          refine hK.out _ _ (by refine ⟨?_, ?_, ?_, ?_⟩ <;> (rw [World.cell?_setCells_out]; (first | exact c14 | exact q1 | exact q7 | exact q8); intro e; (first | exact absurd e hnP | exact absurd e.symm hdk))) (fun hHeld2 => ?_)
          clear hK K hHeld; have hHeld := hHeld2; clear hHeld2
          try simp only [Act.put, nB, nC, nD]
          refine wpAnyH_done (by kernel_rfl) ?_ _
          clear hHeld
          go_wp2_with (first
            | (go_at_call 88; (refine (HHO.out _ _ (HTL.out ▸ HTK.out) HG9.out).mono ?_); rintro en w10 ⟨rfl, hg⟩; have HG10 := Lib.hid hg; clear hg))
          go_ret
          exact ⟨rfl, by rw [HTL.out]; exact HG10.out⟩
      · as_aux_lemma =>
          have HEQ : ({ s2 with ps := s2.ps.set F { x1 with ha := hn } } : Pl) = learnP K.C s1 p := by
            rw [HLQ.out, HLP.out, HHN.out, if_neg hcd, if_neg hcd, ← HS2.out]
            rw [← HFX.out]
          obtain rfl : bb = false := by rw [← HBB.out]; exact decide_eq_false hcd
          clear hcd
          have HG9 : Hid (GoesD w0 w K w8.drew (learnP K.C s1 p)) := by rw [← HEQ]; exact HG8.out.drew.goes
          clear HEQ
          go_wp2_with (first
            | (go_at_call 88; (refine (HHO.out _ _ (HTL.out ▸ HTK.out) HG9.out).mono ?_); rintro en w10 ⟨rfl, hg⟩; have HG10 := Lib.hid hg; clear hg))
          go_ret
          exact ⟨rfl, by rw [HTL.out]; exact HG10.out⟩
end Go.Proofs.YtpnobpligchpiaaGreatDoor
